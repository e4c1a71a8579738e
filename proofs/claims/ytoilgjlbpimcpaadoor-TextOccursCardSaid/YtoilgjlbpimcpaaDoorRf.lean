/- Change. -/
import Derived.Test.YtoilgjlbpimcpaaDoorRe
import Derived.Test.YtoilgjlbpimcpaaDoorZd
namespace Go.Proofs.YtoilgjlbpimcpaaDoor
open Go.RowKit Go.Shelf Tx
set_option linter.unusedVariables false
set_option maxRecDepth 100000
attribute [local go_sem] Oper.semAt_some

theorem occ_next (bS bP : Nat) (p s : ByteArray) (w : World) (hp : p.size ≤ 1000) (hs : s.size ≤ 1000)
    (hS : w.cell? ⟨bS, 0, none⟩ = some (.string s)) (hP : w.cell? ⟨bP, 0, none⟩ = some (.string p)) :
    SeqNext Fence.wide 2 Tryd.prog 158 #[.pointer (some ⟨bS, 0, none⟩), .pointer (some ⟨bP, 0, none⟩)] (fun x : Off p.size s.size => #[.int .i64 x.1]) (fun A B => B.cell? ⟨bS, 0, none⟩ = A.cell? ⟨bS, 0, none⟩ ∧ B.cell? ⟨bP, 0, none⟩ = A.cell? ⟨bP, 0, none⟩)
      (fun pre x => ∃ r, occs (bts p) (bts s) = pre.map (fun x => x.1) ++ x.1 :: r) (fun xs => xs.map (fun x => x.1) = occs (bts p) (bts s)) w := by
  intro l J W hW hJ hY hJ0
  have g1 := (hW.cell (p := ⟨bS, 0, none⟩) (cell_lt hS)).trans hS
  have g2 := (hW.cell (p := ⟨bP, 0, none⟩) (cell_lt hP)).trans hP
  refine (occ_in l bS bP p s hp hs J (fun _ _ => False) (fun pre x W1 h1 h2 h3 => ?_) (fun pre A B hA hAB => hJ pre A B none hA (only_below' hAB) (fun r e => by cases e)) W g1 g2 hJ0).mono ?_
  · obtain ⟨fn, tmps, assign, body, hy, hR⟩ := hY pre x W1 h3 h1
    exact ⟨fn, tmps, assign, body, hy, hR.mono (fun e w' h => .inl h)⟩
  · rintro e W' ⟨h1, h | ⟨_, _, h⟩⟩
    · exact ⟨h1, h⟩
    · exact h.elim
/-- Between two rounds: the boxes, and those of the iterator. -/
def ChJ (w : World) (C D : Nat) (p s u : ByteArray) (pre : List (Off p.size s.size)) (W : World) : Prop :=
  ChB w C p s u (chF (bts p) (bts s) (bts u) (pre.map (fun x => x.1))).2 (chF (bts p) (bts s) (bts u) (pre.map (fun x => x.1))).1 W ∧ Boxed W D 9 (.string p) ∧ Boxed W (D + 1) 9 (.string s)
theorem ChJ.own (w : World) (C D : Nat) (p s u : ByteArray) (B : Nat) (hB : w.heap.size ≤ B) : OwnFrom B (ChJ w C D p s u) := by
  rintro pre X Y row ⟨h1, h2, h3⟩ hg hrow
  have hr := fun r e => (hrow r e).2
  exact ⟨h1.kept hg (fun r e => ⟨Nat.le_trans hB (hrow r e).1, (hrow r e).2⟩), h2.kept hg (boxed_not_row hr h2), h3.kept hg (boxed_not_row hr h3)⟩
theorem String_any (B b : Nat) (l : List UInt8) (w : World) (h : Bld B b l w) (hBw : B ≤ w.heap.size) :
    Calls Tryd.prog 122 #[.pointer (some ⟨b, 0, none⟩)] w fun e w' => e = .returned (.string ⟨l.toArray⟩) ∧ Below B w w' ∧ Oth b w w' :=
  (Tryd.Builder_String_any_k B b l w (Lib.IsBuilderF.of h) hBw).mono fun e w' ⟨h1, _, h2, h3⟩ => ⟨h1, h2, h3⟩
theorem Len_any (B b : Nat) (l : List UInt8) (w : World) (h : Bld B b l w) :
    Calls Tryd.prog 121 #[.pointer (some ⟨b, 0, none⟩)] w fun e w' => e = .returned (.int .i64 (l.length : Int)) ∧ w = w' := by
  have := Tryd.Builder_Len B b (Lib.byteCells l) w h
  rw [byteCells_len] at this
  exact this.mono fun e w' ⟨h1, h2⟩ => ⟨h1, h2.symm⟩
theorem heap_kept {W : World} {k : Nat} {x : Obj} (h : W.heap[k]? = some x) (o : Obj) : (W.alloc o).heap[k]? = some x := (Lib.alloc_old W o k (Array.getElem?_eq_some_iff.1 h).1).trans h
theorem boxed_below {B : Nat} {t : TypeId} {v : Value} {W W' : World} (h : Boxed W B t v) (hb : Below W.heap.size W W') : Boxed W' B t v := (hb.block B h.lt).trans h
set_option maxHeartbeats 8000000 in
theorem Change_any (p s u : ByteArray) (w : World) (hsp : p.size ≤ maxLen) (hss : s.size ≤ maxLen) (hsu : u.size ≤ maxLen) :
    Calls Tryd.prog 44 #[.string p, .string s, .string u] w (GivesS w (changeR (bts p) (bts s) (bts u))) := by
  have KV3 := Lib.hid (areValid3 (w.heap.size + 1 + 1 + 1) p s u ((((w.alloc (.cells #[.string p] 9)).alloc (.cells #[.string s] 9)).alloc (.cells #[.string u] 9)).alloc (.cells #[.string p, .string s, .string u] 9)) hsp hss hsu (by simp) (by have := At.new3 (((w.alloc (.cells #[.string p] 9)).alloc (.cells #[.string s] 9)).alloc (.cells #[.string u] 9)) (.string p) (.string s) (.string u) 9; simpa using this))
  have bx0 := (((Boxed.new w 9 (.string p)).alloc (.cells #[.string s] 9)).alloc (.cells #[.string u] 9)).alloc (.cells #[.string p, .string s, .string u] 9)
  have bx1 := ((Boxed.new (w.alloc (.cells #[.string p] 9)) 9 (.string s)).alloc (.cells #[.string u] 9)).alloc (.cells #[.string p, .string s, .string u] 9)
  have bx2 := (Boxed.new ((w.alloc (.cells #[.string p] 9)).alloc (.cells #[.string s] 9)) 9 (.string u)).alloc (.cells #[.string p, .string s, .string u] 9)
  simp only [World.size_alloc] at bx0 bx1 bx2
  have BX0 := Lib.hid bx0
  have BX1 := Lib.hid bx1
  have BX2 := Lib.hid bx2
  clear bx0 bx1 bx2
  cases hv0 : validL (bts p) && validL (bts s) && validL (bts u) with
  | false =>
    rw [hv0] at KV3
    have HR := Lib.hid (show changeR (bts p) (bts s) (bts u) = ([], 1) by unfold changeR guardR; rw [hv0]; rfl)
    clear hv0
    rw [← callsIn_wide (n := 3)]
    refine callsIn_of_wp_marks Tryd.func44 rfl trivial ?_ rfl
    simp only [Tryd.ntmps44, List.size_toArray, List.length_cons, List.length_nil, Nat.reduceAdd, Nat.reduceSub, Array.replicate_succ, Array.replicate_zero, List.push_toArray, List.append_toArray, List.nil_append, List.cons_append]
    gi_wp2_with (first
      | (refine ⟨trivial, ?_⟩; gi_at_call 99; (with_reducible refine CallsIn.mono (callsIn_wide.2 KV3.out) ?_); clear KV3; rintro e w1 ⟨rfl, hb1⟩; have B1 : Below w.heap.size w w1 := Bl.step (by repeat (first | assumption | exact Below.refl _ _ | refine Bl.alloc ?_ _ | refine Bl.drew ?_)) hb1; have HX0 := Lib.hid (boxed_below BX0.out hb1); have HX1 := Lib.hid (boxed_below BX1.out hb1); have HX2 := Lib.hid (boxed_below BX2.out hb1); have k0 := ((HX0.out.alloc (.cells #[.pointer none, .slice none 0 0] 106)).alloc (.cells #[.int .i64 0] 3)).cell; have k1 := ((HX1.out.alloc (.cells #[.pointer none, .slice none 0 0] 106)).alloc (.cells #[.int .i64 0] 3)).cell)
      | (refine ⟨trivial, ?_⟩; rename_i hKK; refine hKK _ _ ?_))
    refine ⟨_, results_tmp2 rfl _ _ _, ?_⟩
    exact givesS HR.out rfl (by repeat (first | assumption | exact Below.refl _ _ | refine Bl.alloc ?_ _ | refine Bl.drew ?_))
  | true =>
    rw [hv0] at KV3
    have hv01 := Bool.and_eq_true_iff.1 hv0
    have hlen := valid_le (Bool.and_eq_true_iff.1 hv01.1).1
    have hlen2 := valid_le (Bool.and_eq_true_iff.1 hv01.1).2
    have hlen3 := valid_le hv01.2
    have HCL := Lib.hid (show cleanL (changedL (bts p) (bts s) (bts u)) = true from clean_chZ (valid_clean (Bool.and_eq_true_iff.1 hv01.1).2) (valid_clean hv01.2) _ _ _)
    have HR0 := Lib.hid (show changeR (bts p) (bts s) (bts u) = outR (changedL (bts p) (bts s) (bts u)) by unfold changeR guardR; rw [hv0]; rfl)
    have hmix : Tryd.prog.follows .mixedOrders = true := by kernel_rfl
    clear hv0 hv01
    rw [← callsIn_wide (n := 3)]
    refine callsIn_of_wp_marks Tryd.func44 rfl trivial ?_ rfl
    simp only [Tryd.ntmps44, List.size_toArray, List.length_cons, List.length_nil, Nat.reduceAdd, Nat.reduceSub, Array.replicate_succ, Array.replicate_zero, List.push_toArray, List.append_toArray, List.nil_append, List.cons_append]
    gi_wp2_with (first
      | (refine ⟨trivial, ?_⟩; gi_at_call 99; (with_reducible refine CallsIn.mono (callsIn_wide.2 KV3.out) ?_); clear KV3; rintro e w1 ⟨rfl, hb1⟩; have B1 : Below w.heap.size w w1 := Bl.step (by repeat (first | assumption | exact Below.refl _ _ | refine Bl.alloc ?_ _ | refine Bl.drew ?_)) hb1; have HX0 := Lib.hid (boxed_below BX0.out hb1); have HX1 := Lib.hid (boxed_below BX1.out hb1); have HX2 := Lib.hid (boxed_below BX2.out hb1); have k0 := ((HX0.out.alloc (.cells #[.pointer none, .slice none 0 0] 106)).alloc (.cells #[.int .i64 0] 3)).cell; have k1 := ((HX1.out.alloc (.cells #[.pointer none, .slice none 0 0] 106)).alloc (.cells #[.int .i64 0] 3)).cell)
      | (refine ⟨trivial, ?_⟩; gi_at_call 119; (with_reducible refine CallsIn.mono (callsIn_wide.2 (occurrences_any _ _ _)) ?_); rintro e w7 ⟨rfl, rfl⟩)
      | (refine ⟨trivial, ?_⟩; rename_i hKK; refine hKK _ _ ?_))
    obtain ⟨C, hC⟩ : ∃ C, C = w1.heap.size := ⟨_, rfl⟩
    obtain ⟨D, hD⟩ : ∃ D, D = C + 1 + 1 := ⟨_, rfl⟩
    obtain ⟨W8, hW8⟩ : ∃ W8, W8 = (((w1.alloc (.cells #[.pointer none, .slice none 0 0] 106)).alloc (.cells #[.int .i64 0] 3)).alloc (.cells #[.string p] 9)).alloc (.cells #[.string s] 9) := ⟨_, rfl⟩
    have hz8 : W8.heap.size = D + 1 + 1 := by rw [hW8, hD, hC]; simp
    have hB8 : Below w.heap.size w W8 := by rw [hW8]; exact Bl.alloc (Bl.alloc (Bl.alloc (Bl.alloc B1 _) _) _) _
    have hwC : w.heap.size + 1 + 1 < C := by have := HX2.out.lt; omega
    have hC0 : ChB w C p s u 0 [] W8 := by
      rw [hW8, hC]
      exact ⟨(((HX0.out.alloc _).alloc _).alloc _).alloc _, (((HX1.out.alloc _).alloc _).alloc _).alloc _, (((HX2.out.alloc _).alloc _).alloc _).alloc _,
        (by have := ((Boxed.new (w1.alloc (.cells #[.pointer none, .slice none 0 0] 106)) 3 (.int .i64 0)).alloc (.cells #[.string p] 9)).alloc (.cells #[.string s] 9); simp only [World.size_alloc] at this; exact this),
        (((Bld.new w w1 B1.size).alloc _).alloc _).alloc _, Bl.alloc (Bl.alloc (Bl.alloc (Bl.alloc B1 _) _) _) _⟩
    have bP : Boxed W8 D 9 (.string p) := by
      have := (Boxed.new ((w1.alloc (.cells #[.pointer none, .slice none 0 0] 106)).alloc (.cells #[.int .i64 0] 3)) 9 (.string p)).alloc (.cells #[.string s] 9)
      simp only [World.size_alloc] at this
      rw [hW8, hD, hC]; exact this
    have bS : Boxed W8 (D + 1) 9 (.string s) := by
      have := Boxed.new (((w1.alloc (.cells #[.pointer none, .slice none 0 0] 106)).alloc (.cells #[.int .i64 0] 3)).alloc (.cells #[.string p] 9)) 9 (.string s)
      simp only [World.size_alloc] at this
      rw [hW8, hD, hC]; exact this
    have HSTP := Lib.hid (occ_next (D + 1) D p s W8 (by omega) (by omega) bS.cell bP.cell)
    have hCD : C + 1 < D := by omega
    have HB8 := Lib.hid hB8
    have HJ0 := Lib.hid (show ChJ w C D p s u [] W8 from ⟨hC0, bP, bS⟩)
    rw [← hW8, ← hC, ← hD]
    clear hD hW8 hB8 hC0 bP bS hb1 B1 hC k0 k1 HX0 HX1 HX2 BX0 BX1 BX2
    refine wpIn_rangeFunc_next rfl (by omega) (gf := 158) (lb := #[.pointer (some ⟨D + 1, 0, none⟩), .pointer (some ⟨D, 0, none⟩)]) rfl trivial (enters_of Tryd.func158 (by kernel_rfl) rfl) HSTP.out (fun h k => ⟨k.1.trans h.1, k.2.trans h.2⟩) (fun W l o o' hl _ _ _ => ⟨World.cell?_of_block (World.putObj_heap_other (by first | (simp; done) | (simp; omega))), World.cell?_of_block (World.putObj_heap_other (by first | (simp; done) | (simp; omega)))⟩) (fun _ => rfl)
      (ChJ w C D p s u) (ChJ.own _ _ _ _ _ _ _ HB8.out.size) HJ0.out
      (fun x => { tmps := #[.string p, .string s, .string u, .pointer (some ⟨w.heap.size, 0, none⟩), .pointer (some ⟨w.heap.size + 1, 0, none⟩), .pointer (some ⟨w.heap.size + 1 + 1, 0, none⟩), .string ⟨#[]⟩, .int .i64 0, .pointer (some ⟨C, 0, none⟩), .pointer (some ⟨C + 1, 0, none⟩), .int .i64 x.1, .string p, .string s, .string u, .slice (some ⟨w.heap.size + 1 + 1 + 1, 0, none⟩) 3 3, .bool true, .bool false, .string p, .string s, .func (.func 158) #[] #[.pointer (some ⟨D + 1, 0, none⟩), .pointer (some ⟨D, 0, none⟩)], .int .i64 x.1, undef, undef, undef, undef, undef, undef, undef, undef, undef, undef, undef, undef, undef, undef, undef, undef, undef, undef, undef], defers := [] }) ?assign ?body ?done
    case assign =>
      intro l x W K hK
      gi_wp2
      exact hK
    case body =>
      rintro l pre x W ⟨r, hT⟩ ⟨hc, hbp, hbs⟩
      obtain ⟨x, hx0, hx1⟩ := x
      obtain ⟨at0, rfl⟩ := Int.eq_ofNat_of_zero_le hx0
      have hnx := occs_next (w := bts u) hT
      have hlB := chF_len (bts p) (bts s) (bts u) (pre.map (fun x => x.1))
      have hpl : (pre.map (fun x : Off p.size s.size => x.1)).length ≤ 1001 := by
        have h := occs_len (bts p) (bts s)
        rw [hT, List.length_append, bts_length] at h
        simp only [List.length_cons] at h
        omega
      have hl2 : (chF (bts p) (bts s) (bts u) (pre.map (fun x => x.1))).1.length ≤ 100000000 := by
        refine Nat.le_trans hlB (Nat.le_trans (Nat.mul_le_mul hpl (Nat.add_le_add (by rw [bts_length]; exact hlen2) (by rw [bts_length]; exact hlen3))) (by decide))
      have HF := Lib.hid (chF_snoc (bts p) (bts s) (bts u) (pre.map (fun x => x.1)) (at0 : Int))
      obtain ⟨⟨L0, d⟩, hch⟩ : ∃ a, a = chF (bts p) (bts s) (bts u) (pre.map (fun x => x.1)) := ⟨_, rfl⟩
      rw [← hch] at hc hnx hl2 HF
      dsimp only at hc hnx hl2
      have hd1 : d ≤ at0 := by omega
      have hd2 : at0 ≤ s.size := by omega
      have m0 := hc.fs.cell
      have m1 := hc.fd.cell
      have m2 := hc.fu.cell
      obtain ⟨t, ht⟩ : ∃ t, t = s.extract d at0 ++ u := ⟨_, rfl⟩
      have HTB := Lib.hid (show bts t = ((bts s).drop d).take (at0 - d) ++ bts u by rw [ht, bts_append, bts_extract])
      have hts : t.size ≤ 100000000 := by
        have := size_of_bts HTB.out
        rw [List.length_append, List.length_take, List.length_drop, bts_length, bts_length] at this
        omega
      have hti : s.extract d at0 ++ u = t := ht.symm
      have HCW := Lib.hid hc
      have HBP := Lib.hid hbp
      have HBS := Lib.hid hbs
      have KWS := fun (W' : World) (h : Bld w.heap.size C L0 W') (h2 : w.heap.size ≤ W'.heap.size) => Lib.hid (WriteString_any w.heap.size C L0 t W' h hl2 hts h2)
      have hwa : IntKind.i64.wrap ((at0 : Int) + (p.size : Int)) = (at0 : Int) + (p.size : Int) := IntWalk.i64_in _ (by omega)
      have hdi : (d : Int) ≤ (at0 : Int) := by omega
      have hai : (at0 : Int) ≤ (s.size : Int) := by omega
      have hszW := hc.b.size
      have hsum : at0 - d + u.size ≤ 9223372036854775807 := by omega
      clear hT hc hbp hbs hnx hlB hpl hl2 hts ht hch
      gi_wp2
      refine wpIn_region_round_held (fun w' => w'.cell? ⟨w.heap.size + 1, 0, none⟩ = some (.string s) ∧ w'.cell? ⟨C + 1, 0, none⟩ = some (.int .i64 (d : Int)) ∧ w'.cell? ⟨w.heap.size + 1 + 1, 0, none⟩ = some (.string u)) hmix (by kernel_rfl) ?_
      have hS0 : W.drew.cell? ⟨w.heap.size + 1, 0, none⟩ = some (.string s) ∧ W.drew.cell? ⟨C + 1, 0, none⟩ = some (.int .i64 (d : Int)) ∧ W.drew.cell? ⟨w.heap.size + 1 + 1, 0, none⟩ = some (.string u) := ⟨m0, m1, m2⟩
      refine wpAnyH_take (i := 0) (v := .string s) rfl (by kernel_rfl) (by kernel_rfl) (by kernel_rfl) (fun _ _ _ h => calm_panic h) (Or.inl ⟨by rfl, ?_⟩) hS0 ?_
      · intro w' hSw
        obtain ⟨s1, s2, s3⟩ := hSw
        go_simp
      try simp only [Act.put, List.setIfInBounds_toArray, List.set_cons_zero, List.set_cons_succ]
      refine wpAnyH_take (i := 1) (v := .int .i64 (d : Int)) rfl (by kernel_rfl) (by kernel_rfl) (by kernel_rfl) (fun _ _ _ h => calm_panic h) (Or.inl ⟨by rfl, ?_⟩) hS0 ?_
      · intro w' hSw
        obtain ⟨s1, s2, s3⟩ := hSw
        go_simp
      try simp only [Act.put, List.setIfInBounds_toArray, List.set_cons_zero, List.set_cons_succ]
      refine wpAnyH_take (i := 2) (v := .int .i64 (at0 : Int)) rfl (by kernel_rfl) (by kernel_rfl) (by kernel_rfl) (fun _ _ _ h => calm_panic h) (Or.inl ⟨by rfl, ?_⟩) hS0 ?_
      · intro w' hSw
        obtain ⟨s1, s2, s3⟩ := hSw
        go_simp
      try simp only [Act.put, List.setIfInBounds_toArray, List.set_cons_zero, List.set_cons_succ]
      refine wpAnyH_take (i := 3) (v := .string (s.extract d at0)) rfl (by kernel_rfl) (by kernel_rfl) (by kernel_rfl) (fun _ _ _ h => calm_panic h) (Or.inl ⟨by rfl, ?_⟩) hS0 ?_
      · intro w' hSw
        obtain ⟨s1, s2, s3⟩ := hSw
        go_simp
      try simp only [Act.put, List.setIfInBounds_toArray, List.set_cons_zero, List.set_cons_succ]
      refine wpAnyH_take (i := 4) (v := .string u) rfl (by kernel_rfl) (by kernel_rfl) (by kernel_rfl) (fun _ _ _ h => calm_panic h) (Or.inl ⟨by rfl, ?_⟩) hS0 ?_
      · intro w' hSw
        obtain ⟨s1, s2, s3⟩ := hSw
        go_simp
      try simp only [Act.put, List.setIfInBounds_toArray, List.set_cons_zero, List.set_cons_succ]
      refine wpAnyH_take (i := 5) (v := .string t) rfl (by kernel_rfl) (by kernel_rfl) (by kernel_rfl) (fun _ _ _ h => calm_panic h) (Or.inl ⟨by rfl, ?_⟩) hS0 ?_
      · intro w' hSw
        obtain ⟨s1, s2, s3⟩ := hSw
        go_simp
      try simp only [Act.put, List.setIfInBounds_toArray, List.set_cons_zero, List.set_cons_succ]
      refine wpAnyH_ready (rs := [6]) (by kernel_rfl) (by simp) ?_
      refine AllReadyH.cons rfl (fun K hK => ?_) AllReadyH.nil
      go_simp
      refine Calls.mono (KWS _ (show Bld w.heap.size C L0 W.drew from HCW.out.bl.own ((only_below' ((Below.refl _ W).drew))) (fun r e => by cases e)) hszW).out ?_
      rintro e w5 ⟨rfl, hbl5, hb5, ho5⟩
      have HB5 := Lib.hid hb5
      have HO5 := Lib.hid ho5
      have hcd : ChB w C p s u d L0 W.drew := HCW.out.kept (only_below' ((Below.refl _ W).drew)) (fun r e => by cases e)
      have hc5 := hcd.wrote hbl5 hb5 ho5 hwC
      have HC5 := Lib.hid hc5
      have HBP5 := Lib.hid (ho5.box (show Boxed W.drew D _ _ from HBP.out) (by omega) (by decide))
      have HBS5 := Lib.hid (ho5.box (show Boxed W.drew (D + 1) _ _ from HBS.out) (by omega) (by decide))
      have HK5 := Lib.hid (ho5.keeps hcd.bl (by have h6 := hc5.fp.lt; have h5 := hb5.size; exact h5))
      have n0 := hc5.fs.cell
      have n1 := hc5.fd.cell
      have n2 := hc5.fu.cell
      have n3 := hc5.fp.cell
      have n4 := hc5.fd.frozen
      refine hK.out _ _ ⟨n0, n1, n2⟩ (fun hHeld => ?_)
      clear hK K hHeld hbl5 hb5 ho5 hc5 hcd
      try simp only [Act.put, List.setIfInBounds_toArray, List.set_cons_zero, List.set_cons_succ]
      refine wpAnyH_done (by kernel_rfl) ⟨rfl, ?_⟩ _
      gi_wp2
      have HE := Lib.hid (show chF (bts p) (bts s) (bts u) ((pre ++ [(⟨(at0 : Int), hx0, hx1⟩ : Off p.size s.size)]).map (fun x => x.1)) = (L0 ++ bts t, at0 + p.size) by
        rw [List.map_append, List.map_cons, List.map_nil, HF.out, HTB.out]
        unfold chS
        simp only [Int.toNat_natCast, bts_length])
      refine ⟨(((KeepsOthers.drew W).trans HK5.out).trans (KeepsOthers.setCell _ _ _)).from _, ⟨?_, ?_⟩, ?_⟩
      · rw [cell_set_other (by omega)]; exact HBS5.out.cell.trans HBS.out.cell.symm
      · rw [cell_set_other (by omega)]; exact HBP5.out.cell.trans HBP.out.cell.symm
      · unfold ChJ
        rw [HE.out]
        refine ⟨?_, boxed_set1 HBP5.out (by omega) 0 _, boxed_set1 HBS5.out (by omega) 0 _⟩
        have := HC5.out.done (d' := at0 + p.size) hwC
        rw [Int.natCast_add] at this
        exact this
    case done =>
      rintro DD ys W hDD hys ⟨hc, hbp, hbs⟩ hK
      rw [hys] at hc
      have hdle : (chF (bts p) (bts s) (bts u) (occs (bts p) (bts s))).2 ≤ (bts s).length := chF_le _ (fun y hy => by
        rw [← hys] at hy
        obtain ⟨z, hz, rfl⟩ := List.mem_map.1 hy
        rw [bts_length, bts_length]; exact z.2)
      have hlB := chF_len (bts p) (bts s) (bts u) (occs (bts p) (bts s))
      have hl2 : (chF (bts p) (bts s) (bts u) (occs (bts p) (bts s))).1.length ≤ 100000000 := by
        refine Nat.le_trans hlB (Nat.le_trans (Nat.mul_le_mul (Nat.le_trans (occs_len _ _) (by rw [bts_length]; omega : (bts s).length + 1 ≤ 1001)) (Nat.add_le_add (by rw [bts_length]; exact hlen2) (by rw [bts_length]; exact hlen3))) (by decide))
      have hCF := changed_fold (bts p) (bts s) (bts u)
      rw [bts_length] at hdle
      obtain ⟨⟨L0, d⟩, hch⟩ : ∃ a, a = chF (bts p) (bts s) (bts u) (occs (bts p) (bts s)) := ⟨_, rfl⟩
      rw [← hch] at hc hdle hl2 hCF
      dsimp only at hc hdle hl2 hCF
      obtain ⟨t, ht⟩ : ∃ t, t = s.extract d s.size := ⟨_, rfl⟩
      have htb : bts t = (bts s).drop d := by rw [ht, bts_extract]; exact List.take_of_length_le (by rw [List.length_drop, bts_length]; omega)
      have hts : t.size ≤ 100000000 := by
        have := size_of_bts htb
        rw [List.length_drop, bts_length] at this
        omega
      rw [← htb] at hCF
      have hti : s.extract d s.size = t := ht.symm
      have HCF := Lib.hid hCF
      obtain ⟨R, hRR⟩ : ∃ R, R = L0 ++ bts t := ⟨_, rfl⟩
      have KWS := fun (W' : World) (h : Bld w.heap.size C L0 W') (h2 : w.heap.size ≤ W'.heap.size) => Lib.hid (WriteString_any w.heap.size C L0 t W' h hl2 hts h2)
      rw [← hRR] at KWS
      have HCH := Lib.hid (show changedL (bts p) (bts s) (bts u) = R by rw [hCF, hRR])
      have m0 := hc.fs.cell
      have m1 := hc.fd.cell
      have hdi : (d : Int) ≤ (s.size : Int) := by omega
      have HCW := Lib.hid hc
      have HK := Lib.hid hK
      have HDD := Lib.hid hDD
      have hRn : (0 : Int) ≤ (R.length : Int) := by omega
      have KLN := fun (W' : World) (h : Bld w.heap.size C R W') => Lib.hid (Len_any w.heap.size C R W' h)
      have hszW := hc.b.size
      have hDC : ¬ DD = C := by omega
      clear hys hlB hCF hch hl2 hts ht htb hRR hc hbp hbs hK hDD hdle
      by_cases hbig : 1000 < R.length
      · have HRR := Lib.hid (show changeR (bts p) (bts s) (bts u) = ([], 3) by rw [HR0.out, HCH.out, outR_long hbig])
        have hdb : decide (1000 < (R.length : Int)) = true := decide_eq_true (by omega)
        gi_wp2_with (first
          | (refine ⟨trivial, ?_⟩; gi_at_call 120; (with_reducible refine CallsIn.mono (callsIn_wide.2 (KWS _ HCW.out.bl hszW).out) ?_); clear KWS; rintro e w6 ⟨rfl, hbl6, hb6, ho6⟩; have HB6 := Lib.hid (HCW.out.b.trans hb6); have HK6 := Lib.hid (show (w6.alloc (.cells #[.int .i64 (R.length : Int)] 3)).heap[DD]? = some (.deferred (some [])) from heap_kept (ho6 DD _ HK.out (by simpa using hDC) (fun c fz e => by cases e)) _); have HBL6 := Lib.hid hbl6; have KT := Lib.hid (isTooLong1 w6.heap.size (R.length : Int) (w6.alloc (.cells #[.int .i64 (R.length : Int)] 3)) hRn (cellAt rfl)); rw [hdb] at KT; clear hbl6 hb6 ho6)
          | (refine ⟨trivial, ?_⟩; gi_at_call 121; (with_reducible refine CallsIn.mono (callsIn_wide.2 (KLN _ HBL6.out).out) ?_); rintro e w9 ⟨rfl, rfl⟩)
          | (refine ⟨trivial, ?_⟩; gi_at_call 101; (with_reducible refine CallsIn.mono (callsIn_wide.2 KT.out) ?_); rintro e w9 ⟨rfl, rfl⟩)
          | (refine ⟨trivial, ?_⟩; rename_i hKK; refine hKK _ _ ?_))
        refine ⟨by simp, .inl ⟨_, _, rfl, run_takeDeferred HK6.out, ?_⟩⟩
        refine ⟨_, results_tmp2 rfl _ _ _, ?_⟩
        exact givesS HRR.out rfl ((Bl.alloc HB6.out _).trans (belowK_b (w := w) (Nat.le_refl _) _ DD _ (.deferred none) (by have := HDD.out; omega) HK6.out rfl rfl))
      · have HRR := Lib.hid (show changeR (bts p) (bts s) (bts u) = (R, 0) by rw [HR0.out, HCH.out, outR_ok (by rw [← HCH.out]; exact HCL.out) (by omega)])
        have hdb : decide (1000 < (R.length : Int)) = false := decide_eq_false (by omega)
        gi_wp2_with (first
          | (refine ⟨trivial, ?_⟩; gi_at_call 120; (with_reducible refine CallsIn.mono (callsIn_wide.2 (KWS _ HCW.out.bl hszW).out) ?_); clear KWS; rintro e w6 ⟨rfl, hbl6, hb6, ho6⟩; have HB6 := Lib.hid (HCW.out.b.trans hb6); have HK6 := Lib.hid (show (w6.alloc (.cells #[.int .i64 (R.length : Int)] 3)).heap[DD]? = some (.deferred (some [])) from heap_kept (ho6 DD _ HK.out (by simpa using hDC) (fun c fz e => by cases e)) _); have HBL6 := Lib.hid hbl6; have KT := Lib.hid (isTooLong1 w6.heap.size (R.length : Int) (w6.alloc (.cells #[.int .i64 (R.length : Int)] 3)) hRn (cellAt rfl)); rw [hdb] at KT; clear hbl6 hb6 ho6)
          | (refine ⟨trivial, ?_⟩; gi_at_call 121; (with_reducible refine CallsIn.mono (callsIn_wide.2 (KLN _ HBL6.out).out) ?_); rintro e w9 ⟨rfl, rfl⟩)
          | (refine ⟨trivial, ?_⟩; gi_at_call 101; (with_reducible refine CallsIn.mono (callsIn_wide.2 KT.out) ?_); rintro e w9 ⟨rfl, rfl⟩)
          | (refine ⟨trivial, ?_⟩; gi_at_call 122; (with_reducible refine CallsIn.mono (callsIn_wide.2 (String_any w.heap.size C R _ (HBL6.out.alloc _) (by have := HB6.out.size; simp; omega))) ?_); rintro e w8 ⟨rfl, hb8, ho8⟩; have HB8 := Lib.hid ((Bl.alloc HB6.out _).trans hb8); have HK8 := Lib.hid (ho8 DD _ HK6.out (by simpa using hDC) (fun c fz e => by cases e)); clear hb8 ho8)
          | (refine ⟨trivial, ?_⟩; rename_i hKK; refine hKK _ _ ?_))
        refine ⟨by simp, .inl ⟨_, _, rfl, run_takeDeferred HK8.out, ?_⟩⟩
        refine ⟨_, results_tmp2 rfl _ _ _, ?_⟩
        exact givesS HRR.out (bts_mk R) (HB8.out.trans (belowK_b (w := w) (Nat.le_refl _) _ DD _ (.deferred none) (by have := HDD.out; omega) HK8.out rfl rfl))
end Go.Proofs.YtoilgjlbpimcpaaDoor
