/- The words of a string, as strings. -/
import Derived.Test.YtoilgjlbpimcpaaDoorZb
import Derived.Test.YtoilgjlbpimcpaaDoorZd
namespace Go.Proofs.YtoilgjlbpimcpaaDoor
open Go.RowKit Go.Shelf Tx
set_option linter.unusedVariables false
set_option maxRecDepth 100000
attribute [local go_sem] Oper.semAt_some

theorem infoStr : (Tryd.prog.info? 9).map (fun i => (i.zero, i.size, i.bytes)) = some (some (.string ⟨#[]⟩), 1, 16) := by kernel_rfl
def txt (s : ByteArray) (p : Nat × Nat) : Value := .string (s.extract p.1 p.2)
/-- The boxes of wordTexts, and the words that have come. -/
structure WtAt (w : World) (s : ByteArray) (l : List (Nat × Nat)) (W : World) : Prop where
  x : Boxed W w.heap.size 9 (.string s)
  v : ∃ v, Boxed W (w.heap.size + 1) 121 v ∧ W.ownsRow (w.heap.size + 1 + 1 + 1) 9 1 v l.length (l.map (txt s)) ∧ True
  s : Boxed W (w.heap.size + 1 + 1) 9 (.string s)
  b : Below w.heap.size w W
theorem WtAt.kept {w : World} {s : ByteArray} {l : List (Nat × Nat)} {X Y : World} {row : Option Nat} (h : WtAt w s l X) (hg : X.grownBy Y row)
    (hrow : ∀ r, row = some r → w.heap.size ≤ r ∧ ∃ o : Obj, X.heap[r]? = some o ∧ o.isCells = false) : WtAt w s l Y := by
  have hr := fun r e => (hrow r e).2
  exact ⟨h.x.kept hg (boxed_not_row hr h.x), holdsRow_own (w.heap.size + 1 + 1 + 1) (w.heap.size + 1) 121 9 1 (fun p : List (Nat × Nat) => p.length) (fun p => p.map (txt s)) (fun _ _ => True) l X Y row h.v hg hr, h.s.kept hg (boxed_not_row hr h.s), h.b.grown hg h.b.size (fun k e => (hrow k e).1)⟩
def WtJ (w : World) (s : ByteArray) (pre : List (Sp s.size)) (W : World) : Prop := WtAt w s (pre.map (fun x => x.1)) W
theorem WtJ.own (w : World) (s : ByteArray) (B : Nat) (hB : w.heap.size ≤ B) : OwnFrom B (WtJ w s) := by
  rintro pre X Y row h1 hg hrow
  exact h1.kept hg (fun r e => ⟨Nat.le_trans hB (hrow r e).1, (hrow r e).2⟩)
theorem WtAt.new (w : World) (s : ByteArray) : WtAt w s [] (((w.alloc (.cells #[.string s] 9)).alloc (.cells #[.slice none 0 0] 121)).alloc (.cells #[.string s] 9)) := by
  have h1 := ((Boxed.new w 9 (.string s)).alloc (.cells #[.slice none 0 0] 121)).alloc (.cells #[.string s] 9)
  have h2 := (Boxed.new (w.alloc (.cells #[.string s] 9)) 121 (.slice none 0 0)).alloc (.cells #[.string s] 9)
  have h3 := Boxed.new ((w.alloc (.cells #[.string s] 9)).alloc (.cells #[.slice none 0 0] 121)) 9 (.string s)
  simp only [World.size_alloc] at h1 h2 h3
  exact ⟨h1, ⟨_, h2, World.ownsRow_nil _ _ _ _, trivial⟩, h3, Bl.alloc (Bl.alloc (Bl.alloc (Below.refl _ w) _) _) _⟩

theorem ownsRow_low {w : World} {A B : Nat} {e : TypeId} {k : Nat} {v : Value} {n : Nat} {xs : List Value} (h : w.ownsRow B e k v n xs) (hAB : A ≤ B) : w.ownsRow A e k v n xs := by
  obtain ⟨hl, h | ⟨g, cap, cur, h1, h2, h3⟩⟩ := h
  · exact ⟨hl, .inl h⟩
  · exact ⟨hl, .inr ⟨g, cap, cur, h1, Nat.le_trans hAB h2, h3⟩⟩
theorem own_shape {w : World} {B : Nat} {e : TypeId} {k : Nat} {v : Value} {n : Nat} {xs : List Value} (h : w.ownsRow B e k v n xs) : ∃ ao cap, v = .slice ao n cap := by
  obtain ⟨hl, ⟨rfl, rfl⟩ | ⟨g, cap, cur, h1, h2, h3⟩⟩ := h
  · exact ⟨none, 0, rfl⟩
  · exact ⟨_, _, h1⟩
theorem own_cells {w : World} {B : Nat} {e : TypeId} {k : Nat} {v : Value} {n : Nat} {xs : List Value} (h : w.ownsRow B e k v n xs) : ∀ (j : Nat) (o : Obj), v.ownBlock = some j → w.heap[j]? = some o → o.isCells = true := by
  intro j o hj ho
  obtain ⟨hl, ⟨rfl, rfl⟩ | ⟨g, cap, cur, rfl, h2, h3, _⟩⟩ := h
  · cases hj
  · have e' : g = j := by injection hj
    rw [← e', h3] at ho
    cases ho
    rfl
theorem ownsRow_set {w : World} {B : Nat} {e : TypeId} {k : Nat} {v : Value} {n : Nat} {xs : List Value} (h : w.ownsRow B e k v n xs) {p : Addr} (hp : p.block < B) (x : Value) : (w.setCell p x).ownsRow B e k v n xs := by
  obtain ⟨hl, h | ⟨g, cap, cur, h1, h2, h3, h4⟩⟩ := h
  · exact ⟨hl, .inl h⟩
  · refine ⟨hl, .inr ⟨g, cap, cur, h1, h2, ?_, h4⟩⟩
    have hne : p.block ≠ g := by omega
    rw [← h3]
    simp [World.setCell, Array.getElem?_modify, hne]
theorem two_alloc {W : World} {B : Nat} {t : TypeId} {u v : Value} (h : Box2 W B t u v) (o : Obj) : Box2 (W.alloc o) B t u v := h.own (World.grownBy_alloc _ o none) (fun r e => by cases e)
theorem wt_box {W w5 : World} {B n : Nat} {v : Value} {o : Obj} {L : List Value} {base : Nat} (h : Boxed W B 121 v) (hv : W.ownsRow base 9 1 v n L) (hg : (W.alloc o).drew.grownBy w5 v.ownBlock) : Boxed w5 B 121 v := by
  have h1 : Boxed (W.alloc o).drew B 121 v := Boxed.alloc h o
  exact h1.kept hg (Boxed.not_row h1 (by decide) (World.ownsRow.alloc hv o))
theorem wt_str {W w5 : World} {B n : Nat} {v x : Value} {o : Obj} {L : List Value} {base : Nat} (h : Boxed W B 9 x) (hv : W.ownsRow base 9 1 v n L) (h0 : base ≤ base) (hB : B < base) (hg : (W.alloc o).drew.grownBy w5 v.ownBlock) : Boxed w5 B 9 x := by
  have h1 : Boxed (W.alloc o).drew B 9 x := Boxed.alloc h o
  exact h1.kept hg (fun e => by have := (World.ownsRow.lt hv B e.symm).1; omega)
theorem wt_two {W w5 : World} {B n : Nat} {v x y : Value} {o : Obj} {L : List Value} {base : Nat} (h : Box2 W B 124 x y) (hv : W.ownsRow base 9 1 v n L) (hg : (W.alloc o).drew.grownBy w5 v.ownBlock) : Box2 w5 B 124 x y := by
  have h1 : Box2 (W.alloc o).drew B 124 x y := two_alloc h o
  refine (hg.block B (Array.getElem?_eq_some_iff.1 h1).1 (fun e => ?_)).trans h1
  rcases hv.2 with ⟨rfl, _⟩ | ⟨g, cap, cur, rfl, _, hgb, _⟩
  · cases e
  · have e' : B = g := by injection e
    have h2 : W.heap[B]? = _ := h
    rw [e', hgb] at h2
    cases h2
set_option maxHeartbeats 4000000 in
theorem wordTexts_any (s : ByteArray) (w : World) (hs : s.size ≤ 1000000) :
    Calls Tryd.prog 130 #[.string s] w fun e w' => ∃ v, e = .returned v ∧ w'.ownsRow w.heap.size 9 1 v (spans (bts s)).length ((spans (bts s)).map (txt s)) ∧ Below w.heap.size w w' := by
  have KW := fun (W : World) (b : Nat) (hb : W.cell? ⟨b, 0, none⟩ = some (.string s)) (hl : b < W.heap.size) => Lib.hid (fun w' hw' => words_stopsC b s W (by omega) hb hl w' hw')
  rw [← callsIn_wide (n := 3)]
  refine callsIn_of_wp_marks Tryd.func130 rfl trivial ?_ rfl
  simp only [Tryd.ntmps130, List.size_toArray, List.length_cons, List.length_nil, Nat.reduceAdd, Nat.reduceSub, Array.replicate_succ, Array.replicate_zero, List.push_toArray, List.append_toArray, List.nil_append, List.cons_append]
  gi_wp2_with (refine ⟨trivial, ?_⟩; gi_at_call 162; refine CallsIn.mono (callsIn_wide.2 (words_any _ _)) ?_; rintro e w4 ⟨rfl, rfl⟩)
  obtain ⟨W4, hW4⟩ : ∃ W4, W4 = ((w.alloc (.cells #[.string s] 9)).alloc (.cells #[.slice none 0 0] 121)).alloc (.cells #[.string s] 9) := ⟨_, rfl⟩
  have hz4 : W4.heap.size = w.heap.size + 1 + 1 + 1 := by rw [hW4]; simp
  have hA0 : WtAt w s [] W4 := by rw [hW4]; exact WtAt.new w s
  rw [← hW4]
  have HST := Lib.hid ((KW W4 (w.heap.size + 1 + 1) hA0.s.cell (by omega)).out)
  clear hW4 KW
  refine wpIn_rangeFunc_ownH rfl (by omega) (gf := 179) (lb := #[.pointer (some ⟨w.heap.size + 1 + 1, 0, none⟩)]) rfl trivial (enters_of Tryd.func179 (by kernel_rfl) rfl) (HST.out _ (Below.refl _ _)) (fun h k => k.trans h) (fun W l o o' hl _ _ _ => World.cell?_of_block (World.putObj_heap_other (by simp; omega))) (Below.refl _ _) (fun _ => rfl)
    (WtJ w s) (fun _ _ _ => False) (WtJ.own w s _ (by omega)) (fun _ _ _ _ _ hs _ _ => hs)
    hA0
    (fun x a' W => ∃ X, a' = { tmps := #[.string s, .pointer (some ⟨w.heap.size, 0, none⟩), .slice none 0 0, .pointer (some ⟨w.heap.size + 1, 0, none⟩), .pointer (some ⟨X, 0, none⟩), .string s, .func (.func 179) #[] #[.pointer (some ⟨w.heap.size + 1 + 1, 0, none⟩)], spv x.1, undef, undef, undef, undef, undef, undef, undef, undef, undef, undef], defers := [] } ∧ Box2 W X 124 (.int .i64 (x.1.1 : Int)) (.int .i64 (x.1.2 : Int)) ∧ w.heap.size + 1 + 1 < X)
    (fun x a' _ Y Z row ⟨X, e, hb, hlt⟩ hg hr => ⟨X, e, hb.own hg (fun r e => (hr r e).2), hlt⟩) ?assign ?body ?done ?stop
  case assign =>
    intro l pre x W K hI hK
    have hVl := hI.s.lt
    have hKK := hK
    obtain ⟨⟨xa, xb⟩, hx1, hx2⟩ := x
    unfold spv at *
    dsimp only at *
    gi_wp2
    have hI' := hI.kept (World.grownBy_alloc W (.cells #[.int .i64 (xa : Int), .int .i64 (xb : Int)] 124) none) (fun r e => by cases e)
    exact hKK _ _ ((KeepsOthers.alloc W _).from _) (hI'.s.cell.trans hI.s.cell.symm) hI' ⟨W.heap.size, rfl, Box2.new _ _ _ _, hVl⟩
  case body =>
    clear hz4 hA0 HST
    rintro l pre x a' W hl hlw hA ⟨X, rfl, hX, hVX⟩ hlt
    obtain ⟨⟨xa, xb⟩, hx1, hx2⟩ := x
    dsimp only at hx1 hx2 hX
    obtain ⟨i0, hi, hz0, hz1, hz2⟩ := info_parts infoStr
    have d0 := hX.cell0
    have d1 := hX.cell1
    have e0 := hA.x.cell
    obtain ⟨PL, hPL⟩ : ∃ PL, PL = pre.map (fun x => x.1) := ⟨_, rfl⟩
    have hPLl : PL.length ≤ 1000001 := by rw [hPL, List.length_map]; omega
    have HPL := Lib.hid hPL
    have hA1 : WtAt w s PL W := by rw [hPL]; exact hA
    obtain ⟨v, bv, hv, _⟩ := hA1.v
    have e1 := bv.cell
    have e2 := bv.frozen
    have hsz := hA1.b.size
    have hVl := hA1.s.lt
    have HV := Lib.hid hv
    have HBV := Lib.hid bv
    have HA := Lib.hid hA1
    have HX := Lib.hid hX
    clear hA hA1 hv bv hX hPL
    gi_wp2
    have hle : xa ≤ xb := by omega
    have hle2 : (xa : Int) ≤ (xb : Int) := by omega
    refine wpIn_region_round_held (fun w' => w'.cell? ⟨w.heap.size, 0, none⟩ = some (.string s) ∧ w'.cell? ⟨X, 0, none⟩ = some (.int .i64 (xa : Int)) ∧ w'.cell? ⟨X, 1, none⟩ = some (.int .i64 (xb : Int))) (by kernel_rfl) (by kernel_rfl) ?_
    have hS0 : W.drew.cell? ⟨w.heap.size, 0, none⟩ = some (.string s) ∧ W.drew.cell? ⟨X, 0, none⟩ = some (.int .i64 (xa : Int)) ∧ W.drew.cell? ⟨X, 1, none⟩ = some (.int .i64 (xb : Int)) := ⟨e0, d0, d1⟩
    have hS1 : (W.alloc (.cells #[.string (s.extract xa xb)] 9)).drew.cell? ⟨w.heap.size, 0, none⟩ = some (.string s) ∧ (W.alloc (.cells #[.string (s.extract xa xb)] 9)).drew.cell? ⟨X, 0, none⟩ = some (.int .i64 (xa : Int)) ∧ (W.alloc (.cells #[.string (s.extract xa xb)] 9)).drew.cell? ⟨X, 1, none⟩ = some (.int .i64 (xb : Int)) := ⟨(HA.out.x.alloc (.cells #[.string (s.extract xa xb)] 9)).cell, (two_alloc HX.out _).cell0, (two_alloc HX.out _).cell1⟩
    have e4 : (W.alloc (.cells #[.string (s.extract xa xb)] 9)).drew.cell? ⟨w.heap.size + 1, 0, none⟩ = some v := (HBV.out.alloc (.cells #[.string (s.extract xa xb)] 9)).cell
    refine wpAnyH_take (i := 1) (v := .string s) rfl (by kernel_rfl) (by kernel_rfl) (by kernel_rfl) (fun _ _ _ h => calm_panic h) (Or.inl ⟨by rfl, ?_⟩) hS0 ?_
    · intro w' hSw
      obtain ⟨s1, s2, s3⟩ := hSw
      go_simp
    try simp only [Act.put, List.setIfInBounds_toArray, List.set_cons_zero, List.set_cons_succ]
    refine wpAnyH_take (i := 2) (v := .pointer (some ⟨X, 0, none⟩)) rfl (by kernel_rfl) (by kernel_rfl) (by kernel_rfl) (fun _ _ _ h => calm_panic h) (Or.inl ⟨by rfl, ?_⟩) hS0 ?_
    · intro w' hSw
      obtain ⟨s1, s2, s3⟩ := hSw
      go_simp
    try simp only [Act.put, List.setIfInBounds_toArray, List.set_cons_zero, List.set_cons_succ]
    refine wpAnyH_take (i := 3) (v := .int .i64 (xa : Int)) rfl (by kernel_rfl) (by kernel_rfl) (by kernel_rfl) (fun _ _ _ h => calm_panic h) (Or.inl ⟨by rfl, ?_⟩) hS0 ?_
    · intro w' hSw
      obtain ⟨s1, s2, s3⟩ := hSw
      go_simp
    try simp only [Act.put, List.setIfInBounds_toArray, List.set_cons_zero, List.set_cons_succ]
    refine wpAnyH_take (i := 4) (v := .pointer (some ⟨X, 1, none⟩)) rfl (by kernel_rfl) (by kernel_rfl) (by kernel_rfl) (fun _ _ _ h => calm_panic h) (Or.inl ⟨by rfl, ?_⟩) hS0 ?_
    · intro w' hSw
      obtain ⟨s1, s2, s3⟩ := hSw
      go_simp
    try simp only [Act.put, List.setIfInBounds_toArray, List.set_cons_zero, List.set_cons_succ]
    refine wpAnyH_take (i := 5) (v := .int .i64 (xb : Int)) rfl (by kernel_rfl) (by kernel_rfl) (by kernel_rfl) (fun _ _ _ h => calm_panic h) (Or.inl ⟨by rfl, ?_⟩) hS0 ?_
    · intro w' hSw
      obtain ⟨s1, s2, s3⟩ := hSw
      go_simp
    try simp only [Act.put, List.setIfInBounds_toArray, List.set_cons_zero, List.set_cons_succ]
    refine wpAnyH_take (i := 6) (v := .string (s.extract xa xb)) rfl (by kernel_rfl) (by kernel_rfl) (by kernel_rfl) (fun _ _ _ h => calm_panic h) (Or.inl ⟨by rfl, ?_⟩) hS0 ?_
    · intro w' hSw
      obtain ⟨s1, s2, s3⟩ := hSw
      go_simp
    try simp only [Act.put, List.setIfInBounds_toArray, List.set_cons_zero, List.set_cons_succ]
    refine wpAnyH_ready (rs := [0, 7]) (by kernel_rfl) (by simp) ?_
    refine AllReadyH.cons rfl (fun K hK => ?_) (AllReadyH.cons rfl (fun K hK => ?_) AllReadyH.nil)
    · go_simp
      refine hK.out _ _ hS0 (fun hHeld => ?_)
      clear hK K hHeld
      try simp only [Act.put, List.setIfInBounds_toArray, List.set_cons_zero, List.set_cons_succ]
      refine wpAnyH_ready (rs := [7]) (by kernel_rfl) (by simp) ?_
      refine AllReadyH.cons rfl (fun K hK => ?_) AllReadyH.nil
      go_simp
      refine hK.out _ _ hS1 (fun hHeld => ?_)
      clear hK K hHeld
      try simp only [Act.put, List.setIfInBounds_toArray, List.set_cons_zero, List.set_cons_succ]
      refine wpAnyH_ready (rs := [8]) (by kernel_rfl) (by simp) ?_
      refine AllReadyH.cons rfl (fun K hK => ?_) AllReadyH.nil
      rw [if_pos (by rfl)]
      refine wp_append_own _ _ _ 121 rfl (w.heap.size + 1 + 1 + 1) 9 i0 (.string ⟨#[]⟩) 1 16 Tryd.underlying121 hi hz0 hz1 hz2 rfl (by decide) v PL.length (PL.map (txt s)) rfl (World.ownsRow.alloc (show W.drew.ownsRow (w.heap.size + 1 + 1 + 1) 9 1 v PL.length (PL.map (txt s)) from HV.out) _) ⟨W.heap.size, 0, none⟩ 1 1 [txt s (xa, xb)] rfl rfl (cells_one (cellAt rfl)) (by intro u hu; simp at hu; subst hu; rfl) (by unfold maxLen; omega) (by omega) (by simp; omega) (fun v' w5 hown hgrow hnil => ?_)
      obtain ⟨ao5, cap5, rfl⟩ := own_shape hown
      have HOWN := Lib.hid hown
      have HG := Lib.hid hgrow
      have b1 := wt_str HA.out.x HV.out (Nat.le_refl _) (by omega) hgrow
      have b2 := wt_box HBV.out HV.out hgrow
      have b3 := wt_two HX.out HV.out hgrow
      have q1 := b2.cell
      have q2 := b2.frozen
      have HB4 := Lib.hid (wt_str HA.out.s HV.out (Nat.le_refl _) (by omega) hgrow)
      have HB2 := Lib.hid b2
      have HB1 := Lib.hid b1
      have HB3 := Lib.hid b3
      clear hown hgrow hnil
      refine hK.out _ _ ⟨b1.cell, b3.cell0, b3.cell1⟩ (fun hHeld => ?_)
      clear hK K hHeld b1 b2 b3
      try simp only [Act.put, List.setIfInBounds_toArray, List.set_cons_zero, List.set_cons_succ]
      refine wpAnyH_ready (rs := [9]) (by kernel_rfl) (by simp) ?_
      refine AllReadyH.cons rfl (fun K hK => ?_) AllReadyH.nil
      go_simp
      refine hK.out _ _ ⟨(boxed_set1 (X := w.heap.size + 1) HB1.out (by omega) 0 _).cell, (box2_other (X := w.heap.size + 1) HB3.out (by omega) 0 _).cell0, (box2_other (X := w.heap.size + 1) HB3.out (by omega) 0 _).cell1⟩ (fun hHeld => ?_)
      clear hK K hHeld
      try simp only [Act.put, List.setIfInBounds_toArray, List.set_cons_zero, List.set_cons_succ]
      refine wpAnyH_done (by kernel_rfl) ⟨rfl, ?_⟩ _
      gi_wp2
      refine ⟨((((KeepsOthers.alloc W _).trans (KeepsOthers.drew _)).trans (KeepsOthers.of_grownBy HG.out (own_cells (World.ownsRow.alloc HV.out _)))).trans (KeepsOthers.setCell _ _ _)).from _, ((boxed_set1 (X := w.heap.size + 1) HB4.out (by omega) 0 _).cell).trans HA.out.s.cell.symm, ?_⟩
      unfold WtJ
      rw [List.map_append, ← HPL.out]
      refine ⟨boxed_set1 (X := w.heap.size + 1) HB1.out (by omega) 0 _, ⟨_, HB2.out.set _, ?_, trivial⟩, boxed_set1 (X := w.heap.size + 1) HB4.out (by omega) 0 _, ?_⟩
      · have := ownsRow_set HOWN.out (p := ⟨w.heap.size + 1, 0, none⟩) (by show w.heap.size + 1 < w.heap.size + 1 + 1 + 1; omega) (Value.slice ao5 (PL.length + 1) cap5)
        rw [List.length_append, List.map_append]
        exact this
      · exact ((Bl.drew (Bl.alloc HA.out.b _)).grown HG.out (by have := HA.out.b.size; simp; omega) (fun k e => Nat.le_trans (by omega) (World.ownsRow.lt HV.out k e).1)).setCell (p := ⟨w.heap.size + 1, 0, none⟩) (by simp) _
    · go_simp
      refine hK.out _ _ hS1 (fun hHeld => ?_)
      clear hK K hHeld
      try simp only [Act.put, List.setIfInBounds_toArray, List.set_cons_zero, List.set_cons_succ]
      refine wpAnyH_ready (rs := [0]) (by kernel_rfl) (by simp) ?_
      refine AllReadyH.cons rfl (fun K hK => ?_) AllReadyH.nil
      go_simp
      refine hK.out _ _ hS1 (fun hHeld => ?_)
      clear hK K hHeld
      try simp only [Act.put, List.setIfInBounds_toArray, List.set_cons_zero, List.set_cons_succ]
      refine wpAnyH_ready (rs := [8]) (by kernel_rfl) (by simp) ?_
      refine AllReadyH.cons rfl (fun K hK => ?_) AllReadyH.nil
      rw [if_pos (by rfl)]
      refine wp_append_own _ _ _ 121 rfl (w.heap.size + 1 + 1 + 1) 9 i0 (.string ⟨#[]⟩) 1 16 Tryd.underlying121 hi hz0 hz1 hz2 rfl (by decide) v PL.length (PL.map (txt s)) rfl (World.ownsRow.alloc (show W.drew.ownsRow (w.heap.size + 1 + 1 + 1) 9 1 v PL.length (PL.map (txt s)) from HV.out) _) ⟨W.heap.size, 0, none⟩ 1 1 [txt s (xa, xb)] rfl rfl (cells_one (cellAt rfl)) (by intro u hu; simp at hu; subst hu; rfl) (by unfold maxLen; omega) (by omega) (by simp; omega) (fun v' w5 hown hgrow hnil => ?_)
      obtain ⟨ao5, cap5, rfl⟩ := own_shape hown
      have HOWN := Lib.hid hown
      have HG := Lib.hid hgrow
      have b1 := wt_str HA.out.x HV.out (Nat.le_refl _) (by omega) hgrow
      have b2 := wt_box HBV.out HV.out hgrow
      have b3 := wt_two HX.out HV.out hgrow
      have q1 := b2.cell
      have q2 := b2.frozen
      have HB4 := Lib.hid (wt_str HA.out.s HV.out (Nat.le_refl _) (by omega) hgrow)
      have HB2 := Lib.hid b2
      have HB1 := Lib.hid b1
      have HB3 := Lib.hid b3
      clear hown hgrow hnil
      refine hK.out _ _ ⟨b1.cell, b3.cell0, b3.cell1⟩ (fun hHeld => ?_)
      clear hK K hHeld b1 b2 b3
      try simp only [Act.put, List.setIfInBounds_toArray, List.set_cons_zero, List.set_cons_succ]
      refine wpAnyH_ready (rs := [9]) (by kernel_rfl) (by simp) ?_
      refine AllReadyH.cons rfl (fun K hK => ?_) AllReadyH.nil
      go_simp
      refine hK.out _ _ ⟨(boxed_set1 (X := w.heap.size + 1) HB1.out (by omega) 0 _).cell, (box2_other (X := w.heap.size + 1) HB3.out (by omega) 0 _).cell0, (box2_other (X := w.heap.size + 1) HB3.out (by omega) 0 _).cell1⟩ (fun hHeld => ?_)
      clear hK K hHeld
      try simp only [Act.put, List.setIfInBounds_toArray, List.set_cons_zero, List.set_cons_succ]
      refine wpAnyH_done (by kernel_rfl) ⟨rfl, ?_⟩ _
      gi_wp2
      refine ⟨((((KeepsOthers.alloc W _).trans (KeepsOthers.drew _)).trans (KeepsOthers.of_grownBy HG.out (own_cells (World.ownsRow.alloc HV.out _)))).trans (KeepsOthers.setCell _ _ _)).from _, ((boxed_set1 (X := w.heap.size + 1) HB4.out (by omega) 0 _).cell).trans HA.out.s.cell.symm, ?_⟩
      unfold WtJ
      rw [List.map_append, ← HPL.out]
      refine ⟨boxed_set1 (X := w.heap.size + 1) HB1.out (by omega) 0 _, ⟨_, HB2.out.set _, ?_, trivial⟩, boxed_set1 (X := w.heap.size + 1) HB4.out (by omega) 0 _, ?_⟩
      · have := ownsRow_set HOWN.out (p := ⟨w.heap.size + 1, 0, none⟩) (by show w.heap.size + 1 < w.heap.size + 1 + 1 + 1; omega) (Value.slice ao5 (PL.length + 1) cap5)
        rw [List.length_append, List.map_append]
        exact this
      · exact ((Bl.drew (Bl.alloc HA.out.b _)).grown HG.out (by have := HA.out.b.size; simp; omega) (fun k e => Nat.le_trans (by omega) (World.ownsRow.lt HV.out k e).1)).setCell (p := ⟨w.heap.size + 1, 0, none⟩) (by simp) _
  case done =>
    rintro D ys W hD hys hA hK
    unfold WtJ at hA
    rw [hys] at hA
    obtain ⟨v, bv, hv, _⟩ := hA.v
    have c1 := bv.cell
    have HV := Lib.hid hv
    have HB1 := Lib.hid hA.b
    have HK := Lib.hid hK
    clear bv hv hys hK hA hA0 HST
    gi_wp2
    refine ⟨by simp, .inl ⟨_, _, rfl, run_takeDeferred HK.out, ?_⟩⟩
    exact ⟨_, results_tmp rfl _ _ _, ⟨v, rfl, ownsRow_putObj (ownsRow_low HV.out (by omega)) _ HK.out rfl, HB1.out.trans (belowK_b (w := w) (Nat.le_refl _) W D _ _ (by omega) HK.out rfl rfl)⟩⟩
  case stop =>
    rintro D c pre W _ _ h _
    exact h.elim
end Go.Proofs.YtoilgjlbpimcpaaDoor
