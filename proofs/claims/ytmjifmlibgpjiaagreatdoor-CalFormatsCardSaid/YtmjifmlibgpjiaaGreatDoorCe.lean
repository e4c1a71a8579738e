/- The day of a date. -/
import Derived.Test.YtmjifmlibgpjiaaGreatDoorCd
namespace Go.Proofs.YtmjifmlibgpjiaaGreatDoor
open Go.RowKit Tx
set_option linter.unusedVariables false
set_option maxRecDepth 100000
attribute [local go_sem] Oper.semAt_some

theorem BoxC.below {W W' : World} {B : Nat} {t : TypeId} {cs : Array Value} (h : BoxC W B t cs) {n : Nat} (hb : Below n W W') (hn : B < n) : BoxC W' B t cs := (hb.block B hn).trans h
/-- Between two rounds: the day so far. -/
structure SumAt (w : World) (y m s0 D B : Nat) (pre : List Nat) (W : World) : Prop where
  bd : Boxed W D 3 (.int .i64 ((s0 + sumD y pre : Nat) : Int))
  no : ∀ x ∈ pre, x ≠ m
  bb : Boxed W B 3 (.int .i64 (y : Int))
  b : Below w.heap.size w W
  f : ∃ v0 v2, BoxC W w.heap.size 70 #[v0, .int .i64 (m : Int), v2]
structure SumX (w : World) (y m s0 D : Nat) (c : Code) (pre : List Nat) (W : World) : Prop where
  c : c = .exit 0
  bd : ∃ (p' : List Nat), pre = p' ++ [m] ∧ Boxed W D 3 (.int .i64 ((s0 + sumD y p' : Nat) : Int))
  b : Below w.heap.size w W
theorem SumAt.own (w : World) (y m s0 D B N : Nat) (hB : w.heap.size ≤ N) : OwnFrom N (SumAt w y m s0 D B) := by
  rintro pre X Y row ⟨h1, h2, h5, h6, v0, v2, h7⟩ hg hrow
  have hr := fun r e => (hrow r e).2
  exact ⟨h1.kept hg (boxed_not_row hr h1), h2, h5.kept hg (boxed_not_row hr h5), h6.grown hg h6.size (fun k e => Nat.le_trans hB (hrow k e).1), v0, v2, h7.kept hg (boxC_not_row hr h7)⟩
theorem SumX.own (w : World) (y m s0 D N : Nat) (hB : w.heap.size ≤ N) (c : Code) : OwnFrom N (SumX w y m s0 D c) := by
  rintro pre X Y row ⟨h0, ⟨p', hp, h1⟩, h6⟩ hg hrow
  have hr := fun r e => (hrow r e).2
  exact ⟨h0, ⟨p', hp, h1.kept hg (boxed_not_row hr h1)⟩, h6.grown hg h6.size (fun k e => Nat.le_trans hB (hrow k e).1)⟩
theorem sumD_le (y : Nat) : ∀ l : List Nat, sumD y l ≤ 31 * l.length
  | [] => by simp [sumD]
  | m :: l => by have h := sumD_le y l; have h2 := (dim_pos y m).2; simp [sumD] at h ⊢; omega
set_option maxHeartbeats 8000000 in
theorem number_any (p m k : Nat) (w : World) (h9 : p + 1 ≤ 9999) (hm1 : 1 ≤ m) (hm : m ≤ 12) (hk1 : 1 ≤ k) (hk : k ≤ 1000) :
    Calls Tryz.prog 82 #[.agg #[.int .i64 ((p : Int) + 1), .int .i64 (m : Int), .int .i64 (k : Int)]] w fun e w' => e = .returned (.int .i64 ((bef p + cum (p + 1) m + (k - 1) : Nat) : Int)) ∧ Below w.heap.size w w' := by
  have KF := fun W => Lib.hid (firstDay_any p W (by omega))
  have hbl := bef_le366 p
  obtain ⟨x0, hx⟩ : ∃ x0, x0 = bef p := ⟨_, rfl⟩
  obtain ⟨s0, hs0⟩ : ∃ s0, s0 = bef p + (k - 1) := ⟨_, rfl⟩
  rw [← hx] at KF hbl hs0
  have hs1 : IntKind.i64.wrap ((x0 : Int) + (k : Int)) = (x0 : Int) + (k : Int) := IntWalk.i64_in _ (by omega)
  have hs2 : IntKind.i64.wrap ((x0 : Int) + (k : Int) - 1) = (s0 : Int) := by rw [show (x0 : Int) + (k : Int) - 1 = (s0 : Int) by omega]; exact IntWalk.i64_in _ (by omega)
  have HS := Lib.hid (show s0 + cum (p + 1) m = bef p + cum (p + 1) m + (k - 1) by omega)
  have HSB := Lib.hid (show s0 ≤ 4000000 by omega)
  have HM := Lib.hid (show 1 ≤ m ∧ m ≤ 12 from ⟨hm1, hm⟩)
  clear hx hs0 hbl hk1 hk hm1 hm
  rw [← callsIn_wide (n := 3)]
  refine callsIn_of_wp_marks Tryz.func82 rfl trivial ?_ rfl
  simp only [Tryz.ntmps82, List.size_toArray, List.length_cons, List.length_nil, Nat.reduceAdd, Nat.reduceSub, Array.replicate_succ, Array.replicate_zero, List.push_toArray, List.append_toArray, List.nil_append, List.cons_append]
  gi_wp2
  refine wpIn_wide.2 (wp_scope_straight ((wpIn_wide (n := 3)).1 ?_))
  gi_wp2
  refine wpIn_wide.2 ?_
  obtain ⟨W0, hW0⟩ : ∃ W0, W0 = w.alloc (.cells #[.int .i64 ((p : Int) + 1), .int .i64 (m : Int), .int .i64 (k : Int)] 70) := ⟨_, rfl⟩
  have bF : BoxC W0 w.heap.size 70 #[.int .i64 ((p : Int) + 1), .int .i64 (m : Int), .int .i64 (k : Int)] := by rw [hW0]; exact BoxC.new _ _ _
  have hz0 : W0.heap.size = w.heap.size + 1 := by rw [hW0]; simp
  have HB0 := Lib.hid (show Below w.heap.size w W0 by rw [hW0]; exact Bl.alloc (Below.refl _ w) _)
  rw [← hW0]
  have c0 := bF.cell (i := 0) rfl
  have c2 := bF.cell (i := 2) rfl
  have HBF := Lib.hid bF
  clear hW0 bF
  go_region_held3 (fun w' => w'.cell? ⟨w.heap.size, 0, none⟩ = some (.int .i64 ((p : Int) + 1)) ∧ w'.cell? ⟨w.heap.size, 2, none⟩ = some (.int .i64 (k : Int)))
    (first | exact ⟨c0, c2⟩ | go_keep)
    (first | (go_at_call 85; refine Calls.mono (KF _).out ?_; rintro e w2 ⟨rfl, rfl⟩))
  · obtain ⟨W1, hW1⟩ : ∃ W1, W1 = (W0.alloc (.cells #[.int .i64 (s0 : Int)] 3)).drew := ⟨_, rfl⟩
    rw [← hW1]
    have hz1 : W1.heap.size = w.heap.size + 1 + 1 := by rw [hW1]; simp [hz0]
    have bD : Boxed W1 (w.heap.size + 1) 3 (.int .i64 (s0 : Int)) := by rw [hW1, ← hz0]; exact Boxed.new W0 _ _
    have bF : BoxC W1 w.heap.size 70 #[.int .i64 ((p : Int) + 1), .int .i64 (m : Int), .int .i64 (k : Int)] := by rw [hW1]; exact HBF.out.alloc _
    have HB1 : Below w.heap.size w W1 := by rw [hW1]; exact Bl.drew (Bl.alloc HB0.out _)
    obtain ⟨D, hD⟩ : ∃ D, D = w.heap.size + 1 := ⟨_, rfl⟩
    rw [← hD] at bD ⊢
    have hDlt : w.heap.size < D ∧ D < W1.heap.size := by omega
    have cF := bF.cell (i := 0) rfl
    have HZ1 := Lib.hid hz1
    clear hW1 c0 c2 hz1 hD hz0
    gi_wp2
    refine wpIn_label ?_
    gi_wp2_with (refine ⟨trivial, ?_⟩; gi_at_call 86; refine CallsIn.mono (callsIn_wide.2 (months_any _ _)) ?_; rintro e w4 ⟨rfl, rfl⟩)
    obtain ⟨B, hBe⟩ : ∃ B, B = W1.heap.size := ⟨_, rfl⟩
    have bB := Boxed.new W1 3 (.int .i64 ((p : Int) + 1))
    have hzz := World.size_alloc W1 (.cells #[.int .i64 ((p : Int) + 1)] 3)
    obtain ⟨W2, hW2⟩ : ∃ W2, W2 = W1.alloc (.cells #[.int .i64 ((p : Int) + 1)] 3) := ⟨_, rfl⟩
    have bD' := bD.alloc (.cells #[.int .i64 ((p : Int) + 1)] 3)
    have bF' := bF.alloc (.cells #[.int .i64 ((p : Int) + 1)] 3)
    have HB2 := Bl.alloc HB1 (.cells #[.int .i64 ((p : Int) + 1)] 3)
    rw [← hW2] at bB bD' bF' HB2 hzz ⊢
    rw [← hBe] at bB hzz ⊢
    have hST := fun W' hW' => months_stops B (p + 1) 0 W2 (by rw [show ((p + 1 : Nat) : Int) = (p : Int) + 1 by omega]; exact bB.cell) (by omega) W' hW'
    have HST := Lib.hid hST
    have hDB : D < B := by omega
    have hDw : w.heap.size < D := hDlt.1
    have hB2 : w.heap.size ≤ W2.heap.size := HB2.size
    have hBs : B < W2.heap.size := by omega
    clear hST hW2 cF bD HB1 hBe hzz hDlt HZ1 bF
    refine wpIn_rangeFunc_ownG rfl (by omega) (gf := 124) (lb := #[.pointer (some ⟨B, 0, none⟩)]) rfl trivial (enters_of Tryz.func124 (by kernel_rfl) rfl) (HST.out _ (Below.refl _ _)) (fun h k => k.trans h) (fun W l o o' hl _ _ _ => World.cell?_of_block (World.putObj_heap_other (by simp; omega))) (Below.refl _ _) (fun _ => rfl)
      (SumAt w (p + 1) m s0 D B) (SumX w (p + 1) m s0 D) (SumAt.own w (p + 1) m s0 D B _ (by omega)) (fun c => SumX.own w (p + 1) m s0 D _ (by omega) c)
      ⟨bD', fun x hx => (by cases hx), bB, HB2, _, _, bF'⟩
      (fun x => { tmps := #[.agg #[.int .i64 ((p : Int) + 1), .int .i64 (m : Int), .int .i64 (k : Int)], .pointer (some ⟨w.heap.size, 0, none⟩), .int .i64 0, .pointer (some ⟨D, 0, none⟩), .int .i64 (x : Int), .int .i64 (dim (p + 1) x : Int), .pointer (some ⟨w.heap.size, 0, none⟩), .pointer (some ⟨w.heap.size, 0, none⟩), .int .i64 ((p : Int) + 1), .int .i64 (x0 : Int), .pointer (some ⟨w.heap.size, 0, none⟩), .pointer (some ⟨w.heap.size, 2, none⟩), .int .i64 (k : Int), .int .i64 ((x0 : Int) + (k : Int)), .int .i64 (s0 : Int), .pointer (some ⟨w.heap.size, 0, none⟩), .pointer (some ⟨w.heap.size, 0, none⟩), .int .i64 ((p : Int) + 1), .func (.func 124) #[] #[.pointer (some ⟨B, 0, none⟩)], .int .i64 (x : Int), .int .i64 (dim (p + 1) x : Int), undef, undef, undef, undef, undef, undef, undef, undef, undef], defers := [] }) ?assign ?body ?done ?stop
    case assign =>
      intro l x W K hK
      gi_wp2
      exact hK
    case body =>
      rintro l pre x W ⟨bd, hno, bb, hb, v0, v2, bf⟩ hlt
      have c1 := bf.cell (i := 1) rfl
      have cd := bd.cell
      have fd := bd.frozen
      have hdm := dim_pos (p + 1) x
      have hsm := sumD_le (p + 1) pre
      have hsb := HSB.out
      obtain ⟨s, hs⟩ : ∃ s, s = s0 + sumD (p + 1) pre := ⟨_, rfl⟩
      rw [← hs] at cd bd
      have hw1 : IntKind.i64.wrap ((s : Int) + (dim (p + 1) x : Int)) = ((s + dim (p + 1) x : Nat) : Int) := by rw [show (s : Int) + (dim (p + 1) x : Int) = ((s + dim (p + 1) x : Nat) : Int) by omega]; exact IntWalk.i64_in _ (by omega)
      have HS0 := Lib.hid hs
      have HBD := Lib.hid bd
      have HBB := Lib.hid bb
      have HBL := Lib.hid hb
      have HBFX := Lib.hid bf
      have HNO := Lib.hid hno
      clear bd bb hb bf hno hs hsm hsb hdm hlt
      by_cases hxm : x = m
      · subst hxm
        gi_wp2
        exact ⟨KeepsFrom.refl _ _, rfl, ⟨pre, rfl, by rw [← HS0.out]; exact HBD.out⟩, HBL.out⟩
      · have hne : ((x : Int) == (m : Int)) = false := beq_eq_false_iff_ne.2 (by omega)
        have HXM := Lib.hid hxm
        clear hxm
        gi_wp2
        refine ⟨(KeepsOthers.setCell _ _ _).from _, ?_, ?_, ?_, boxed_other HBB.out (show B ≠ D by omega) _ _, HBL.out.setCell (p := ⟨D, 0, none⟩) (by simp; omega) _, v0, v2, HBFX.out.other (by omega) _ _⟩
        · exact (boxed_other HBB.out (show B ≠ D by omega) _ _).cell.trans HBB.out.cell.symm
        · have := HBD.out.set (.int .i64 ((s + dim (p + 1) x : Nat) : Int))
          rw [sumD_snoc, ← Nat.add_assoc, ← HS0.out]
          exact this
        · intro y hy
          rcases List.mem_append.1 hy with hy | hy
          · exact HNO.out y hy
          · rw [List.mem_singleton.1 hy]; exact HXM.out
    case done =>
      rintro DD ys W hDD hys ⟨bd, hno, bb, hb, v0, v2, bf⟩ hK
      exfalso
      subst hys
      have h1 := HM.out
      exact hno m (by unfold upTo; rw [List.mem_range']; exact ⟨m - 1, by omega, by omega⟩) rfl
    case stop =>
      rintro DD c pre W hDD ⟨r', hpre⟩ ⟨rfl, ⟨p', rfl, bd⟩, hb⟩ hK
      obtain ⟨hp1, hp2⟩ := upTo_of_prefix hpre
      rw [List.length_append, List.length_cons, List.length_nil, Nat.zero_add] at hp1 hp2
      rw [upTo_succ] at hp1
      obtain ⟨hp3, hp4⟩ := List.append_inj hp1 (by rw [upTo_length])
      have hfin : s0 + sumD (p + 1) p' = bef p + cum (p + 1) m + (k - 1) := by
        have hm' : m = p'.length + 1 := by simpa using hp4
        rw [hp3, sumD_upTo _ _ (by omega), ← hm', HS.out]
      rw [hfin] at bd
      have cd := bd.cell
      have HB := Lib.hid (hb.trans (below_keepsK w W DD _ (.deferred none) (by omega) hK rfl))
      have HK := Lib.hid hK
      clear hpre hp1 hp2 hp3 hp4 hfin bd hK hb
      gi_wp2
      try rw [Exit.noGoto_ret]
      refine ⟨by simp, .inl ⟨_, _, rfl, run_takeDeferred HK.out, ?_⟩⟩
      exact ⟨_, results_tmp rfl _ _ _, rfl, HB.out⟩
  · obtain ⟨W1, hW1⟩ : ∃ W1, W1 = (W0.alloc (.cells #[.int .i64 (s0 : Int)] 3)).drew := ⟨_, rfl⟩
    rw [← hW1]
    have hz1 : W1.heap.size = w.heap.size + 1 + 1 := by rw [hW1]; simp [hz0]
    have bD : Boxed W1 (w.heap.size + 1) 3 (.int .i64 (s0 : Int)) := by rw [hW1, ← hz0]; exact Boxed.new W0 _ _
    have bF : BoxC W1 w.heap.size 70 #[.int .i64 ((p : Int) + 1), .int .i64 (m : Int), .int .i64 (k : Int)] := by rw [hW1]; exact HBF.out.alloc _
    have HB1 : Below w.heap.size w W1 := by rw [hW1]; exact Bl.drew (Bl.alloc HB0.out _)
    obtain ⟨D, hD⟩ : ∃ D, D = w.heap.size + 1 := ⟨_, rfl⟩
    rw [← hD] at bD ⊢
    have hDlt : w.heap.size < D ∧ D < W1.heap.size := by omega
    have cF := bF.cell (i := 0) rfl
    have HZ1 := Lib.hid hz1
    clear hW1 c0 c2 hz1 hD hz0
    gi_wp2
    refine wpIn_label ?_
    gi_wp2_with (refine ⟨trivial, ?_⟩; gi_at_call 86; refine CallsIn.mono (callsIn_wide.2 (months_any _ _)) ?_; rintro e w4 ⟨rfl, rfl⟩)
    obtain ⟨B, hBe⟩ : ∃ B, B = W1.heap.size := ⟨_, rfl⟩
    have bB := Boxed.new W1 3 (.int .i64 ((p : Int) + 1))
    have hzz := World.size_alloc W1 (.cells #[.int .i64 ((p : Int) + 1)] 3)
    obtain ⟨W2, hW2⟩ : ∃ W2, W2 = W1.alloc (.cells #[.int .i64 ((p : Int) + 1)] 3) := ⟨_, rfl⟩
    have bD' := bD.alloc (.cells #[.int .i64 ((p : Int) + 1)] 3)
    have bF' := bF.alloc (.cells #[.int .i64 ((p : Int) + 1)] 3)
    have HB2 := Bl.alloc HB1 (.cells #[.int .i64 ((p : Int) + 1)] 3)
    rw [← hW2] at bB bD' bF' HB2 hzz ⊢
    rw [← hBe] at bB hzz ⊢
    have hST := fun W' hW' => months_stops B (p + 1) 0 W2 (by rw [show ((p + 1 : Nat) : Int) = (p : Int) + 1 by omega]; exact bB.cell) (by omega) W' hW'
    have HST := Lib.hid hST
    have hDB : D < B := by omega
    have hDw : w.heap.size < D := hDlt.1
    have hB2 : w.heap.size ≤ W2.heap.size := HB2.size
    have hBs : B < W2.heap.size := by omega
    clear hST hW2 cF bD HB1 hBe hzz hDlt HZ1 bF
    refine wpIn_rangeFunc_ownG rfl (by omega) (gf := 124) (lb := #[.pointer (some ⟨B, 0, none⟩)]) rfl trivial (enters_of Tryz.func124 (by kernel_rfl) rfl) (HST.out _ (Below.refl _ _)) (fun h k => k.trans h) (fun W l o o' hl _ _ _ => World.cell?_of_block (World.putObj_heap_other (by simp; omega))) (Below.refl _ _) (fun _ => rfl)
      (SumAt w (p + 1) m s0 D B) (SumX w (p + 1) m s0 D) (SumAt.own w (p + 1) m s0 D B _ (by omega)) (fun c => SumX.own w (p + 1) m s0 D _ (by omega) c)
      ⟨bD', fun x hx => (by cases hx), bB, HB2, _, _, bF'⟩
      (fun x => { tmps := #[.agg #[.int .i64 ((p : Int) + 1), .int .i64 (m : Int), .int .i64 (k : Int)], .pointer (some ⟨w.heap.size, 0, none⟩), .int .i64 0, .pointer (some ⟨D, 0, none⟩), .int .i64 (x : Int), .int .i64 (dim (p + 1) x : Int), .pointer (some ⟨w.heap.size, 0, none⟩), .pointer (some ⟨w.heap.size, 0, none⟩), .int .i64 ((p : Int) + 1), .int .i64 (x0 : Int), .pointer (some ⟨w.heap.size, 0, none⟩), .pointer (some ⟨w.heap.size, 2, none⟩), .int .i64 (k : Int), .int .i64 ((x0 : Int) + (k : Int)), .int .i64 (s0 : Int), .pointer (some ⟨w.heap.size, 0, none⟩), .pointer (some ⟨w.heap.size, 0, none⟩), .int .i64 ((p : Int) + 1), .func (.func 124) #[] #[.pointer (some ⟨B, 0, none⟩)], .int .i64 (x : Int), .int .i64 (dim (p + 1) x : Int), undef, undef, undef, undef, undef, undef, undef, undef, undef], defers := [] }) ?assign ?body ?done ?stop
    case assign =>
      intro l x W K hK
      gi_wp2
      exact hK
    case body =>
      rintro l pre x W ⟨bd, hno, bb, hb, v0, v2, bf⟩ hlt
      have c1 := bf.cell (i := 1) rfl
      have cd := bd.cell
      have fd := bd.frozen
      have hdm := dim_pos (p + 1) x
      have hsm := sumD_le (p + 1) pre
      have hsb := HSB.out
      obtain ⟨s, hs⟩ : ∃ s, s = s0 + sumD (p + 1) pre := ⟨_, rfl⟩
      rw [← hs] at cd bd
      have hw1 : IntKind.i64.wrap ((s : Int) + (dim (p + 1) x : Int)) = ((s + dim (p + 1) x : Nat) : Int) := by rw [show (s : Int) + (dim (p + 1) x : Int) = ((s + dim (p + 1) x : Nat) : Int) by omega]; exact IntWalk.i64_in _ (by omega)
      have HS0 := Lib.hid hs
      have HBD := Lib.hid bd
      have HBB := Lib.hid bb
      have HBL := Lib.hid hb
      have HBFX := Lib.hid bf
      have HNO := Lib.hid hno
      clear bd bb hb bf hno hs hsm hsb hdm hlt
      by_cases hxm : x = m
      · subst hxm
        gi_wp2
        exact ⟨KeepsFrom.refl _ _, rfl, ⟨pre, rfl, by rw [← HS0.out]; exact HBD.out⟩, HBL.out⟩
      · have hne : ((x : Int) == (m : Int)) = false := beq_eq_false_iff_ne.2 (by omega)
        have HXM := Lib.hid hxm
        clear hxm
        gi_wp2
        refine ⟨(KeepsOthers.setCell _ _ _).from _, ?_, ?_, ?_, boxed_other HBB.out (show B ≠ D by omega) _ _, HBL.out.setCell (p := ⟨D, 0, none⟩) (by simp; omega) _, v0, v2, HBFX.out.other (by omega) _ _⟩
        · exact (boxed_other HBB.out (show B ≠ D by omega) _ _).cell.trans HBB.out.cell.symm
        · have := HBD.out.set (.int .i64 ((s + dim (p + 1) x : Nat) : Int))
          rw [sumD_snoc, ← Nat.add_assoc, ← HS0.out]
          exact this
        · intro y hy
          rcases List.mem_append.1 hy with hy | hy
          · exact HNO.out y hy
          · rw [List.mem_singleton.1 hy]; exact HXM.out
    case done =>
      rintro DD ys W hDD hys ⟨bd, hno, bb, hb, v0, v2, bf⟩ hK
      exfalso
      subst hys
      have h1 := HM.out
      exact hno m (by unfold upTo; rw [List.mem_range']; exact ⟨m - 1, by omega, by omega⟩) rfl
    case stop =>
      rintro DD c pre W hDD ⟨r', hpre⟩ ⟨rfl, ⟨p', rfl, bd⟩, hb⟩ hK
      obtain ⟨hp1, hp2⟩ := upTo_of_prefix hpre
      rw [List.length_append, List.length_cons, List.length_nil, Nat.zero_add] at hp1 hp2
      rw [upTo_succ] at hp1
      obtain ⟨hp3, hp4⟩ := List.append_inj hp1 (by rw [upTo_length])
      have hfin : s0 + sumD (p + 1) p' = bef p + cum (p + 1) m + (k - 1) := by
        have hm' : m = p'.length + 1 := by simpa using hp4
        rw [hp3, sumD_upTo _ _ (by omega), ← hm', HS.out]
      rw [hfin] at bd
      have cd := bd.cell
      have HB := Lib.hid (hb.trans (below_keepsK w W DD _ (.deferred none) (by omega) hK rfl))
      have HK := Lib.hid hK
      clear hpre hp1 hp2 hp3 hp4 hfin bd hK hb
      gi_wp2
      try rw [Exit.noGoto_ret]
      refine ⟨by simp, .inl ⟨_, _, rfl, run_takeDeferred HK.out, ?_⟩⟩
      exact ⟨_, results_tmp rfl _ _ _, rfl, HB.out⟩
end Go.Proofs.YtmjifmlibgpjiaaGreatDoor
