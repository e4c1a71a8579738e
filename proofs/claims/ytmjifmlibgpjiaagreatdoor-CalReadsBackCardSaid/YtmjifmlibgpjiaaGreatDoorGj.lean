/- Readers of dates, at any text: numbers of days, and dates in one or three numbers. -/
import Derived.Test.YtmjifmlibgpjiaaGreatDoorGc
import Derived.Deep.RegionHeld3
import Derived.StillTailTactics
namespace Go.Proofs.YtmjifmlibgpjiaaGreatDoor
open Go.RowKit Go.Shelf Tx Go.Maps
set_option linter.unusedVariables false
set_option maxRecDepth 100000

/-- A day and whether it is one of the calendar. -/
def GivesN0 (v : Int) (w : World) (e : Ending) (w' : World) : Prop := e = .returned (.tuple #[.int .i64 (if 0 ≤ v ∧ v ≤ 3652058 then v else 0), .bool (decide (0 ≤ v ∧ v ≤ 3652058))]) ∧ Below w.heap.size w w'
set_option maxHeartbeats 2000000 in
theorem dcounted_any (s : ByteArray) (y a : Int) (w : World) (hs : s.size ≤ 1000000) (h1 : -1 ≤ a) (h2 : a ≤ 4000000) :
    Calls Tryz.prog 132 #[.agg #[.string s, .int .i64 y], .int .i64 a] w (GivesN0 (a + num1 (bts s)) w) := by
  have hN : -1 ≤ num1 (bts s) ∧ num1 (bts s) ≤ 1000000000000 := numV_ge (bts s)
  have bl := Lib.hid (Bl.alloc (Bl.alloc (Below.refl _ w) (.cells #[.string s, .int .i64 y] 88)) (.cells #[.string s] 9))
  have KN := Lib.hid (number_next s (w.heap.size + 1) ((w.alloc (.cells #[.string s, .int .i64 y] 88)).alloc (.cells #[.string s] 9)) hs (idxOk_any s hs) (BoxC.newAt (by simp)))
  obtain ⟨v, hv⟩ : ∃ v, v = num1 (bts s) := ⟨_, rfl⟩
  have HV := Lib.hid hv
  rw [← hv] at hN ⊢
  obtain ⟨d, hd⟩ : ∃ d, d = a + v := ⟨_, rfl⟩
  have f1 : IntKind.i64.wrap (a + v) = d := by rw [hd]; exact i64i' (by omega) (by omega)
  have f2 : wrap64 (a + v) = d := by rw [hd]; exact w64 (by omega) (by omega)
  have KD := fun W => Lib.hid (isDay_any d W)
  rw [← hd]
  clear hN hv hd hs h1 h2
  unfold GivesN0
  by_cases hi : 0 ≤ d ∧ d ≤ 3652058
  · rw [inR_true hi.1 hi.2] at KD
    rw [if_pos hi, decide_eq_true hi]
    clear hi
    go_enter Tryz.func132, Tryz.ntmps132
    go_wp2_with (first
      | (go_at_call 138; refine Calls.mono (numbersIn_any _ _) ?_; rintro e w9 ⟨rfl, rfl⟩)
      | (go_at_call 155; refine Calls.mono KN.out ?_; rintro e w2 ⟨r', rfl, hr', hb', hg'⟩; rw [show numV (bts s) = v from HV.out.symm]; have HG := Lib.hid hg'; clear hr' hb' hg')
      | (go_at_call 51; refine Calls.mono (KD _).out ?_; rintro e w3 ⟨rfl, hw⟩; subst w3))
    go_ret2
    exact ⟨rfl, bl.out.grown HG.out bl.out.size (fun j hj => by simp at hj; omega)⟩
  · rw [inR_false hi] at KD
    rw [if_neg hi, decide_eq_false hi]
    clear hi
    go_enter Tryz.func132, Tryz.ntmps132
    go_wp2_with (first
      | (go_at_call 138; refine Calls.mono (numbersIn_any _ _) ?_; rintro e w9 ⟨rfl, rfl⟩)
      | (go_at_call 155; refine Calls.mono KN.out ?_; rintro e w2 ⟨r', rfl, hr', hb', hg'⟩; rw [show numV (bts s) = v from HV.out.symm]; have HG := Lib.hid hg'; clear hr' hb' hg')
      | (go_at_call 51; refine Calls.mono (KD _).out ?_; rintro e w3 ⟨rfl, hw⟩; subst w3))
    go_ret2
    exact ⟨rfl, bl.out.grown HG.out bl.out.size (fun j hj => by simp at hj; omega)⟩
set_option maxHeartbeats 1000000 in
theorem d_base_any (s : ByteArray) (y : Int) (w : World) (hs : s.size ≤ 1000000) : Calls Tryz.prog 98 #[.agg #[.string s, .int .i64 y]] w (GivesN0 (num1 (bts s)) w) := by
  have KC := fun W => Lib.hid (dcounted_any s y 0 W hs (by omega) (by omega))
  rw [Int.zero_add] at KC
  obtain ⟨r, b, hr⟩ : ∃ (r : Int) (b : Bool), GivesN0 (num1 (bts s)) = fun w e w' => e = .returned (.tuple #[.int .i64 r, .bool b]) ∧ Below w.heap.size w w' := ⟨_, _, rfl⟩
  rw [hr] at KC ⊢
  clear hs hr
  go_enter Tryz.func98, Tryz.ntmps98
  go_wp2_with (go_at_call 132; refine Calls.mono (KC _).out ?_; rintro e w2 ⟨rfl, hb⟩; have B2 := Lib.hid (Bl.step (Bl.alloc (Below.refl _ w) _) hb); clear hb)
  go_ret2
  exact ⟨rfl, B2.out⟩
set_option maxHeartbeats 2000000 in
theorem d_days_any (s : ByteArray) (p : Nat) (w : World) (hs : s.size ≤ 1000000) (hp : p ≤ 9999) : Calls Tryz.prog 99 #[.agg #[.string s, .int .i64 ((p : Int) + 1)]] w (GivesN0 ((bef p : Int) - 1 + num1 (bts s)) w) := by
  have hb := bef_le366 p
  have KF := fun W => Lib.hid (firstDay_any p W (by omega))
  have f1 : IntKind.i64.wrap ((bef p : Int) - 1) = (bef p : Int) - 1 := i64i' (by omega) (by omega)
  have f2 : wrap64 ((bef p : Int) - 1) = (bef p : Int) - 1 := w64 (by omega) (by omega)
  have KC := fun W => Lib.hid (dcounted_any s ((p : Int) + 1) ((bef p : Int) - 1) W hs (by omega) (by omega))
  obtain ⟨r, b, hr⟩ : ∃ (r : Int) (b : Bool), GivesN0 ((bef p : Int) - 1 + num1 (bts s)) = fun w e w' => e = .returned (.tuple #[.int .i64 r, .bool b]) ∧ Below w.heap.size w w' := ⟨_, _, rfl⟩
  rw [hr] at KC ⊢
  clear hs hp hb hr
  go_enter Tryz.func99, Tryz.ntmps99
  go_wp2
  obtain ⟨W0, hW0⟩ : ∃ W0, W0 = w.alloc (.cells #[.string s, .int .i64 ((p : Int) + 1)] 88) := ⟨_, rfl⟩
  have bb : BoxC W0 w.heap.size 88 #[.string s, .int .i64 ((p : Int) + 1)] := by rw [hW0]; exact BoxC.new _ _ _
  have HB0 := Lib.hid (show Below w.heap.size w W0 by rw [hW0]; exact Bl.alloc (Below.refl _ w) _)
  rw [← hW0]
  have c0 := bb.cell (i := 0) rfl
  have c1 := bb.cell (i := 1) rfl
  have HBB := Lib.hid bb
  clear hW0 bb
  go_region_held3 (fun w' => w'.cell? ⟨w.heap.size, 0, none⟩ = some (.string s) ∧ w'.cell? ⟨w.heap.size, 1, none⟩ = some (.int .i64 ((p : Int) + 1)))
    (first | exact ⟨c0, c1⟩ | exact ⟨k0, k1⟩ | go_keep)
    (first
      | (go_at_call 85; refine Calls.mono (KF _).out ?_; rintro e w1 ⟨rfl, rfl⟩)
      | (go_at_call 132; refine Calls.mono (KC _).out ?_; rintro e w2 ⟨rfl, hb⟩; have B2 := Lib.hid (Bl.step (Bl.drew HB0.out) hb); have bb2 := (HBB.out.drew).below hb HBB.out.lt; have k0 := bb2.cell (i := 0) rfl; have k1 := bb2.cell (i := 1) rfl; clear hb bb2))
  all_goals
    go_wp2
    go_ret2
    exact ⟨rfl, B2.out⟩
set_option maxHeartbeats 2000000 in
theorem d_iso_any (s : ByteArray) (y : Nat) (w : World) (hs : s.size ≤ 1000000) : Calls Tryz.prog 101 #[.agg #[.string s, .int .i64 (y : Int)]] w (GivesC (num1 (bts s)) (num2 (bts s)) (num3 (bts s)) w) := by
  have KO := fun (W : World) (q : Nat) (h : BoxC W q 3 #[.int .i64 0, .int .i64 1, .int .i64 2]) => Lib.hid (inOrderO_any q s y W hs (sufOk_any s hs) h)
  have KI := fun W => Lib.hid (inCal_any (num1 (bts s)) (num2 (bts s)) (num3 (bts s)) W)
  clear hs
  obtain ⟨a, ha⟩ : ∃ a, a = (num1 (bts s)) := ⟨_, rfl⟩
  obtain ⟨b, hb⟩ : ∃ b, b = (num2 (bts s)) := ⟨_, rfl⟩
  obtain ⟨c, hc⟩ : ∃ c, c = (num3 (bts s)) := ⟨_, rfl⟩
  rw [← ha, ← hb, ← hc] at KO KI ⊢
  clear ha hb hc
  go_enter Tryz.func101, Tryz.ntmps101
  go_wp2_with (first
    | (go_at_call 134; refine Calls.mono (KO _ _ (by repeat (first | exact BoxC.newAt (by simp) | refine BoxC.drew ?_ | refine BoxC.alloc ?_ _))).out ?_; rintro e V1 ⟨rfl, hb1⟩; have B1 := Lib.hid (Bl.step (show Below w.heap.size w _ from by repeat (first | exact Below.refl _ _ | refine Bl.alloc ?_ _ | refine Bl.drew ?_)) hb1); clear hb1)
    | (go_at_call 47; refine Calls.mono (KI _).out ?_; rintro e V3 ⟨n, bb, rfl, hr, hb3⟩))
  go_ret2
  exact ⟨n, bb, rfl, hr, Bl.step B1.out hb3⟩
theorem stFacts (v : Int) (h1 : -1 ≤ v) (h2 : v ≤ 1000000000000) : wrap64 (v.tdiv 10000) = v.tdiv 10000 ∧ IntKind.i64.wrap (v.tdiv 10000) = v.tdiv 10000 ∧ wrap64 (v.tdiv 100) = v.tdiv 100 ∧ IntKind.i64.wrap (v.tdiv 100) = v.tdiv 100 ∧ wrap64 ((v.tdiv 100).tmod 100) = (v.tdiv 100).tmod 100 ∧ IntKind.i64.wrap ((v.tdiv 100).tmod 100) = (v.tdiv 100).tmod 100 ∧ wrap64 (v.tmod 100) = v.tmod 100 ∧ IntKind.i64.wrap (v.tmod 100) = v.tmod 100 := by
  have a : v.tdiv 10000 = if 0 ≤ v then v / 10000 else 0 := by
    split
    · rw [Int.tdiv_eq_ediv_of_nonneg (by omega)]
    · rw [show v = -1 by omega]; rfl
  have b : v.tdiv 100 = if 0 ≤ v then v / 100 else 0 := by
    split
    · rw [Int.tdiv_eq_ediv_of_nonneg (by omega)]
    · rw [show v = -1 by omega]; rfl
  have c : v.tmod 100 = if 0 ≤ v then v % 100 else -1 := by
    split
    · rw [Int.tmod_eq_emod_of_nonneg (by omega)]
    · rw [show v = -1 by omega]; rfl
  have d : (v.tdiv 100).tmod 100 = if 0 ≤ v then v / 100 % 100 else 0 := by
    rw [b]
    split
    · rw [Int.tmod_eq_emod_of_nonneg (by omega)]
    · rfl
  refine ⟨?_, ?_, ?_, ?_, ?_, ?_, ?_, ?_⟩
  · rw [a]; split <;> exact w64 (by omega) (by omega)
  · rw [a]; split <;> exact i64i' (by omega) (by omega)
  · rw [b]; split <;> exact w64 (by omega) (by omega)
  · rw [b]; split <;> exact i64i' (by omega) (by omega)
  · rw [d]; split <;> exact w64 (by omega) (by omega)
  · rw [d]; split <;> exact i64i' (by omega) (by omega)
  · rw [c]; split <;> exact w64 (by omega) (by omega)
  · rw [c]; split <;> exact i64i' (by omega) (by omega)
end Go.Proofs.YtmjifmlibgpjiaaGreatDoor
