/- Readers of dates, at any text; ReadDay of the formats without names. -/
import Derived.Test.YtmjifmlibgpjiaaGreatDoorGc
import Derived.Deep.RegionHeld3
import Derived.StillTailTactics
import Derived.Test.YtmjifmlibgpjiaaGreatDoorGd
namespace Go.Proofs.YtmjifmlibgpjiaaGreatDoor
open Go.RowKit Go.Shelf Tx Go.Maps
set_option linter.unusedVariables false
set_option maxRecDepth 100000

/-- A day and whether it is one of the calendar. -/
def GivesN0 (v : Int) (w : World) (e : Ending) (w' : World) : Prop := e = .returned (.tuple #[.int .i64 (if 0 ≤ v ∧ v ≤ 3652058 then v else 0), .bool (decide (0 ≤ v ∧ v ≤ 3652058))]) ∧ Below w.heap.size w w'
set_option maxHeartbeats 2000000 in
theorem dcounted_any (s : ByteArray) (y a : Int) (w : World) (hs : s.size ≤ 1000000) (h1 : -1 ≤ a) (h2 : a ≤ 4000000) :
    Calls Tryz.prog 132 #[.agg #[.string s, .int .i64 y], .int .i64 a] w (GivesN0 (a + num1 (bts s)) w) := by
  have hN : -1 ≤ num1 (bts s) ∧ num1 (bts s) ≤ 1000000000000 := numV_ge (bts s)
  have bl := Lib.hid (Bl.alloc (Bl.alloc (Below.refl _ w) (.cells #[.string s, .int .i64 y] 88)) (.cells #[.string s] 9))
  have KN := Lib.hid (number_next s (w.heap.size + 1) ((w.alloc (.cells #[.string s, .int .i64 y] 88)).alloc (.cells #[.string s] 9)) hs (idxOk_any s hs) (BoxC.newAt (by simp)))
  obtain ⟨v, hv⟩ : ∃ v, v = num1 (bts s) := ⟨_, rfl⟩
  have HV := Lib.hid hv
  rw [← hv] at hN ⊢
  obtain ⟨d, hd⟩ : ∃ d, d = a + v := ⟨_, rfl⟩
  have f1 : IntKind.i64.wrap (a + v) = d := by rw [hd]; exact i64i' (by omega) (by omega)
  have f2 : wrap64 (a + v) = d := by rw [hd]; exact w64 (by omega) (by omega)
  have KD := fun W => Lib.hid (isDay_any d W)
  rw [← hd]
  clear hN hv hd hs h1 h2
  unfold GivesN0
  by_cases hi : 0 ≤ d ∧ d ≤ 3652058
  · rw [inR_true hi.1 hi.2] at KD
    rw [if_pos hi, decide_eq_true hi]
    clear hi
    go_enter Tryz.func132, Tryz.ntmps132
    go_wp2_with (first
      | (go_at_call 138; refine Calls.mono (numbersIn_any _ _) ?_; rintro e w9 ⟨rfl, rfl⟩)
      | (go_at_call 155; refine Calls.mono KN.out ?_; rintro e w2 ⟨r', rfl, hr', hb', hg'⟩; rw [show numV (bts s) = v from HV.out.symm]; have HG := Lib.hid hg'; clear hr' hb' hg')
      | (go_at_call 51; refine Calls.mono (KD _).out ?_; rintro e w3 ⟨rfl, hw⟩; subst w3))
    go_ret2
    exact ⟨rfl, bl.out.grown HG.out bl.out.size (fun j hj => by simp at hj; omega)⟩
  · rw [inR_false hi] at KD
    rw [if_neg hi, decide_eq_false hi]
    clear hi
    go_enter Tryz.func132, Tryz.ntmps132
    go_wp2_with (first
      | (go_at_call 138; refine Calls.mono (numbersIn_any _ _) ?_; rintro e w9 ⟨rfl, rfl⟩)
      | (go_at_call 155; refine Calls.mono KN.out ?_; rintro e w2 ⟨r', rfl, hr', hb', hg'⟩; rw [show numV (bts s) = v from HV.out.symm]; have HG := Lib.hid hg'; clear hr' hb' hg')
      | (go_at_call 51; refine Calls.mono (KD _).out ?_; rintro e w3 ⟨rfl, hw⟩; subst w3))
    go_ret2
    exact ⟨rfl, bl.out.grown HG.out bl.out.size (fun j hj => by simp at hj; omega)⟩
set_option maxHeartbeats 1000000 in
theorem d_base_any (s : ByteArray) (y : Int) (w : World) (hs : s.size ≤ 1000000) : Calls Tryz.prog 98 #[.agg #[.string s, .int .i64 y]] w (GivesN0 (num1 (bts s)) w) := by
  have KC := fun W => Lib.hid (dcounted_any s y 0 W hs (by omega) (by omega))
  rw [Int.zero_add] at KC
  obtain ⟨r, b, hr⟩ : ∃ (r : Int) (b : Bool), GivesN0 (num1 (bts s)) = fun w e w' => e = .returned (.tuple #[.int .i64 r, .bool b]) ∧ Below w.heap.size w w' := ⟨_, _, rfl⟩
  rw [hr] at KC ⊢
  clear hs hr
  go_enter Tryz.func98, Tryz.ntmps98
  go_wp2_with (go_at_call 132; refine Calls.mono (KC _).out ?_; rintro e w2 ⟨rfl, hb⟩; have B2 := Lib.hid (Bl.step (Bl.alloc (Below.refl _ w) _) hb); clear hb)
  go_ret2
  exact ⟨rfl, B2.out⟩
set_option maxHeartbeats 2000000 in
theorem d_days_any (s : ByteArray) (p : Nat) (w : World) (hs : s.size ≤ 1000000) (hp : p ≤ 9999) : Calls Tryz.prog 99 #[.agg #[.string s, .int .i64 ((p : Int) + 1)]] w (GivesN0 ((bef p : Int) - 1 + num1 (bts s)) w) := by
  have hb := bef_le366 p
  have KF := fun W => Lib.hid (firstDay_any p W (by omega))
  have f1 : IntKind.i64.wrap ((bef p : Int) - 1) = (bef p : Int) - 1 := i64i' (by omega) (by omega)
  have f2 : wrap64 ((bef p : Int) - 1) = (bef p : Int) - 1 := w64 (by omega) (by omega)
  have KC := fun W => Lib.hid (dcounted_any s ((p : Int) + 1) ((bef p : Int) - 1) W hs (by omega) (by omega))
  obtain ⟨r, b, hr⟩ : ∃ (r : Int) (b : Bool), GivesN0 ((bef p : Int) - 1 + num1 (bts s)) = fun w e w' => e = .returned (.tuple #[.int .i64 r, .bool b]) ∧ Below w.heap.size w w' := ⟨_, _, rfl⟩
  rw [hr] at KC ⊢
  clear hs hp hb hr
  go_enter Tryz.func99, Tryz.ntmps99
  go_wp2
  obtain ⟨W0, hW0⟩ : ∃ W0, W0 = w.alloc (.cells #[.string s, .int .i64 ((p : Int) + 1)] 88) := ⟨_, rfl⟩
  have bb : BoxC W0 w.heap.size 88 #[.string s, .int .i64 ((p : Int) + 1)] := by rw [hW0]; exact BoxC.new _ _ _
  have HB0 := Lib.hid (show Below w.heap.size w W0 by rw [hW0]; exact Bl.alloc (Below.refl _ w) _)
  rw [← hW0]
  have c0 := bb.cell (i := 0) rfl
  have c1 := bb.cell (i := 1) rfl
  have HBB := Lib.hid bb
  clear hW0 bb
  go_region_held3 (fun w' => w'.cell? ⟨w.heap.size, 0, none⟩ = some (.string s) ∧ w'.cell? ⟨w.heap.size, 1, none⟩ = some (.int .i64 ((p : Int) + 1)))
    (first | exact ⟨c0, c1⟩ | exact ⟨k0, k1⟩ | go_keep)
    (first
      | (go_at_call 85; refine Calls.mono (KF _).out ?_; rintro e w1 ⟨rfl, rfl⟩)
      | (go_at_call 132; refine Calls.mono (KC _).out ?_; rintro e w2 ⟨rfl, hb⟩; have B2 := Lib.hid (Bl.step (Bl.drew HB0.out) hb); have bb2 := (HBB.out.drew).below hb HBB.out.lt; have k0 := bb2.cell (i := 0) rfl; have k1 := bb2.cell (i := 1) rfl; clear hb bb2))
  all_goals
    go_wp2
    go_ret2
    exact ⟨rfl, B2.out⟩
set_option maxHeartbeats 2000000 in
theorem d_iso_any (s : ByteArray) (y : Nat) (w : World) (hs : s.size ≤ 1000000) : Calls Tryz.prog 101 #[.agg #[.string s, .int .i64 (y : Int)]] w (GivesC (num1 (bts s)) (num2 (bts s)) (num3 (bts s)) w) := by
  have KO := fun (W : World) (q : Nat) (h : BoxC W q 3 #[.int .i64 0, .int .i64 1, .int .i64 2]) => Lib.hid (inOrderO_any q s y W hs (sufOk_any s hs) h)
  have KI := fun W => Lib.hid (inCal_any (num1 (bts s)) (num2 (bts s)) (num3 (bts s)) W)
  clear hs
  obtain ⟨a, ha⟩ : ∃ a, a = (num1 (bts s)) := ⟨_, rfl⟩
  obtain ⟨b, hb⟩ : ∃ b, b = (num2 (bts s)) := ⟨_, rfl⟩
  obtain ⟨c, hc⟩ : ∃ c, c = (num3 (bts s)) := ⟨_, rfl⟩
  rw [← ha, ← hb, ← hc] at KO KI ⊢
  clear ha hb hc
  go_enter Tryz.func101, Tryz.ntmps101
  go_wp2_with (first
    | (go_at_call 134; refine Calls.mono (KO _ _ (by repeat (first | exact BoxC.newAt (by simp) | refine BoxC.drew ?_ | refine BoxC.alloc ?_ _))).out ?_; rintro e V1 ⟨rfl, hb1⟩; have B1 := Lib.hid (Bl.step (show Below w.heap.size w _ from by repeat (first | exact Below.refl _ _ | refine Bl.alloc ?_ _ | refine Bl.drew ?_)) hb1); clear hb1)
    | (go_at_call 47; refine Calls.mono (KI _).out ?_; rintro e V3 ⟨n, bb, rfl, hr, hb3⟩))
  go_ret2
  exact ⟨n, bb, rfl, hr, Bl.step B1.out hb3⟩
theorem stFacts (v : Int) (h1 : -1 ≤ v) (h2 : v ≤ 1000000000000) : wrap64 (v.tdiv 10000) = v.tdiv 10000 ∧ IntKind.i64.wrap (v.tdiv 10000) = v.tdiv 10000 ∧ wrap64 (v.tdiv 100) = v.tdiv 100 ∧ IntKind.i64.wrap (v.tdiv 100) = v.tdiv 100 ∧ wrap64 ((v.tdiv 100).tmod 100) = (v.tdiv 100).tmod 100 ∧ IntKind.i64.wrap ((v.tdiv 100).tmod 100) = (v.tdiv 100).tmod 100 ∧ wrap64 (v.tmod 100) = v.tmod 100 ∧ IntKind.i64.wrap (v.tmod 100) = v.tmod 100 := by
  have a : v.tdiv 10000 = if 0 ≤ v then v / 10000 else 0 := by
    split
    · rw [Int.tdiv_eq_ediv_of_nonneg (by omega)]
    · rw [show v = -1 by omega]; rfl
  have b : v.tdiv 100 = if 0 ≤ v then v / 100 else 0 := by
    split
    · rw [Int.tdiv_eq_ediv_of_nonneg (by omega)]
    · rw [show v = -1 by omega]; rfl
  have c : v.tmod 100 = if 0 ≤ v then v % 100 else -1 := by
    split
    · rw [Int.tmod_eq_emod_of_nonneg (by omega)]
    · rw [show v = -1 by omega]; rfl
  have d : (v.tdiv 100).tmod 100 = if 0 ≤ v then v / 100 % 100 else 0 := by
    rw [b]
    split
    · rw [Int.tmod_eq_emod_of_nonneg (by omega)]
    · rfl
  refine ⟨?_, ?_, ?_, ?_, ?_, ?_, ?_, ?_⟩
  · rw [a]; split <;> exact w64 (by omega) (by omega)
  · rw [a]; split <;> exact i64i' (by omega) (by omega)
  · rw [b]; split <;> exact w64 (by omega) (by omega)
  · rw [b]; split <;> exact i64i' (by omega) (by omega)
  · rw [d]; split <;> exact w64 (by omega) (by omega)
  · rw [d]; split <;> exact i64i' (by omega) (by omega)
  · rw [c]; split <;> exact w64 (by omega) (by omega)
  · rw [c]; split <;> exact i64i' (by omega) (by omega)
end Go.Proofs.YtmjifmlibgpjiaaGreatDoor
namespace Go.Proofs.YtmjifmlibgpjiaaGreatDoor
open Go.RowKit Go.Shelf Tx Go.Maps
set_option linter.unusedVariables false
set_option maxRecDepth 100000

set_option maxHeartbeats 2000000 in
theorem d_standard_any (s : ByteArray) (y : Int) (w : World) (hs : s.size ≤ 1000000) : Calls Tryz.prog 104 #[.agg #[.string s, .int .i64 y]] w (GivesC ((num1 (bts s)).tdiv 10000) (((num1 (bts s)).tdiv 100).tmod 100) ((num1 (bts s)).tmod 100) w) := by
  have hN : -1 ≤ num1 (bts s) ∧ num1 (bts s) ≤ 1000000000000 := numV_ge (bts s)
  have bl := Lib.hid (Bl.alloc (Bl.alloc (Below.refl _ w) (.cells #[.string s, .int .i64 y] 88)) (.cells #[.string s] 9))
  have KN := Lib.hid (number_next s (w.heap.size + 1) ((w.alloc (.cells #[.string s, .int .i64 y] 88)).alloc (.cells #[.string s] 9)) hs (idxOk_any s hs) (BoxC.newAt (by simp)))
  obtain ⟨v, hv⟩ : ∃ v, v = num1 (bts s) := ⟨_, rfl⟩
  have HV := Lib.hid hv
  rw [← hv] at hN ⊢
  obtain ⟨f1, f2, f3, f4, f5, f6, f7, f8⟩ := stFacts v hN.1 hN.2
  obtain ⟨a, ha⟩ : ∃ a, a = v.tdiv 10000 := ⟨_, rfl⟩
  obtain ⟨q, hq⟩ : ∃ q, q = v.tdiv 100 := ⟨_, rfl⟩
  obtain ⟨b, hb⟩ : ∃ b, b = q.tmod 100 := ⟨_, rfl⟩
  obtain ⟨c, hc⟩ : ∃ c, c = v.tmod 100 := ⟨_, rfl⟩
  rw [← ha] at f1 f2
  rw [← hq] at f3 f4 f5 f6
  rw [← hb] at f5 f6
  rw [← hc] at f7 f8
  have KI := fun W => Lib.hid (inCal_any a b c W)
  have t1 : v.tdiv 10000 = a := ha.symm
  have t2 : v.tdiv 100 = q := hq.symm
  have t3 : q.tmod 100 = b := hb.symm
  have t4 : v.tmod 100 = c := hc.symm
  rw [t1, t2, t3, t4]
  clear hN hv hs ha hq hb hc
  go_enter Tryz.func104, Tryz.ntmps104
  go_wp2_with (first
    | (go_at_call 138; refine Calls.mono (numbersIn_any _ _) ?_; rintro e w9 ⟨rfl, rfl⟩)
    | (go_at_call 155; refine Calls.mono KN.out ?_; rintro e w2 ⟨r', rfl, hr', hb', hg'⟩; rw [show numV (bts s) = v from HV.out.symm]; have B2 := Lib.hid (bl.out.grown hg' bl.out.size (fun j hj => by simp at hj; omega)); clear hr' hb' hg')
    | (go_at_call 46; refine Calls.mono (dateFrom_any _ _ _ _) ?_; rintro e w5 ⟨rfl, rfl⟩)
    | (go_at_call 47; refine Calls.mono (KI _).out ?_; rintro e V3 ⟨n, bb, rfl, hr, hb3⟩; have B3 := Lib.hid (Bl.step (Bl.alloc B2.out _) hb3); clear hb3))
  go_ret2
  exact ⟨n, bb, rfl, hr, B3.out⟩
end Go.Proofs.YtmjifmlibgpjiaaGreatDoor
namespace Go.Proofs.YtmjifmlibgpjiaaGreatDoor
open Go.RowKit Go.Shelf Tx Go.Maps
set_option linter.unusedVariables false
set_option maxRecDepth 100000

namespace Tx
open Classical in
/-- The day of a date, if it is one of the calendar. -/
noncomputable def calOf (y m k : Int) : Option Nat := if h : ∃ n, IsCal n y m k then some (Classical.choose h) else none
/-- A day, if it is one of the calendar. -/
def dayIn (v : Int) : Option Nat := if 0 ≤ v ∧ v ≤ 3652058 then some v.toNat else none
end Tx
theorem calOf_some {y m k : Int} {n : Nat} (h : IsCal n y m k) : calOf y m k = some n := by
  unfold calOf
  have hex : ∃ n, IsCal n y m k := ⟨n, h⟩
  rw [dif_pos hex, isCal_uniq (Classical.choose_spec hex) h]
theorem calOf_none {y m k : Int} (h : ∀ n, ¬ IsCal n y m k) : calOf y m k = none := by
  unfold calOf
  rw [dif_neg (fun ⟨n, hn⟩ => h n hn)]
theorem calOf_is {y m k : Int} {n : Nat} (h : calOf y m k = some n) : IsCal n y m k := by
  unfold calOf at h
  split at h
  · rename_i hex
    cases h
    exact Classical.choose_spec hex
  · cases h
theorem cal_to {y m k : Int} {f : FuncId} {args : Array Value} {w : World} (h : Calls Tryz.prog f args w (GivesC y m k w)) : Calls Tryz.prog f args w (GivesO w (calOf y m k)) := by
  refine h.mono ?_
  rintro e w' ⟨r, b, rfl, hr, hb⟩
  rcases hr.out with ⟨rfl, n', rfl, hc⟩ | ⟨rfl, rfl, hno⟩
  · rw [calOf_some hc]; exact ⟨rfl, hb⟩
  · rw [calOf_none hno]; exact ⟨rfl, hb⟩
theorem day_to {v : Int} {f : FuncId} {args : Array Value} {w : World} (h : Calls Tryz.prog f args w (GivesN0 v w)) : Calls Tryz.prog f args w (GivesO w (dayIn v)) := by
  refine h.mono ?_
  rintro e w' ⟨rfl, hb⟩
  refine ⟨?_, hb⟩
  unfold dayIn
  by_cases hv : 0 ≤ v ∧ v ≤ 3652058
  · rw [if_pos hv, if_pos hv, decide_eq_true hv]
    show _ = Ending.returned (.tuple #[.int .i64 ((v.toNat : Nat) : Int), .bool true])
    rw [Int.toNat_of_nonneg hv.1]
  · rw [if_neg hv, if_neg hv, decide_eq_false hv]
    rfl
theorem d_days_any' (s : ByteArray) (y : Nat) (w : World) (hs : s.size ≤ 1000000) (h1 : 1 ≤ y) (h9 : y ≤ 9999) : Calls Tryz.prog 99 #[.agg #[.string s, .int .i64 (y : Int)]] w (GivesN0 ((bef (y - 1) : Int) - 1 + num1 (bts s)) w) := by
  obtain ⟨p, rfl⟩ : ∃ p, y = p + 1 := ⟨y - 1, by omega⟩
  rw [show ((p + 1 : Nat) : Int) = (p : Int) + 1 by omega, Nat.add_sub_cancel]
  exact d_days_any s p w hs (by omega)
set_option maxHeartbeats 4000000 in
theorem ReadDay_B_none (s : ByteArray) (n0 y0 m0 k0 : Nat) (w : World) (hd0 : IsDate n0 y0 m0 k0) (h90 : y0 ≤ 9999) (hs : s.size ≤ 1000000) (hR : dayIn (num1 (bts s)) = none) : Calls Tryz.prog 30 #[.string s, .int .u8 66, .int .i64 (n0 : Int)] w (Gives w #[.int .i64 0, .int .i64 2]) := by
  have hn0 := isDate_max hd0 h90
  have KT := fun W => Lib.hid (isDay_any (n0 : Int) W)
  rw [inR_true (by omega) (by omega)] at KT
  have KD0 := fun W => Lib.hid (dateOf_any n0 y0 m0 k0 W hd0 h90)
  have KR := fun W => Lib.hid (dayR_any s y0 W)
  have KX := fun W => Lib.hid (show Calls Tryz.prog 98 #[.agg #[.string s, .int .i64 (y0 : Int)]] W (fun e w' => e = .returned (.tuple #[.int .i64 0, .bool false]) ∧ Below W.heap.size W w') from by have h := day_to (d_base_any s (y0 : Int) W hs); rw [hR] at h; exact h)
  have hfd := field_date
  have hid := index_date
  clear hd0 h90 hs hR hn0
  go_enter Tryz.func30, Tryz.ntmps30
  go_wp2_with (first
    | (go_at_call 51; refine Calls.mono (KT _).out ?_; rintro e W1 ⟨rfl, rfl⟩)
    | (go_at_call 52; (with_reducible refine Calls.mono (KD0 _).out ?_); clear KD0; rintro e w1 ⟨rfl, hb1⟩; have B1 := Lib.hid hb1; clear hb1)
    | (go_at_call 65; refine Calls.mono (KR _).out ?_; rintro e w2 ⟨b, q, Dd, rfl, hF, hb2⟩; have B2 := Lib.hid (Bl.step B1.out hb2); have hlk : (Instr.lookup 86 (.map (some b)) (.int .u8 66) true).run Tryz.prog w2 = .ok (.tuple #[.func (.func 98) #[.agg #[.string s, .int .i64 (y0 : Int)]] #[], .bool true]) w2 := (look_ok lawU8 Tryz.underlying86 (zeroG w2) hF.out.1 hF.out.2 66 Tryz.underlying5); clear hb2)
    | (go_at_call 98; refine Calls.mono (KX _).out ?_; rintro e w3 ⟨rfl, hb3⟩; have B3 := Lib.hid (Bl.step B2.out hb3); clear hb3))
  go_ret2
  exact ⟨rfl, B3.out⟩
set_option maxHeartbeats 4000000 in
theorem ReadDay_B_ok (s : ByteArray) (n0 y0 m0 k0 : Nat) (w : World) (hd0 : IsDate n0 y0 m0 k0) (h90 : y0 ≤ 9999) (hs : s.size ≤ 1000000) (n y m k : Nat) (hd : IsDate n y m k) (h9 : y ≤ 9999) (hR : dayIn (num1 (bts s)) = some n) (hf : bts s = Lib.decDigits n) (hE : Env w) : Calls Tryz.prog 30 #[.string s, .int .u8 66, .int .i64 (n0 : Int)] w (Gives w #[.int .i64 (n : Int), .int .i64 0]) := by
  have hn0 := isDate_max hd0 h90
  have KT := fun W => Lib.hid (isDay_any (n0 : Int) W)
  rw [inR_true (by omega) (by omega)] at KT
  have KD0 := fun W => Lib.hid (dateOf_any n0 y0 m0 k0 W hd0 h90)
  have KR := fun W => Lib.hid (dayR_any s y0 W)
  have KX := fun W => Lib.hid (show Calls Tryz.prog 98 #[.agg #[.string s, .int .i64 (y0 : Int)]] W (fun e w' => e = .returned (.tuple #[.int .i64 (n : Int), .bool true]) ∧ Below W.heap.size W w') from by have h := day_to (d_base_any s (y0 : Int) W hs); rw [hR] at h; exact h)
  have hk31 : k ≤ 31 := by have := hd.kd; have := dim_pos y m; omega
  have KD := fun W => Lib.hid (dateOf_any n y m k W hd h9)
  have KF := fun W => Lib.hid (datF_any y m k W)
  have KG := fun W hW => Lib.hid (base_any n y m k W hd h9 hW)
  have HE := Lib.hid hE
  have HF := Lib.hid hf
  have hfd := field_date
  have hid := index_date
  unfold dtV at KF KG
  clear hd0 h90 hd h9 hf hs hE hn0 hR hk31
  go_enter Tryz.func30, Tryz.ntmps30
  go_wp2_with (first
    | (go_at_call 51; refine Calls.mono (KT _).out ?_; rintro e W1 ⟨rfl, rfl⟩)
    | (go_at_call 52; (with_reducible refine Calls.mono (KD0 _).out ?_); clear KD0; rintro e w1 ⟨rfl, hb1⟩; have B1 := Lib.hid hb1; clear hb1)
    | (go_at_call 65; refine Calls.mono (KR _).out ?_; rintro e w2 ⟨b, q, Dd, rfl, hF, hb2⟩; have B2 := Lib.hid (Bl.step B1.out hb2); have hlk : (Instr.lookup 86 (.map (some b)) (.int .u8 66) true).run Tryz.prog w2 = .ok (.tuple #[.func (.func 98) #[.agg #[.string s, .int .i64 (y0 : Int)]] #[], .bool true]) w2 := (look_ok lawU8 Tryz.underlying86 (zeroG w2) hF.out.1 hF.out.2 66 Tryz.underlying5); clear hb2)
    | (go_at_call 98; refine Calls.mono (KX _).out ?_; rintro e w3 ⟨rfl, hb3⟩; have B3 := Lib.hid (Bl.step B2.out hb3); clear hb3)
    | (go_at_call 52; (with_reducible refine Calls.mono (KD _).out ?_); rintro e w4 ⟨rfl, hb4⟩; have B4 := Lib.hid (Bl.step B3.out hb4); clear hb4)
    | (go_at_call 60; refine Calls.mono (KF _).out ?_; rintro e w5 ⟨b5, q5, D5, rfl, hF5, hb5⟩; have B5 := Lib.hid (Bl.step B4.out hb5); have hlk5 : (Instr.lookup 81 (.map (some b5)) (.int .u8 66) false).run Tryz.prog w5 = .ok (.func (.func 87) #[.agg #[.int .i64 (y : Int), .int .i64 (m : Int), .int .i64 (k : Int)]] #[]) w5 := (look_no lawU8 Tryz.underlying81 (zeroF w5) hF5.out.1 hF5.out.2 66 Tryz.underlying5); clear hb5)
    | (go_at_call 87; refine Calls.mono (KG _ (HE.out.below B5.out)).out ?_; rintro e w6 ⟨t, rfl, ht, hb6⟩; have B6 := Lib.hid (Bl.step B5.out hb6); obtain rfl : t = s := bts_inj (ht.out.trans HF.out.symm); clear hb6))
  go_ret2
  exact ⟨rfl, B6.out⟩
set_option maxHeartbeats 4000000 in
theorem ReadDay_B_ne (s : ByteArray) (n0 y0 m0 k0 : Nat) (w : World) (hd0 : IsDate n0 y0 m0 k0) (h90 : y0 ≤ 9999) (hs : s.size ≤ 1000000) (n y m k : Nat) (hd : IsDate n y m k) (h9 : y ≤ 9999) (hR : dayIn (num1 (bts s)) = some n) (hf : ¬ bts s = Lib.decDigits n) (hE : Env w) : Calls Tryz.prog 30 #[.string s, .int .u8 66, .int .i64 (n0 : Int)] w (Gives w #[.int .i64 0, .int .i64 2]) := by
  have hn0 := isDate_max hd0 h90
  have KT := fun W => Lib.hid (isDay_any (n0 : Int) W)
  rw [inR_true (by omega) (by omega)] at KT
  have KD0 := fun W => Lib.hid (dateOf_any n0 y0 m0 k0 W hd0 h90)
  have KR := fun W => Lib.hid (dayR_any s y0 W)
  have KX := fun W => Lib.hid (show Calls Tryz.prog 98 #[.agg #[.string s, .int .i64 (y0 : Int)]] W (fun e w' => e = .returned (.tuple #[.int .i64 (n : Int), .bool true]) ∧ Below W.heap.size W w') from by have h := day_to (d_base_any s (y0 : Int) W hs); rw [hR] at h; exact h)
  have hk31 : k ≤ 31 := by have := hd.kd; have := dim_pos y m; omega
  have KD := fun W => Lib.hid (dateOf_any n y m k W hd h9)
  have KF := fun W => Lib.hid (datF_any y m k W)
  have KG := fun W hW => Lib.hid (base_any n y m k W hd h9 hW)
  have HE := Lib.hid hE
  have HF := Lib.hid hf
  have hfd := field_date
  have hid := index_date
  unfold dtV at KF KG
  clear hd0 h90 hd h9 hf hs hE hn0 hR hk31
  go_enter Tryz.func30, Tryz.ntmps30
  go_wp2_with (first
    | (go_at_call 51; refine Calls.mono (KT _).out ?_; rintro e W1 ⟨rfl, rfl⟩)
    | (go_at_call 52; (with_reducible refine Calls.mono (KD0 _).out ?_); clear KD0; rintro e w1 ⟨rfl, hb1⟩; have B1 := Lib.hid hb1; clear hb1)
    | (go_at_call 65; refine Calls.mono (KR _).out ?_; rintro e w2 ⟨b, q, Dd, rfl, hF, hb2⟩; have B2 := Lib.hid (Bl.step B1.out hb2); have hlk : (Instr.lookup 86 (.map (some b)) (.int .u8 66) true).run Tryz.prog w2 = .ok (.tuple #[.func (.func 98) #[.agg #[.string s, .int .i64 (y0 : Int)]] #[], .bool true]) w2 := (look_ok lawU8 Tryz.underlying86 (zeroG w2) hF.out.1 hF.out.2 66 Tryz.underlying5); clear hb2)
    | (go_at_call 98; refine Calls.mono (KX _).out ?_; rintro e w3 ⟨rfl, hb3⟩; have B3 := Lib.hid (Bl.step B2.out hb3); clear hb3)
    | (go_at_call 52; (with_reducible refine Calls.mono (KD _).out ?_); rintro e w4 ⟨rfl, hb4⟩; have B4 := Lib.hid (Bl.step B3.out hb4); clear hb4)
    | (go_at_call 60; refine Calls.mono (KF _).out ?_; rintro e w5 ⟨b5, q5, D5, rfl, hF5, hb5⟩; have B5 := Lib.hid (Bl.step B4.out hb5); have hlk5 : (Instr.lookup 81 (.map (some b5)) (.int .u8 66) false).run Tryz.prog w5 = .ok (.func (.func 87) #[.agg #[.int .i64 (y : Int), .int .i64 (m : Int), .int .i64 (k : Int)]] #[]) w5 := (look_no lawU8 Tryz.underlying81 (zeroF w5) hF5.out.1 hF5.out.2 66 Tryz.underlying5); clear hb5)
    | (go_at_call 87; refine Calls.mono (KG _ (HE.out.below B5.out)).out ?_; rintro e w6 ⟨t, rfl, ht, hb6⟩; have B6 := Lib.hid (Bl.step B5.out hb6); have hne : ¬ t.toList = s.toList := (by rw [toList_bts, toList_bts, ht.out]; exact fun q => HF.out q.symm); have hne2 : (t.toList == s.toList) = false := (beq_eq_false_iff_ne.2 hne); clear hb6))
  go_ret2
  exact ⟨rfl, B6.out⟩
set_option maxHeartbeats 4000000 in
theorem ReadDay_D_none (s : ByteArray) (n0 y0 m0 k0 : Nat) (w : World) (hd0 : IsDate n0 y0 m0 k0) (h90 : y0 ≤ 9999) (hs : s.size ≤ 1000000) (hR : dayIn ((bef (y0 - 1) : Int) - 1 + num1 (bts s)) = none) : Calls Tryz.prog 30 #[.string s, .int .u8 68, .int .i64 (n0 : Int)] w (Gives w #[.int .i64 0, .int .i64 2]) := by
  have hn0 := isDate_max hd0 h90
  have KT := fun W => Lib.hid (isDay_any (n0 : Int) W)
  rw [inR_true (by omega) (by omega)] at KT
  have KD0 := fun W => Lib.hid (dateOf_any n0 y0 m0 k0 W hd0 h90)
  have KR := fun W => Lib.hid (dayR_any s y0 W)
  have KX := fun W => Lib.hid (show Calls Tryz.prog 99 #[.agg #[.string s, .int .i64 (y0 : Int)]] W (fun e w' => e = .returned (.tuple #[.int .i64 0, .bool false]) ∧ Below W.heap.size W w') from by have h := day_to (d_days_any' s y0 W hs hd0.y1 h90); rw [hR] at h; exact h)
  have hfd := field_date
  have hid := index_date
  clear hd0 h90 hs hR hn0
  go_enter Tryz.func30, Tryz.ntmps30
  go_wp2_with (first
    | (go_at_call 51; refine Calls.mono (KT _).out ?_; rintro e W1 ⟨rfl, rfl⟩)
    | (go_at_call 52; (with_reducible refine Calls.mono (KD0 _).out ?_); clear KD0; rintro e w1 ⟨rfl, hb1⟩; have B1 := Lib.hid hb1; clear hb1)
    | (go_at_call 65; refine Calls.mono (KR _).out ?_; rintro e w2 ⟨b, q, Dd, rfl, hF, hb2⟩; have B2 := Lib.hid (Bl.step B1.out hb2); have hlk : (Instr.lookup 86 (.map (some b)) (.int .u8 68) true).run Tryz.prog w2 = .ok (.tuple #[.func (.func 99) #[.agg #[.string s, .int .i64 (y0 : Int)]] #[], .bool true]) w2 := (look_ok lawU8 Tryz.underlying86 (zeroG w2) hF.out.1 hF.out.2 68 Tryz.underlying5); clear hb2)
    | (go_at_call 99; refine Calls.mono (KX _).out ?_; rintro e w3 ⟨rfl, hb3⟩; have B3 := Lib.hid (Bl.step B2.out hb3); clear hb3))
  go_ret2
  exact ⟨rfl, B3.out⟩
set_option maxHeartbeats 4000000 in
theorem ReadDay_D_ok (s : ByteArray) (n0 y0 m0 k0 : Nat) (w : World) (hd0 : IsDate n0 y0 m0 k0) (h90 : y0 ≤ 9999) (hs : s.size ≤ 1000000) (n y m k : Nat) (hd : IsDate n y m k) (h9 : y ≤ 9999) (hR : dayIn ((bef (y0 - 1) : Int) - 1 + num1 (bts s)) = some n) (hf : bts s = Lib.decDigits (n - bef (y - 1) + 1)) (hE : Env w) : Calls Tryz.prog 30 #[.string s, .int .u8 68, .int .i64 (n0 : Int)] w (Gives w #[.int .i64 (n : Int), .int .i64 0]) := by
  have hn0 := isDate_max hd0 h90
  have KT := fun W => Lib.hid (isDay_any (n0 : Int) W)
  rw [inR_true (by omega) (by omega)] at KT
  have KD0 := fun W => Lib.hid (dateOf_any n0 y0 m0 k0 W hd0 h90)
  have KR := fun W => Lib.hid (dayR_any s y0 W)
  have KX := fun W => Lib.hid (show Calls Tryz.prog 99 #[.agg #[.string s, .int .i64 (y0 : Int)]] W (fun e w' => e = .returned (.tuple #[.int .i64 (n : Int), .bool true]) ∧ Below W.heap.size W w') from by have h := day_to (d_days_any' s y0 W hs hd0.y1 h90); rw [hR] at h; exact h)
  have hk31 : k ≤ 31 := by have := hd.kd; have := dim_pos y m; omega
  have KD := fun W => Lib.hid (dateOf_any n y m k W hd h9)
  have KF := fun W => Lib.hid (datF_any y m k W)
  have KG := fun W hW => Lib.hid (days_any n y m k W hd h9 hW)
  have HE := Lib.hid hE
  have HF := Lib.hid hf
  have hfd := field_date
  have hid := index_date
  unfold dtV at KF KG
  clear hd0 h90 hd h9 hf hs hE hn0 hR hk31
  go_enter Tryz.func30, Tryz.ntmps30
  go_wp2_with (first
    | (go_at_call 51; refine Calls.mono (KT _).out ?_; rintro e W1 ⟨rfl, rfl⟩)
    | (go_at_call 52; (with_reducible refine Calls.mono (KD0 _).out ?_); clear KD0; rintro e w1 ⟨rfl, hb1⟩; have B1 := Lib.hid hb1; clear hb1)
    | (go_at_call 65; refine Calls.mono (KR _).out ?_; rintro e w2 ⟨b, q, Dd, rfl, hF, hb2⟩; have B2 := Lib.hid (Bl.step B1.out hb2); have hlk : (Instr.lookup 86 (.map (some b)) (.int .u8 68) true).run Tryz.prog w2 = .ok (.tuple #[.func (.func 99) #[.agg #[.string s, .int .i64 (y0 : Int)]] #[], .bool true]) w2 := (look_ok lawU8 Tryz.underlying86 (zeroG w2) hF.out.1 hF.out.2 68 Tryz.underlying5); clear hb2)
    | (go_at_call 99; refine Calls.mono (KX _).out ?_; rintro e w3 ⟨rfl, hb3⟩; have B3 := Lib.hid (Bl.step B2.out hb3); clear hb3)
    | (go_at_call 52; (with_reducible refine Calls.mono (KD _).out ?_); rintro e w4 ⟨rfl, hb4⟩; have B4 := Lib.hid (Bl.step B3.out hb4); clear hb4)
    | (go_at_call 60; refine Calls.mono (KF _).out ?_; rintro e w5 ⟨b5, q5, D5, rfl, hF5, hb5⟩; have B5 := Lib.hid (Bl.step B4.out hb5); have hlk5 : (Instr.lookup 81 (.map (some b5)) (.int .u8 68) false).run Tryz.prog w5 = .ok (.func (.func 89) #[.agg #[.int .i64 (y : Int), .int .i64 (m : Int), .int .i64 (k : Int)]] #[]) w5 := (look_no lawU8 Tryz.underlying81 (zeroF w5) hF5.out.1 hF5.out.2 68 Tryz.underlying5); clear hb5)
    | (go_at_call 89; refine Calls.mono (KG _ (HE.out.below B5.out)).out ?_; rintro e w6 ⟨t, rfl, ht, hb6⟩; have B6 := Lib.hid (Bl.step B5.out hb6); obtain rfl : t = s := bts_inj (ht.out.trans HF.out.symm); clear hb6))
  go_ret2
  exact ⟨rfl, B6.out⟩
set_option maxHeartbeats 4000000 in
theorem ReadDay_D_ne (s : ByteArray) (n0 y0 m0 k0 : Nat) (w : World) (hd0 : IsDate n0 y0 m0 k0) (h90 : y0 ≤ 9999) (hs : s.size ≤ 1000000) (n y m k : Nat) (hd : IsDate n y m k) (h9 : y ≤ 9999) (hR : dayIn ((bef (y0 - 1) : Int) - 1 + num1 (bts s)) = some n) (hf : ¬ bts s = Lib.decDigits (n - bef (y - 1) + 1)) (hE : Env w) : Calls Tryz.prog 30 #[.string s, .int .u8 68, .int .i64 (n0 : Int)] w (Gives w #[.int .i64 0, .int .i64 2]) := by
  have hn0 := isDate_max hd0 h90
  have KT := fun W => Lib.hid (isDay_any (n0 : Int) W)
  rw [inR_true (by omega) (by omega)] at KT
  have KD0 := fun W => Lib.hid (dateOf_any n0 y0 m0 k0 W hd0 h90)
  have KR := fun W => Lib.hid (dayR_any s y0 W)
  have KX := fun W => Lib.hid (show Calls Tryz.prog 99 #[.agg #[.string s, .int .i64 (y0 : Int)]] W (fun e w' => e = .returned (.tuple #[.int .i64 (n : Int), .bool true]) ∧ Below W.heap.size W w') from by have h := day_to (d_days_any' s y0 W hs hd0.y1 h90); rw [hR] at h; exact h)
  have hk31 : k ≤ 31 := by have := hd.kd; have := dim_pos y m; omega
  have KD := fun W => Lib.hid (dateOf_any n y m k W hd h9)
  have KF := fun W => Lib.hid (datF_any y m k W)
  have KG := fun W hW => Lib.hid (days_any n y m k W hd h9 hW)
  have HE := Lib.hid hE
  have HF := Lib.hid hf
  have hfd := field_date
  have hid := index_date
  unfold dtV at KF KG
  clear hd0 h90 hd h9 hf hs hE hn0 hR hk31
  go_enter Tryz.func30, Tryz.ntmps30
  go_wp2_with (first
    | (go_at_call 51; refine Calls.mono (KT _).out ?_; rintro e W1 ⟨rfl, rfl⟩)
    | (go_at_call 52; (with_reducible refine Calls.mono (KD0 _).out ?_); clear KD0; rintro e w1 ⟨rfl, hb1⟩; have B1 := Lib.hid hb1; clear hb1)
    | (go_at_call 65; refine Calls.mono (KR _).out ?_; rintro e w2 ⟨b, q, Dd, rfl, hF, hb2⟩; have B2 := Lib.hid (Bl.step B1.out hb2); have hlk : (Instr.lookup 86 (.map (some b)) (.int .u8 68) true).run Tryz.prog w2 = .ok (.tuple #[.func (.func 99) #[.agg #[.string s, .int .i64 (y0 : Int)]] #[], .bool true]) w2 := (look_ok lawU8 Tryz.underlying86 (zeroG w2) hF.out.1 hF.out.2 68 Tryz.underlying5); clear hb2)
    | (go_at_call 99; refine Calls.mono (KX _).out ?_; rintro e w3 ⟨rfl, hb3⟩; have B3 := Lib.hid (Bl.step B2.out hb3); clear hb3)
    | (go_at_call 52; (with_reducible refine Calls.mono (KD _).out ?_); rintro e w4 ⟨rfl, hb4⟩; have B4 := Lib.hid (Bl.step B3.out hb4); clear hb4)
    | (go_at_call 60; refine Calls.mono (KF _).out ?_; rintro e w5 ⟨b5, q5, D5, rfl, hF5, hb5⟩; have B5 := Lib.hid (Bl.step B4.out hb5); have hlk5 : (Instr.lookup 81 (.map (some b5)) (.int .u8 68) false).run Tryz.prog w5 = .ok (.func (.func 89) #[.agg #[.int .i64 (y : Int), .int .i64 (m : Int), .int .i64 (k : Int)]] #[]) w5 := (look_no lawU8 Tryz.underlying81 (zeroF w5) hF5.out.1 hF5.out.2 68 Tryz.underlying5); clear hb5)
    | (go_at_call 89; refine Calls.mono (KG _ (HE.out.below B5.out)).out ?_; rintro e w6 ⟨t, rfl, ht, hb6⟩; have B6 := Lib.hid (Bl.step B5.out hb6); have hne : ¬ t.toList = s.toList := (by rw [toList_bts, toList_bts, ht.out]; exact fun q => HF.out q.symm); have hne2 : (t.toList == s.toList) = false := (beq_eq_false_iff_ne.2 hne); clear hb6))
  go_ret2
  exact ⟨rfl, B6.out⟩
set_option maxHeartbeats 4000000 in
theorem ReadDay_E_none (s : ByteArray) (n0 y0 m0 k0 : Nat) (w : World) (hd0 : IsDate n0 y0 m0 k0) (h90 : y0 ≤ 9999) (hs : s.size ≤ 1000000) (hR : calOf (fyR y0 (num3 (bts s))) (num2 (bts s)) (num1 (bts s)) = none) : Calls Tryz.prog 30 #[.string s, .int .u8 69, .int .i64 (n0 : Int)] w (Gives w #[.int .i64 0, .int .i64 2]) := by
  have hn0 := isDate_max hd0 h90
  have KT := fun W => Lib.hid (isDay_any (n0 : Int) W)
  rw [inR_true (by omega) (by omega)] at KT
  have KD0 := fun W => Lib.hid (dateOf_any n0 y0 m0 k0 W hd0 h90)
  have KR := fun W => Lib.hid (dayR_any s y0 W)
  have KX := fun W => Lib.hid (show Calls Tryz.prog 100 #[.agg #[.string s, .int .i64 (y0 : Int)]] W (fun e w' => e = .returned (.tuple #[.int .i64 0, .bool false]) ∧ Below W.heap.size W w') from by have h := cal_to (r_european_any s y0 W hs (sufOk_any s hs) h90); rw [hR] at h; exact h)
  have hfd := field_date
  have hid := index_date
  clear hd0 h90 hs hR hn0
  go_enter Tryz.func30, Tryz.ntmps30
  go_wp2_with (first
    | (go_at_call 51; refine Calls.mono (KT _).out ?_; rintro e W1 ⟨rfl, rfl⟩)
    | (go_at_call 52; (with_reducible refine Calls.mono (KD0 _).out ?_); clear KD0; rintro e w1 ⟨rfl, hb1⟩; have B1 := Lib.hid hb1; clear hb1)
    | (go_at_call 65; refine Calls.mono (KR _).out ?_; rintro e w2 ⟨b, q, Dd, rfl, hF, hb2⟩; have B2 := Lib.hid (Bl.step B1.out hb2); have hlk : (Instr.lookup 86 (.map (some b)) (.int .u8 69) true).run Tryz.prog w2 = .ok (.tuple #[.func (.func 100) #[.agg #[.string s, .int .i64 (y0 : Int)]] #[], .bool true]) w2 := (look_ok lawU8 Tryz.underlying86 (zeroG w2) hF.out.1 hF.out.2 69 Tryz.underlying5); clear hb2)
    | (go_at_call 100; refine Calls.mono (KX _).out ?_; rintro e w3 ⟨rfl, hb3⟩; have B3 := Lib.hid (Bl.step B2.out hb3); clear hb3))
  go_ret2
  exact ⟨rfl, B3.out⟩
set_option maxHeartbeats 4000000 in
theorem ReadDay_E_ok (s : ByteArray) (n0 y0 m0 k0 : Nat) (w : World) (hd0 : IsDate n0 y0 m0 k0) (h90 : y0 ≤ 9999) (hs : s.size ≤ 1000000) (n y m k : Nat) (hd : IsDate n y m k) (h9 : y ≤ 9999) (hR : calOf (fyR y0 (num3 (bts s))) (num2 (bts s)) (num1 (bts s)) = some n) (hf : bts s = shortL (k % 100) (m % 100) (y % 100)) (hE : Env w) : Calls Tryz.prog 30 #[.string s, .int .u8 69, .int .i64 (n0 : Int)] w (Gives w #[.int .i64 (n : Int), .int .i64 0]) := by
  have hn0 := isDate_max hd0 h90
  have KT := fun W => Lib.hid (isDay_any (n0 : Int) W)
  rw [inR_true (by omega) (by omega)] at KT
  have KD0 := fun W => Lib.hid (dateOf_any n0 y0 m0 k0 W hd0 h90)
  have KR := fun W => Lib.hid (dayR_any s y0 W)
  have KX := fun W => Lib.hid (show Calls Tryz.prog 100 #[.agg #[.string s, .int .i64 (y0 : Int)]] W (fun e w' => e = .returned (.tuple #[.int .i64 (n : Int), .bool true]) ∧ Below W.heap.size W w') from by have h := cal_to (r_european_any s y0 W hs (sufOk_any s hs) h90); rw [hR] at h; exact h)
  have hk31 : k ≤ 31 := by have := hd.kd; have := dim_pos y m; omega
  have KD := fun W => Lib.hid (dateOf_any n y m k W hd h9)
  have KF := fun W => Lib.hid (datF_any y m k W)
  have KG := fun W hW => Lib.hid (european_any y m k W h9 hd.m12 hk31 hW)
  have HE := Lib.hid hE
  have HF := Lib.hid hf
  have hfd := field_date
  have hid := index_date
  unfold dtV at KF KG
  clear hd0 h90 hd h9 hf hs hE hn0 hR hk31
  go_enter Tryz.func30, Tryz.ntmps30
  go_wp2_with (first
    | (go_at_call 51; refine Calls.mono (KT _).out ?_; rintro e W1 ⟨rfl, rfl⟩)
    | (go_at_call 52; (with_reducible refine Calls.mono (KD0 _).out ?_); clear KD0; rintro e w1 ⟨rfl, hb1⟩; have B1 := Lib.hid hb1; clear hb1)
    | (go_at_call 65; refine Calls.mono (KR _).out ?_; rintro e w2 ⟨b, q, Dd, rfl, hF, hb2⟩; have B2 := Lib.hid (Bl.step B1.out hb2); have hlk : (Instr.lookup 86 (.map (some b)) (.int .u8 69) true).run Tryz.prog w2 = .ok (.tuple #[.func (.func 100) #[.agg #[.string s, .int .i64 (y0 : Int)]] #[], .bool true]) w2 := (look_ok lawU8 Tryz.underlying86 (zeroG w2) hF.out.1 hF.out.2 69 Tryz.underlying5); clear hb2)
    | (go_at_call 100; refine Calls.mono (KX _).out ?_; rintro e w3 ⟨rfl, hb3⟩; have B3 := Lib.hid (Bl.step B2.out hb3); clear hb3)
    | (go_at_call 52; (with_reducible refine Calls.mono (KD _).out ?_); rintro e w4 ⟨rfl, hb4⟩; have B4 := Lib.hid (Bl.step B3.out hb4); clear hb4)
    | (go_at_call 60; refine Calls.mono (KF _).out ?_; rintro e w5 ⟨b5, q5, D5, rfl, hF5, hb5⟩; have B5 := Lib.hid (Bl.step B4.out hb5); have hlk5 : (Instr.lookup 81 (.map (some b5)) (.int .u8 69) false).run Tryz.prog w5 = .ok (.func (.func 90) #[.agg #[.int .i64 (y : Int), .int .i64 (m : Int), .int .i64 (k : Int)]] #[]) w5 := (look_no lawU8 Tryz.underlying81 (zeroF w5) hF5.out.1 hF5.out.2 69 Tryz.underlying5); clear hb5)
    | (go_at_call 90; refine Calls.mono (KG _ (HE.out.below B5.out)).out ?_; rintro e w6 ⟨t, rfl, ht, hb6⟩; have B6 := Lib.hid (Bl.step B5.out hb6); obtain rfl : t = s := bts_inj (ht.out.trans HF.out.symm); clear hb6))
  go_ret2
  exact ⟨rfl, B6.out⟩
set_option maxHeartbeats 4000000 in
theorem ReadDay_E_ne (s : ByteArray) (n0 y0 m0 k0 : Nat) (w : World) (hd0 : IsDate n0 y0 m0 k0) (h90 : y0 ≤ 9999) (hs : s.size ≤ 1000000) (n y m k : Nat) (hd : IsDate n y m k) (h9 : y ≤ 9999) (hR : calOf (fyR y0 (num3 (bts s))) (num2 (bts s)) (num1 (bts s)) = some n) (hf : ¬ bts s = shortL (k % 100) (m % 100) (y % 100)) (hE : Env w) : Calls Tryz.prog 30 #[.string s, .int .u8 69, .int .i64 (n0 : Int)] w (Gives w #[.int .i64 0, .int .i64 2]) := by
  have hn0 := isDate_max hd0 h90
  have KT := fun W => Lib.hid (isDay_any (n0 : Int) W)
  rw [inR_true (by omega) (by omega)] at KT
  have KD0 := fun W => Lib.hid (dateOf_any n0 y0 m0 k0 W hd0 h90)
  have KR := fun W => Lib.hid (dayR_any s y0 W)
  have KX := fun W => Lib.hid (show Calls Tryz.prog 100 #[.agg #[.string s, .int .i64 (y0 : Int)]] W (fun e w' => e = .returned (.tuple #[.int .i64 (n : Int), .bool true]) ∧ Below W.heap.size W w') from by have h := cal_to (r_european_any s y0 W hs (sufOk_any s hs) h90); rw [hR] at h; exact h)
  have hk31 : k ≤ 31 := by have := hd.kd; have := dim_pos y m; omega
  have KD := fun W => Lib.hid (dateOf_any n y m k W hd h9)
  have KF := fun W => Lib.hid (datF_any y m k W)
  have KG := fun W hW => Lib.hid (european_any y m k W h9 hd.m12 hk31 hW)
  have HE := Lib.hid hE
  have HF := Lib.hid hf
  have hfd := field_date
  have hid := index_date
  unfold dtV at KF KG
  clear hd0 h90 hd h9 hf hs hE hn0 hR hk31
  go_enter Tryz.func30, Tryz.ntmps30
  go_wp2_with (first
    | (go_at_call 51; refine Calls.mono (KT _).out ?_; rintro e W1 ⟨rfl, rfl⟩)
    | (go_at_call 52; (with_reducible refine Calls.mono (KD0 _).out ?_); clear KD0; rintro e w1 ⟨rfl, hb1⟩; have B1 := Lib.hid hb1; clear hb1)
    | (go_at_call 65; refine Calls.mono (KR _).out ?_; rintro e w2 ⟨b, q, Dd, rfl, hF, hb2⟩; have B2 := Lib.hid (Bl.step B1.out hb2); have hlk : (Instr.lookup 86 (.map (some b)) (.int .u8 69) true).run Tryz.prog w2 = .ok (.tuple #[.func (.func 100) #[.agg #[.string s, .int .i64 (y0 : Int)]] #[], .bool true]) w2 := (look_ok lawU8 Tryz.underlying86 (zeroG w2) hF.out.1 hF.out.2 69 Tryz.underlying5); clear hb2)
    | (go_at_call 100; refine Calls.mono (KX _).out ?_; rintro e w3 ⟨rfl, hb3⟩; have B3 := Lib.hid (Bl.step B2.out hb3); clear hb3)
    | (go_at_call 52; (with_reducible refine Calls.mono (KD _).out ?_); rintro e w4 ⟨rfl, hb4⟩; have B4 := Lib.hid (Bl.step B3.out hb4); clear hb4)
    | (go_at_call 60; refine Calls.mono (KF _).out ?_; rintro e w5 ⟨b5, q5, D5, rfl, hF5, hb5⟩; have B5 := Lib.hid (Bl.step B4.out hb5); have hlk5 : (Instr.lookup 81 (.map (some b5)) (.int .u8 69) false).run Tryz.prog w5 = .ok (.func (.func 90) #[.agg #[.int .i64 (y : Int), .int .i64 (m : Int), .int .i64 (k : Int)]] #[]) w5 := (look_no lawU8 Tryz.underlying81 (zeroF w5) hF5.out.1 hF5.out.2 69 Tryz.underlying5); clear hb5)
    | (go_at_call 90; refine Calls.mono (KG _ (HE.out.below B5.out)).out ?_; rintro e w6 ⟨t, rfl, ht, hb6⟩; have B6 := Lib.hid (Bl.step B5.out hb6); have hne : ¬ t.toList = s.toList := (by rw [toList_bts, toList_bts, ht.out]; exact fun q => HF.out q.symm); have hne2 : (t.toList == s.toList) = false := (beq_eq_false_iff_ne.2 hne); clear hb6))
  go_ret2
  exact ⟨rfl, B6.out⟩
set_option maxHeartbeats 4000000 in
theorem ReadDay_I_none (s : ByteArray) (n0 y0 m0 k0 : Nat) (w : World) (hd0 : IsDate n0 y0 m0 k0) (h90 : y0 ≤ 9999) (hs : s.size ≤ 1000000) (hR : calOf (num1 (bts s)) (num2 (bts s)) (num3 (bts s)) = none) : Calls Tryz.prog 30 #[.string s, .int .u8 73, .int .i64 (n0 : Int)] w (Gives w #[.int .i64 0, .int .i64 2]) := by
  have hn0 := isDate_max hd0 h90
  have KT := fun W => Lib.hid (isDay_any (n0 : Int) W)
  rw [inR_true (by omega) (by omega)] at KT
  have KD0 := fun W => Lib.hid (dateOf_any n0 y0 m0 k0 W hd0 h90)
  have KR := fun W => Lib.hid (dayR_any s y0 W)
  have KX := fun W => Lib.hid (show Calls Tryz.prog 101 #[.agg #[.string s, .int .i64 (y0 : Int)]] W (fun e w' => e = .returned (.tuple #[.int .i64 0, .bool false]) ∧ Below W.heap.size W w') from by have h := cal_to (d_iso_any s y0 W hs); rw [hR] at h; exact h)
  have hfd := field_date
  have hid := index_date
  clear hd0 h90 hs hR hn0
  go_enter Tryz.func30, Tryz.ntmps30
  go_wp2_with (first
    | (go_at_call 51; refine Calls.mono (KT _).out ?_; rintro e W1 ⟨rfl, rfl⟩)
    | (go_at_call 52; (with_reducible refine Calls.mono (KD0 _).out ?_); clear KD0; rintro e w1 ⟨rfl, hb1⟩; have B1 := Lib.hid hb1; clear hb1)
    | (go_at_call 65; refine Calls.mono (KR _).out ?_; rintro e w2 ⟨b, q, Dd, rfl, hF, hb2⟩; have B2 := Lib.hid (Bl.step B1.out hb2); have hlk : (Instr.lookup 86 (.map (some b)) (.int .u8 73) true).run Tryz.prog w2 = .ok (.tuple #[.func (.func 101) #[.agg #[.string s, .int .i64 (y0 : Int)]] #[], .bool true]) w2 := (look_ok lawU8 Tryz.underlying86 (zeroG w2) hF.out.1 hF.out.2 73 Tryz.underlying5); clear hb2)
    | (go_at_call 101; refine Calls.mono (KX _).out ?_; rintro e w3 ⟨rfl, hb3⟩; have B3 := Lib.hid (Bl.step B2.out hb3); clear hb3))
  go_ret2
  exact ⟨rfl, B3.out⟩
set_option maxHeartbeats 4000000 in
theorem ReadDay_I_ok (s : ByteArray) (n0 y0 m0 k0 : Nat) (w : World) (hd0 : IsDate n0 y0 m0 k0) (h90 : y0 ≤ 9999) (hs : s.size ≤ 1000000) (n y m k : Nat) (hd : IsDate n y m k) (h9 : y ≤ 9999) (hR : calOf (num1 (bts s)) (num2 (bts s)) (num3 (bts s)) = some n) (hf : bts s = longL [45] y m k) (hE : Env w) : Calls Tryz.prog 30 #[.string s, .int .u8 73, .int .i64 (n0 : Int)] w (Gives w #[.int .i64 (n : Int), .int .i64 0]) := by
  have hn0 := isDate_max hd0 h90
  have KT := fun W => Lib.hid (isDay_any (n0 : Int) W)
  rw [inR_true (by omega) (by omega)] at KT
  have KD0 := fun W => Lib.hid (dateOf_any n0 y0 m0 k0 W hd0 h90)
  have KR := fun W => Lib.hid (dayR_any s y0 W)
  have KX := fun W => Lib.hid (show Calls Tryz.prog 101 #[.agg #[.string s, .int .i64 (y0 : Int)]] W (fun e w' => e = .returned (.tuple #[.int .i64 (n : Int), .bool true]) ∧ Below W.heap.size W w') from by have h := cal_to (d_iso_any s y0 W hs); rw [hR] at h; exact h)
  have hk31 : k ≤ 31 := by have := hd.kd; have := dim_pos y m; omega
  have KD := fun W => Lib.hid (dateOf_any n y m k W hd h9)
  have KF := fun W => Lib.hid (datF_any y m k W)
  have KG := fun W hW => Lib.hid (iso_any y m k W h9 hd.m12 hk31 hW)
  have HE := Lib.hid hE
  have HF := Lib.hid hf
  have hfd := field_date
  have hid := index_date
  unfold dtV at KF KG
  clear hd0 h90 hd h9 hf hs hE hn0 hR hk31
  go_enter Tryz.func30, Tryz.ntmps30
  go_wp2_with (first
    | (go_at_call 51; refine Calls.mono (KT _).out ?_; rintro e W1 ⟨rfl, rfl⟩)
    | (go_at_call 52; (with_reducible refine Calls.mono (KD0 _).out ?_); clear KD0; rintro e w1 ⟨rfl, hb1⟩; have B1 := Lib.hid hb1; clear hb1)
    | (go_at_call 65; refine Calls.mono (KR _).out ?_; rintro e w2 ⟨b, q, Dd, rfl, hF, hb2⟩; have B2 := Lib.hid (Bl.step B1.out hb2); have hlk : (Instr.lookup 86 (.map (some b)) (.int .u8 73) true).run Tryz.prog w2 = .ok (.tuple #[.func (.func 101) #[.agg #[.string s, .int .i64 (y0 : Int)]] #[], .bool true]) w2 := (look_ok lawU8 Tryz.underlying86 (zeroG w2) hF.out.1 hF.out.2 73 Tryz.underlying5); clear hb2)
    | (go_at_call 101; refine Calls.mono (KX _).out ?_; rintro e w3 ⟨rfl, hb3⟩; have B3 := Lib.hid (Bl.step B2.out hb3); clear hb3)
    | (go_at_call 52; (with_reducible refine Calls.mono (KD _).out ?_); rintro e w4 ⟨rfl, hb4⟩; have B4 := Lib.hid (Bl.step B3.out hb4); clear hb4)
    | (go_at_call 60; refine Calls.mono (KF _).out ?_; rintro e w5 ⟨b5, q5, D5, rfl, hF5, hb5⟩; have B5 := Lib.hid (Bl.step B4.out hb5); have hlk5 : (Instr.lookup 81 (.map (some b5)) (.int .u8 73) false).run Tryz.prog w5 = .ok (.func (.func 91) #[.agg #[.int .i64 (y : Int), .int .i64 (m : Int), .int .i64 (k : Int)]] #[]) w5 := (look_no lawU8 Tryz.underlying81 (zeroF w5) hF5.out.1 hF5.out.2 73 Tryz.underlying5); clear hb5)
    | (go_at_call 91; refine Calls.mono (KG _ (HE.out.below B5.out)).out ?_; rintro e w6 ⟨t, rfl, ht, hb6⟩; have B6 := Lib.hid (Bl.step B5.out hb6); obtain rfl : t = s := bts_inj (ht.out.trans HF.out.symm); clear hb6))
  go_ret2
  exact ⟨rfl, B6.out⟩
set_option maxHeartbeats 4000000 in
theorem ReadDay_I_ne (s : ByteArray) (n0 y0 m0 k0 : Nat) (w : World) (hd0 : IsDate n0 y0 m0 k0) (h90 : y0 ≤ 9999) (hs : s.size ≤ 1000000) (n y m k : Nat) (hd : IsDate n y m k) (h9 : y ≤ 9999) (hR : calOf (num1 (bts s)) (num2 (bts s)) (num3 (bts s)) = some n) (hf : ¬ bts s = longL [45] y m k) (hE : Env w) : Calls Tryz.prog 30 #[.string s, .int .u8 73, .int .i64 (n0 : Int)] w (Gives w #[.int .i64 0, .int .i64 2]) := by
  have hn0 := isDate_max hd0 h90
  have KT := fun W => Lib.hid (isDay_any (n0 : Int) W)
  rw [inR_true (by omega) (by omega)] at KT
  have KD0 := fun W => Lib.hid (dateOf_any n0 y0 m0 k0 W hd0 h90)
  have KR := fun W => Lib.hid (dayR_any s y0 W)
  have KX := fun W => Lib.hid (show Calls Tryz.prog 101 #[.agg #[.string s, .int .i64 (y0 : Int)]] W (fun e w' => e = .returned (.tuple #[.int .i64 (n : Int), .bool true]) ∧ Below W.heap.size W w') from by have h := cal_to (d_iso_any s y0 W hs); rw [hR] at h; exact h)
  have hk31 : k ≤ 31 := by have := hd.kd; have := dim_pos y m; omega
  have KD := fun W => Lib.hid (dateOf_any n y m k W hd h9)
  have KF := fun W => Lib.hid (datF_any y m k W)
  have KG := fun W hW => Lib.hid (iso_any y m k W h9 hd.m12 hk31 hW)
  have HE := Lib.hid hE
  have HF := Lib.hid hf
  have hfd := field_date
  have hid := index_date
  unfold dtV at KF KG
  clear hd0 h90 hd h9 hf hs hE hn0 hR hk31
  go_enter Tryz.func30, Tryz.ntmps30
  go_wp2_with (first
    | (go_at_call 51; refine Calls.mono (KT _).out ?_; rintro e W1 ⟨rfl, rfl⟩)
    | (go_at_call 52; (with_reducible refine Calls.mono (KD0 _).out ?_); clear KD0; rintro e w1 ⟨rfl, hb1⟩; have B1 := Lib.hid hb1; clear hb1)
    | (go_at_call 65; refine Calls.mono (KR _).out ?_; rintro e w2 ⟨b, q, Dd, rfl, hF, hb2⟩; have B2 := Lib.hid (Bl.step B1.out hb2); have hlk : (Instr.lookup 86 (.map (some b)) (.int .u8 73) true).run Tryz.prog w2 = .ok (.tuple #[.func (.func 101) #[.agg #[.string s, .int .i64 (y0 : Int)]] #[], .bool true]) w2 := (look_ok lawU8 Tryz.underlying86 (zeroG w2) hF.out.1 hF.out.2 73 Tryz.underlying5); clear hb2)
    | (go_at_call 101; refine Calls.mono (KX _).out ?_; rintro e w3 ⟨rfl, hb3⟩; have B3 := Lib.hid (Bl.step B2.out hb3); clear hb3)
    | (go_at_call 52; (with_reducible refine Calls.mono (KD _).out ?_); rintro e w4 ⟨rfl, hb4⟩; have B4 := Lib.hid (Bl.step B3.out hb4); clear hb4)
    | (go_at_call 60; refine Calls.mono (KF _).out ?_; rintro e w5 ⟨b5, q5, D5, rfl, hF5, hb5⟩; have B5 := Lib.hid (Bl.step B4.out hb5); have hlk5 : (Instr.lookup 81 (.map (some b5)) (.int .u8 73) false).run Tryz.prog w5 = .ok (.func (.func 91) #[.agg #[.int .i64 (y : Int), .int .i64 (m : Int), .int .i64 (k : Int)]] #[]) w5 := (look_no lawU8 Tryz.underlying81 (zeroF w5) hF5.out.1 hF5.out.2 73 Tryz.underlying5); clear hb5)
    | (go_at_call 91; refine Calls.mono (KG _ (HE.out.below B5.out)).out ?_; rintro e w6 ⟨t, rfl, ht, hb6⟩; have B6 := Lib.hid (Bl.step B5.out hb6); have hne : ¬ t.toList = s.toList := (by rw [toList_bts, toList_bts, ht.out]; exact fun q => HF.out q.symm); have hne2 : (t.toList == s.toList) = false := (beq_eq_false_iff_ne.2 hne); clear hb6))
  go_ret2
  exact ⟨rfl, B6.out⟩
set_option maxHeartbeats 4000000 in
theorem ReadDay_O_none (s : ByteArray) (n0 y0 m0 k0 : Nat) (w : World) (hd0 : IsDate n0 y0 m0 k0) (h90 : y0 ≤ 9999) (hs : s.size ≤ 1000000) (hR : calOf (fyR y0 (num1 (bts s))) (num2 (bts s)) (num3 (bts s)) = none) : Calls Tryz.prog 30 #[.string s, .int .u8 79, .int .i64 (n0 : Int)] w (Gives w #[.int .i64 0, .int .i64 2]) := by
  have hn0 := isDate_max hd0 h90
  have KT := fun W => Lib.hid (isDay_any (n0 : Int) W)
  rw [inR_true (by omega) (by omega)] at KT
  have KD0 := fun W => Lib.hid (dateOf_any n0 y0 m0 k0 W hd0 h90)
  have KR := fun W => Lib.hid (dayR_any s y0 W)
  have KX := fun W => Lib.hid (show Calls Tryz.prog 103 #[.agg #[.string s, .int .i64 (y0 : Int)]] W (fun e w' => e = .returned (.tuple #[.int .i64 0, .bool false]) ∧ Below W.heap.size W w') from by have h := cal_to (r_ordered_any s y0 W hs (sufOk_any s hs) h90); rw [hR] at h; exact h)
  have hfd := field_date
  have hid := index_date
  clear hd0 h90 hs hR hn0
  go_enter Tryz.func30, Tryz.ntmps30
  go_wp2_with (first
    | (go_at_call 51; refine Calls.mono (KT _).out ?_; rintro e W1 ⟨rfl, rfl⟩)
    | (go_at_call 52; (with_reducible refine Calls.mono (KD0 _).out ?_); clear KD0; rintro e w1 ⟨rfl, hb1⟩; have B1 := Lib.hid hb1; clear hb1)
    | (go_at_call 65; refine Calls.mono (KR _).out ?_; rintro e w2 ⟨b, q, Dd, rfl, hF, hb2⟩; have B2 := Lib.hid (Bl.step B1.out hb2); have hlk : (Instr.lookup 86 (.map (some b)) (.int .u8 79) true).run Tryz.prog w2 = .ok (.tuple #[.func (.func 103) #[.agg #[.string s, .int .i64 (y0 : Int)]] #[], .bool true]) w2 := (look_ok lawU8 Tryz.underlying86 (zeroG w2) hF.out.1 hF.out.2 79 Tryz.underlying5); clear hb2)
    | (go_at_call 103; refine Calls.mono (KX _).out ?_; rintro e w3 ⟨rfl, hb3⟩; have B3 := Lib.hid (Bl.step B2.out hb3); clear hb3))
  go_ret2
  exact ⟨rfl, B3.out⟩
set_option maxHeartbeats 4000000 in
theorem ReadDay_O_ok (s : ByteArray) (n0 y0 m0 k0 : Nat) (w : World) (hd0 : IsDate n0 y0 m0 k0) (h90 : y0 ≤ 9999) (hs : s.size ≤ 1000000) (n y m k : Nat) (hd : IsDate n y m k) (h9 : y ≤ 9999) (hR : calOf (fyR y0 (num1 (bts s))) (num2 (bts s)) (num3 (bts s)) = some n) (hf : bts s = shortL (y % 100) (m % 100) (k % 100)) (hE : Env w) : Calls Tryz.prog 30 #[.string s, .int .u8 79, .int .i64 (n0 : Int)] w (Gives w #[.int .i64 (n : Int), .int .i64 0]) := by
  have hn0 := isDate_max hd0 h90
  have KT := fun W => Lib.hid (isDay_any (n0 : Int) W)
  rw [inR_true (by omega) (by omega)] at KT
  have KD0 := fun W => Lib.hid (dateOf_any n0 y0 m0 k0 W hd0 h90)
  have KR := fun W => Lib.hid (dayR_any s y0 W)
  have KX := fun W => Lib.hid (show Calls Tryz.prog 103 #[.agg #[.string s, .int .i64 (y0 : Int)]] W (fun e w' => e = .returned (.tuple #[.int .i64 (n : Int), .bool true]) ∧ Below W.heap.size W w') from by have h := cal_to (r_ordered_any s y0 W hs (sufOk_any s hs) h90); rw [hR] at h; exact h)
  have hk31 : k ≤ 31 := by have := hd.kd; have := dim_pos y m; omega
  have KD := fun W => Lib.hid (dateOf_any n y m k W hd h9)
  have KF := fun W => Lib.hid (datF_any y m k W)
  have KG := fun W hW => Lib.hid (ordered_any y m k W h9 hd.m12 hk31 hW)
  have HE := Lib.hid hE
  have HF := Lib.hid hf
  have hfd := field_date
  have hid := index_date
  unfold dtV at KF KG
  clear hd0 h90 hd h9 hf hs hE hn0 hR hk31
  go_enter Tryz.func30, Tryz.ntmps30
  go_wp2_with (first
    | (go_at_call 51; refine Calls.mono (KT _).out ?_; rintro e W1 ⟨rfl, rfl⟩)
    | (go_at_call 52; (with_reducible refine Calls.mono (KD0 _).out ?_); clear KD0; rintro e w1 ⟨rfl, hb1⟩; have B1 := Lib.hid hb1; clear hb1)
    | (go_at_call 65; refine Calls.mono (KR _).out ?_; rintro e w2 ⟨b, q, Dd, rfl, hF, hb2⟩; have B2 := Lib.hid (Bl.step B1.out hb2); have hlk : (Instr.lookup 86 (.map (some b)) (.int .u8 79) true).run Tryz.prog w2 = .ok (.tuple #[.func (.func 103) #[.agg #[.string s, .int .i64 (y0 : Int)]] #[], .bool true]) w2 := (look_ok lawU8 Tryz.underlying86 (zeroG w2) hF.out.1 hF.out.2 79 Tryz.underlying5); clear hb2)
    | (go_at_call 103; refine Calls.mono (KX _).out ?_; rintro e w3 ⟨rfl, hb3⟩; have B3 := Lib.hid (Bl.step B2.out hb3); clear hb3)
    | (go_at_call 52; (with_reducible refine Calls.mono (KD _).out ?_); rintro e w4 ⟨rfl, hb4⟩; have B4 := Lib.hid (Bl.step B3.out hb4); clear hb4)
    | (go_at_call 60; refine Calls.mono (KF _).out ?_; rintro e w5 ⟨b5, q5, D5, rfl, hF5, hb5⟩; have B5 := Lib.hid (Bl.step B4.out hb5); have hlk5 : (Instr.lookup 81 (.map (some b5)) (.int .u8 79) false).run Tryz.prog w5 = .ok (.func (.func 94) #[.agg #[.int .i64 (y : Int), .int .i64 (m : Int), .int .i64 (k : Int)]] #[]) w5 := (look_no lawU8 Tryz.underlying81 (zeroF w5) hF5.out.1 hF5.out.2 79 Tryz.underlying5); clear hb5)
    | (go_at_call 94; refine Calls.mono (KG _ (HE.out.below B5.out)).out ?_; rintro e w6 ⟨t, rfl, ht, hb6⟩; have B6 := Lib.hid (Bl.step B5.out hb6); obtain rfl : t = s := bts_inj (ht.out.trans HF.out.symm); clear hb6))
  go_ret2
  exact ⟨rfl, B6.out⟩
set_option maxHeartbeats 4000000 in
theorem ReadDay_O_ne (s : ByteArray) (n0 y0 m0 k0 : Nat) (w : World) (hd0 : IsDate n0 y0 m0 k0) (h90 : y0 ≤ 9999) (hs : s.size ≤ 1000000) (n y m k : Nat) (hd : IsDate n y m k) (h9 : y ≤ 9999) (hR : calOf (fyR y0 (num1 (bts s))) (num2 (bts s)) (num3 (bts s)) = some n) (hf : ¬ bts s = shortL (y % 100) (m % 100) (k % 100)) (hE : Env w) : Calls Tryz.prog 30 #[.string s, .int .u8 79, .int .i64 (n0 : Int)] w (Gives w #[.int .i64 0, .int .i64 2]) := by
  have hn0 := isDate_max hd0 h90
  have KT := fun W => Lib.hid (isDay_any (n0 : Int) W)
  rw [inR_true (by omega) (by omega)] at KT
  have KD0 := fun W => Lib.hid (dateOf_any n0 y0 m0 k0 W hd0 h90)
  have KR := fun W => Lib.hid (dayR_any s y0 W)
  have KX := fun W => Lib.hid (show Calls Tryz.prog 103 #[.agg #[.string s, .int .i64 (y0 : Int)]] W (fun e w' => e = .returned (.tuple #[.int .i64 (n : Int), .bool true]) ∧ Below W.heap.size W w') from by have h := cal_to (r_ordered_any s y0 W hs (sufOk_any s hs) h90); rw [hR] at h; exact h)
  have hk31 : k ≤ 31 := by have := hd.kd; have := dim_pos y m; omega
  have KD := fun W => Lib.hid (dateOf_any n y m k W hd h9)
  have KF := fun W => Lib.hid (datF_any y m k W)
  have KG := fun W hW => Lib.hid (ordered_any y m k W h9 hd.m12 hk31 hW)
  have HE := Lib.hid hE
  have HF := Lib.hid hf
  have hfd := field_date
  have hid := index_date
  unfold dtV at KF KG
  clear hd0 h90 hd h9 hf hs hE hn0 hR hk31
  go_enter Tryz.func30, Tryz.ntmps30
  go_wp2_with (first
    | (go_at_call 51; refine Calls.mono (KT _).out ?_; rintro e W1 ⟨rfl, rfl⟩)
    | (go_at_call 52; (with_reducible refine Calls.mono (KD0 _).out ?_); clear KD0; rintro e w1 ⟨rfl, hb1⟩; have B1 := Lib.hid hb1; clear hb1)
    | (go_at_call 65; refine Calls.mono (KR _).out ?_; rintro e w2 ⟨b, q, Dd, rfl, hF, hb2⟩; have B2 := Lib.hid (Bl.step B1.out hb2); have hlk : (Instr.lookup 86 (.map (some b)) (.int .u8 79) true).run Tryz.prog w2 = .ok (.tuple #[.func (.func 103) #[.agg #[.string s, .int .i64 (y0 : Int)]] #[], .bool true]) w2 := (look_ok lawU8 Tryz.underlying86 (zeroG w2) hF.out.1 hF.out.2 79 Tryz.underlying5); clear hb2)
    | (go_at_call 103; refine Calls.mono (KX _).out ?_; rintro e w3 ⟨rfl, hb3⟩; have B3 := Lib.hid (Bl.step B2.out hb3); clear hb3)
    | (go_at_call 52; (with_reducible refine Calls.mono (KD _).out ?_); rintro e w4 ⟨rfl, hb4⟩; have B4 := Lib.hid (Bl.step B3.out hb4); clear hb4)
    | (go_at_call 60; refine Calls.mono (KF _).out ?_; rintro e w5 ⟨b5, q5, D5, rfl, hF5, hb5⟩; have B5 := Lib.hid (Bl.step B4.out hb5); have hlk5 : (Instr.lookup 81 (.map (some b5)) (.int .u8 79) false).run Tryz.prog w5 = .ok (.func (.func 94) #[.agg #[.int .i64 (y : Int), .int .i64 (m : Int), .int .i64 (k : Int)]] #[]) w5 := (look_no lawU8 Tryz.underlying81 (zeroF w5) hF5.out.1 hF5.out.2 79 Tryz.underlying5); clear hb5)
    | (go_at_call 94; refine Calls.mono (KG _ (HE.out.below B5.out)).out ?_; rintro e w6 ⟨t, rfl, ht, hb6⟩; have B6 := Lib.hid (Bl.step B5.out hb6); have hne : ¬ t.toList = s.toList := (by rw [toList_bts, toList_bts, ht.out]; exact fun q => HF.out q.symm); have hne2 : (t.toList == s.toList) = false := (beq_eq_false_iff_ne.2 hne); clear hb6))
  go_ret2
  exact ⟨rfl, B6.out⟩
set_option maxHeartbeats 4000000 in
theorem ReadDay_S_none (s : ByteArray) (n0 y0 m0 k0 : Nat) (w : World) (hd0 : IsDate n0 y0 m0 k0) (h90 : y0 ≤ 9999) (hs : s.size ≤ 1000000) (hR : calOf ((num1 (bts s)).tdiv 10000) (((num1 (bts s)).tdiv 100).tmod 100) ((num1 (bts s)).tmod 100) = none) : Calls Tryz.prog 30 #[.string s, .int .u8 83, .int .i64 (n0 : Int)] w (Gives w #[.int .i64 0, .int .i64 2]) := by
  have hn0 := isDate_max hd0 h90
  have KT := fun W => Lib.hid (isDay_any (n0 : Int) W)
  rw [inR_true (by omega) (by omega)] at KT
  have KD0 := fun W => Lib.hid (dateOf_any n0 y0 m0 k0 W hd0 h90)
  have KR := fun W => Lib.hid (dayR_any s y0 W)
  have KX := fun W => Lib.hid (show Calls Tryz.prog 104 #[.agg #[.string s, .int .i64 (y0 : Int)]] W (fun e w' => e = .returned (.tuple #[.int .i64 0, .bool false]) ∧ Below W.heap.size W w') from by have h := cal_to (d_standard_any s (y0 : Int) W hs); rw [hR] at h; exact h)
  have hfd := field_date
  have hid := index_date
  clear hd0 h90 hs hR hn0
  go_enter Tryz.func30, Tryz.ntmps30
  go_wp2_with (first
    | (go_at_call 51; refine Calls.mono (KT _).out ?_; rintro e W1 ⟨rfl, rfl⟩)
    | (go_at_call 52; (with_reducible refine Calls.mono (KD0 _).out ?_); clear KD0; rintro e w1 ⟨rfl, hb1⟩; have B1 := Lib.hid hb1; clear hb1)
    | (go_at_call 65; refine Calls.mono (KR _).out ?_; rintro e w2 ⟨b, q, Dd, rfl, hF, hb2⟩; have B2 := Lib.hid (Bl.step B1.out hb2); have hlk : (Instr.lookup 86 (.map (some b)) (.int .u8 83) true).run Tryz.prog w2 = .ok (.tuple #[.func (.func 104) #[.agg #[.string s, .int .i64 (y0 : Int)]] #[], .bool true]) w2 := (look_ok lawU8 Tryz.underlying86 (zeroG w2) hF.out.1 hF.out.2 83 Tryz.underlying5); clear hb2)
    | (go_at_call 104; refine Calls.mono (KX _).out ?_; rintro e w3 ⟨rfl, hb3⟩; have B3 := Lib.hid (Bl.step B2.out hb3); clear hb3))
  go_ret2
  exact ⟨rfl, B3.out⟩
set_option maxHeartbeats 4000000 in
theorem ReadDay_S_ok (s : ByteArray) (n0 y0 m0 k0 : Nat) (w : World) (hd0 : IsDate n0 y0 m0 k0) (h90 : y0 ≤ 9999) (hs : s.size ≤ 1000000) (n y m k : Nat) (hd : IsDate n y m k) (h9 : y ≤ 9999) (hR : calOf ((num1 (bts s)).tdiv 10000) (((num1 (bts s)).tdiv 100).tmod 100) ((num1 (bts s)).tmod 100) = some n) (hf : bts s = longL [] y m k) (hE : Env w) : Calls Tryz.prog 30 #[.string s, .int .u8 83, .int .i64 (n0 : Int)] w (Gives w #[.int .i64 (n : Int), .int .i64 0]) := by
  have hn0 := isDate_max hd0 h90
  have KT := fun W => Lib.hid (isDay_any (n0 : Int) W)
  rw [inR_true (by omega) (by omega)] at KT
  have KD0 := fun W => Lib.hid (dateOf_any n0 y0 m0 k0 W hd0 h90)
  have KR := fun W => Lib.hid (dayR_any s y0 W)
  have KX := fun W => Lib.hid (show Calls Tryz.prog 104 #[.agg #[.string s, .int .i64 (y0 : Int)]] W (fun e w' => e = .returned (.tuple #[.int .i64 (n : Int), .bool true]) ∧ Below W.heap.size W w') from by have h := cal_to (d_standard_any s (y0 : Int) W hs); rw [hR] at h; exact h)
  have hk31 : k ≤ 31 := by have := hd.kd; have := dim_pos y m; omega
  have KD := fun W => Lib.hid (dateOf_any n y m k W hd h9)
  have KF := fun W => Lib.hid (datF_any y m k W)
  have KG := fun W hW => Lib.hid (standard_any y m k W h9 hd.m12 hk31 hW)
  have HE := Lib.hid hE
  have HF := Lib.hid hf
  have hfd := field_date
  have hid := index_date
  unfold dtV at KF KG
  clear hd0 h90 hd h9 hf hs hE hn0 hR hk31
  go_enter Tryz.func30, Tryz.ntmps30
  go_wp2_with (first
    | (go_at_call 51; refine Calls.mono (KT _).out ?_; rintro e W1 ⟨rfl, rfl⟩)
    | (go_at_call 52; (with_reducible refine Calls.mono (KD0 _).out ?_); clear KD0; rintro e w1 ⟨rfl, hb1⟩; have B1 := Lib.hid hb1; clear hb1)
    | (go_at_call 65; refine Calls.mono (KR _).out ?_; rintro e w2 ⟨b, q, Dd, rfl, hF, hb2⟩; have B2 := Lib.hid (Bl.step B1.out hb2); have hlk : (Instr.lookup 86 (.map (some b)) (.int .u8 83) true).run Tryz.prog w2 = .ok (.tuple #[.func (.func 104) #[.agg #[.string s, .int .i64 (y0 : Int)]] #[], .bool true]) w2 := (look_ok lawU8 Tryz.underlying86 (zeroG w2) hF.out.1 hF.out.2 83 Tryz.underlying5); clear hb2)
    | (go_at_call 104; refine Calls.mono (KX _).out ?_; rintro e w3 ⟨rfl, hb3⟩; have B3 := Lib.hid (Bl.step B2.out hb3); clear hb3)
    | (go_at_call 52; (with_reducible refine Calls.mono (KD _).out ?_); rintro e w4 ⟨rfl, hb4⟩; have B4 := Lib.hid (Bl.step B3.out hb4); clear hb4)
    | (go_at_call 60; refine Calls.mono (KF _).out ?_; rintro e w5 ⟨b5, q5, D5, rfl, hF5, hb5⟩; have B5 := Lib.hid (Bl.step B4.out hb5); have hlk5 : (Instr.lookup 81 (.map (some b5)) (.int .u8 83) false).run Tryz.prog w5 = .ok (.func (.func 95) #[.agg #[.int .i64 (y : Int), .int .i64 (m : Int), .int .i64 (k : Int)]] #[]) w5 := (look_no lawU8 Tryz.underlying81 (zeroF w5) hF5.out.1 hF5.out.2 83 Tryz.underlying5); clear hb5)
    | (go_at_call 95; refine Calls.mono (KG _ (HE.out.below B5.out)).out ?_; rintro e w6 ⟨t, rfl, ht, hb6⟩; have B6 := Lib.hid (Bl.step B5.out hb6); obtain rfl : t = s := bts_inj (ht.out.trans HF.out.symm); clear hb6))
  go_ret2
  exact ⟨rfl, B6.out⟩
set_option maxHeartbeats 4000000 in
theorem ReadDay_S_ne (s : ByteArray) (n0 y0 m0 k0 : Nat) (w : World) (hd0 : IsDate n0 y0 m0 k0) (h90 : y0 ≤ 9999) (hs : s.size ≤ 1000000) (n y m k : Nat) (hd : IsDate n y m k) (h9 : y ≤ 9999) (hR : calOf ((num1 (bts s)).tdiv 10000) (((num1 (bts s)).tdiv 100).tmod 100) ((num1 (bts s)).tmod 100) = some n) (hf : ¬ bts s = longL [] y m k) (hE : Env w) : Calls Tryz.prog 30 #[.string s, .int .u8 83, .int .i64 (n0 : Int)] w (Gives w #[.int .i64 0, .int .i64 2]) := by
  have hn0 := isDate_max hd0 h90
  have KT := fun W => Lib.hid (isDay_any (n0 : Int) W)
  rw [inR_true (by omega) (by omega)] at KT
  have KD0 := fun W => Lib.hid (dateOf_any n0 y0 m0 k0 W hd0 h90)
  have KR := fun W => Lib.hid (dayR_any s y0 W)
  have KX := fun W => Lib.hid (show Calls Tryz.prog 104 #[.agg #[.string s, .int .i64 (y0 : Int)]] W (fun e w' => e = .returned (.tuple #[.int .i64 (n : Int), .bool true]) ∧ Below W.heap.size W w') from by have h := cal_to (d_standard_any s (y0 : Int) W hs); rw [hR] at h; exact h)
  have hk31 : k ≤ 31 := by have := hd.kd; have := dim_pos y m; omega
  have KD := fun W => Lib.hid (dateOf_any n y m k W hd h9)
  have KF := fun W => Lib.hid (datF_any y m k W)
  have KG := fun W hW => Lib.hid (standard_any y m k W h9 hd.m12 hk31 hW)
  have HE := Lib.hid hE
  have HF := Lib.hid hf
  have hfd := field_date
  have hid := index_date
  unfold dtV at KF KG
  clear hd0 h90 hd h9 hf hs hE hn0 hR hk31
  go_enter Tryz.func30, Tryz.ntmps30
  go_wp2_with (first
    | (go_at_call 51; refine Calls.mono (KT _).out ?_; rintro e W1 ⟨rfl, rfl⟩)
    | (go_at_call 52; (with_reducible refine Calls.mono (KD0 _).out ?_); clear KD0; rintro e w1 ⟨rfl, hb1⟩; have B1 := Lib.hid hb1; clear hb1)
    | (go_at_call 65; refine Calls.mono (KR _).out ?_; rintro e w2 ⟨b, q, Dd, rfl, hF, hb2⟩; have B2 := Lib.hid (Bl.step B1.out hb2); have hlk : (Instr.lookup 86 (.map (some b)) (.int .u8 83) true).run Tryz.prog w2 = .ok (.tuple #[.func (.func 104) #[.agg #[.string s, .int .i64 (y0 : Int)]] #[], .bool true]) w2 := (look_ok lawU8 Tryz.underlying86 (zeroG w2) hF.out.1 hF.out.2 83 Tryz.underlying5); clear hb2)
    | (go_at_call 104; refine Calls.mono (KX _).out ?_; rintro e w3 ⟨rfl, hb3⟩; have B3 := Lib.hid (Bl.step B2.out hb3); clear hb3)
    | (go_at_call 52; (with_reducible refine Calls.mono (KD _).out ?_); rintro e w4 ⟨rfl, hb4⟩; have B4 := Lib.hid (Bl.step B3.out hb4); clear hb4)
    | (go_at_call 60; refine Calls.mono (KF _).out ?_; rintro e w5 ⟨b5, q5, D5, rfl, hF5, hb5⟩; have B5 := Lib.hid (Bl.step B4.out hb5); have hlk5 : (Instr.lookup 81 (.map (some b5)) (.int .u8 83) false).run Tryz.prog w5 = .ok (.func (.func 95) #[.agg #[.int .i64 (y : Int), .int .i64 (m : Int), .int .i64 (k : Int)]] #[]) w5 := (look_no lawU8 Tryz.underlying81 (zeroF w5) hF5.out.1 hF5.out.2 83 Tryz.underlying5); clear hb5)
    | (go_at_call 95; refine Calls.mono (KG _ (HE.out.below B5.out)).out ?_; rintro e w6 ⟨t, rfl, ht, hb6⟩; have B6 := Lib.hid (Bl.step B5.out hb6); have hne : ¬ t.toList = s.toList := (by rw [toList_bts, toList_bts, ht.out]; exact fun q => HF.out q.symm); have hne2 : (t.toList == s.toList) = false := (beq_eq_false_iff_ne.2 hne); clear hb6))
  go_ret2
  exact ⟨rfl, B6.out⟩
set_option maxHeartbeats 4000000 in
theorem ReadDay_U_none (s : ByteArray) (n0 y0 m0 k0 : Nat) (w : World) (hd0 : IsDate n0 y0 m0 k0) (h90 : y0 ≤ 9999) (hs : s.size ≤ 1000000) (hR : calOf (fyR y0 (num3 (bts s))) (num1 (bts s)) (num2 (bts s)) = none) : Calls Tryz.prog 30 #[.string s, .int .u8 85, .int .i64 (n0 : Int)] w (Gives w #[.int .i64 0, .int .i64 2]) := by
  have hn0 := isDate_max hd0 h90
  have KT := fun W => Lib.hid (isDay_any (n0 : Int) W)
  rw [inR_true (by omega) (by omega)] at KT
  have KD0 := fun W => Lib.hid (dateOf_any n0 y0 m0 k0 W hd0 h90)
  have KR := fun W => Lib.hid (dayR_any s y0 W)
  have KX := fun W => Lib.hid (show Calls Tryz.prog 105 #[.agg #[.string s, .int .i64 (y0 : Int)]] W (fun e w' => e = .returned (.tuple #[.int .i64 0, .bool false]) ∧ Below W.heap.size W w') from by have h := cal_to (r_usa_any s y0 W hs (sufOk_any s hs) h90); rw [hR] at h; exact h)
  have hfd := field_date
  have hid := index_date
  clear hd0 h90 hs hR hn0
  go_enter Tryz.func30, Tryz.ntmps30
  go_wp2_with (first
    | (go_at_call 51; refine Calls.mono (KT _).out ?_; rintro e W1 ⟨rfl, rfl⟩)
    | (go_at_call 52; (with_reducible refine Calls.mono (KD0 _).out ?_); clear KD0; rintro e w1 ⟨rfl, hb1⟩; have B1 := Lib.hid hb1; clear hb1)
    | (go_at_call 65; refine Calls.mono (KR _).out ?_; rintro e w2 ⟨b, q, Dd, rfl, hF, hb2⟩; have B2 := Lib.hid (Bl.step B1.out hb2); have hlk : (Instr.lookup 86 (.map (some b)) (.int .u8 85) true).run Tryz.prog w2 = .ok (.tuple #[.func (.func 105) #[.agg #[.string s, .int .i64 (y0 : Int)]] #[], .bool true]) w2 := (look_ok lawU8 Tryz.underlying86 (zeroG w2) hF.out.1 hF.out.2 85 Tryz.underlying5); clear hb2)
    | (go_at_call 105; refine Calls.mono (KX _).out ?_; rintro e w3 ⟨rfl, hb3⟩; have B3 := Lib.hid (Bl.step B2.out hb3); clear hb3))
  go_ret2
  exact ⟨rfl, B3.out⟩
set_option maxHeartbeats 4000000 in
theorem ReadDay_U_ok (s : ByteArray) (n0 y0 m0 k0 : Nat) (w : World) (hd0 : IsDate n0 y0 m0 k0) (h90 : y0 ≤ 9999) (hs : s.size ≤ 1000000) (n y m k : Nat) (hd : IsDate n y m k) (h9 : y ≤ 9999) (hR : calOf (fyR y0 (num3 (bts s))) (num1 (bts s)) (num2 (bts s)) = some n) (hf : bts s = shortL (m % 100) (k % 100) (y % 100)) (hE : Env w) : Calls Tryz.prog 30 #[.string s, .int .u8 85, .int .i64 (n0 : Int)] w (Gives w #[.int .i64 (n : Int), .int .i64 0]) := by
  have hn0 := isDate_max hd0 h90
  have KT := fun W => Lib.hid (isDay_any (n0 : Int) W)
  rw [inR_true (by omega) (by omega)] at KT
  have KD0 := fun W => Lib.hid (dateOf_any n0 y0 m0 k0 W hd0 h90)
  have KR := fun W => Lib.hid (dayR_any s y0 W)
  have KX := fun W => Lib.hid (show Calls Tryz.prog 105 #[.agg #[.string s, .int .i64 (y0 : Int)]] W (fun e w' => e = .returned (.tuple #[.int .i64 (n : Int), .bool true]) ∧ Below W.heap.size W w') from by have h := cal_to (r_usa_any s y0 W hs (sufOk_any s hs) h90); rw [hR] at h; exact h)
  have hk31 : k ≤ 31 := by have := hd.kd; have := dim_pos y m; omega
  have KD := fun W => Lib.hid (dateOf_any n y m k W hd h9)
  have KF := fun W => Lib.hid (datF_any y m k W)
  have KG := fun W hW => Lib.hid (usa_any y m k W h9 hd.m12 hk31 hW)
  have HE := Lib.hid hE
  have HF := Lib.hid hf
  have hfd := field_date
  have hid := index_date
  unfold dtV at KF KG
  clear hd0 h90 hd h9 hf hs hE hn0 hR hk31
  go_enter Tryz.func30, Tryz.ntmps30
  go_wp2_with (first
    | (go_at_call 51; refine Calls.mono (KT _).out ?_; rintro e W1 ⟨rfl, rfl⟩)
    | (go_at_call 52; (with_reducible refine Calls.mono (KD0 _).out ?_); clear KD0; rintro e w1 ⟨rfl, hb1⟩; have B1 := Lib.hid hb1; clear hb1)
    | (go_at_call 65; refine Calls.mono (KR _).out ?_; rintro e w2 ⟨b, q, Dd, rfl, hF, hb2⟩; have B2 := Lib.hid (Bl.step B1.out hb2); have hlk : (Instr.lookup 86 (.map (some b)) (.int .u8 85) true).run Tryz.prog w2 = .ok (.tuple #[.func (.func 105) #[.agg #[.string s, .int .i64 (y0 : Int)]] #[], .bool true]) w2 := (look_ok lawU8 Tryz.underlying86 (zeroG w2) hF.out.1 hF.out.2 85 Tryz.underlying5); clear hb2)
    | (go_at_call 105; refine Calls.mono (KX _).out ?_; rintro e w3 ⟨rfl, hb3⟩; have B3 := Lib.hid (Bl.step B2.out hb3); clear hb3)
    | (go_at_call 52; (with_reducible refine Calls.mono (KD _).out ?_); rintro e w4 ⟨rfl, hb4⟩; have B4 := Lib.hid (Bl.step B3.out hb4); clear hb4)
    | (go_at_call 60; refine Calls.mono (KF _).out ?_; rintro e w5 ⟨b5, q5, D5, rfl, hF5, hb5⟩; have B5 := Lib.hid (Bl.step B4.out hb5); have hlk5 : (Instr.lookup 81 (.map (some b5)) (.int .u8 85) false).run Tryz.prog w5 = .ok (.func (.func 96) #[.agg #[.int .i64 (y : Int), .int .i64 (m : Int), .int .i64 (k : Int)]] #[]) w5 := (look_no lawU8 Tryz.underlying81 (zeroF w5) hF5.out.1 hF5.out.2 85 Tryz.underlying5); clear hb5)
    | (go_at_call 96; refine Calls.mono (KG _ (HE.out.below B5.out)).out ?_; rintro e w6 ⟨t, rfl, ht, hb6⟩; have B6 := Lib.hid (Bl.step B5.out hb6); obtain rfl : t = s := bts_inj (ht.out.trans HF.out.symm); clear hb6))
  go_ret2
  exact ⟨rfl, B6.out⟩
set_option maxHeartbeats 4000000 in
theorem ReadDay_U_ne (s : ByteArray) (n0 y0 m0 k0 : Nat) (w : World) (hd0 : IsDate n0 y0 m0 k0) (h90 : y0 ≤ 9999) (hs : s.size ≤ 1000000) (n y m k : Nat) (hd : IsDate n y m k) (h9 : y ≤ 9999) (hR : calOf (fyR y0 (num3 (bts s))) (num1 (bts s)) (num2 (bts s)) = some n) (hf : ¬ bts s = shortL (m % 100) (k % 100) (y % 100)) (hE : Env w) : Calls Tryz.prog 30 #[.string s, .int .u8 85, .int .i64 (n0 : Int)] w (Gives w #[.int .i64 0, .int .i64 2]) := by
  have hn0 := isDate_max hd0 h90
  have KT := fun W => Lib.hid (isDay_any (n0 : Int) W)
  rw [inR_true (by omega) (by omega)] at KT
  have KD0 := fun W => Lib.hid (dateOf_any n0 y0 m0 k0 W hd0 h90)
  have KR := fun W => Lib.hid (dayR_any s y0 W)
  have KX := fun W => Lib.hid (show Calls Tryz.prog 105 #[.agg #[.string s, .int .i64 (y0 : Int)]] W (fun e w' => e = .returned (.tuple #[.int .i64 (n : Int), .bool true]) ∧ Below W.heap.size W w') from by have h := cal_to (r_usa_any s y0 W hs (sufOk_any s hs) h90); rw [hR] at h; exact h)
  have hk31 : k ≤ 31 := by have := hd.kd; have := dim_pos y m; omega
  have KD := fun W => Lib.hid (dateOf_any n y m k W hd h9)
  have KF := fun W => Lib.hid (datF_any y m k W)
  have KG := fun W hW => Lib.hid (usa_any y m k W h9 hd.m12 hk31 hW)
  have HE := Lib.hid hE
  have HF := Lib.hid hf
  have hfd := field_date
  have hid := index_date
  unfold dtV at KF KG
  clear hd0 h90 hd h9 hf hs hE hn0 hR hk31
  go_enter Tryz.func30, Tryz.ntmps30
  go_wp2_with (first
    | (go_at_call 51; refine Calls.mono (KT _).out ?_; rintro e W1 ⟨rfl, rfl⟩)
    | (go_at_call 52; (with_reducible refine Calls.mono (KD0 _).out ?_); clear KD0; rintro e w1 ⟨rfl, hb1⟩; have B1 := Lib.hid hb1; clear hb1)
    | (go_at_call 65; refine Calls.mono (KR _).out ?_; rintro e w2 ⟨b, q, Dd, rfl, hF, hb2⟩; have B2 := Lib.hid (Bl.step B1.out hb2); have hlk : (Instr.lookup 86 (.map (some b)) (.int .u8 85) true).run Tryz.prog w2 = .ok (.tuple #[.func (.func 105) #[.agg #[.string s, .int .i64 (y0 : Int)]] #[], .bool true]) w2 := (look_ok lawU8 Tryz.underlying86 (zeroG w2) hF.out.1 hF.out.2 85 Tryz.underlying5); clear hb2)
    | (go_at_call 105; refine Calls.mono (KX _).out ?_; rintro e w3 ⟨rfl, hb3⟩; have B3 := Lib.hid (Bl.step B2.out hb3); clear hb3)
    | (go_at_call 52; (with_reducible refine Calls.mono (KD _).out ?_); rintro e w4 ⟨rfl, hb4⟩; have B4 := Lib.hid (Bl.step B3.out hb4); clear hb4)
    | (go_at_call 60; refine Calls.mono (KF _).out ?_; rintro e w5 ⟨b5, q5, D5, rfl, hF5, hb5⟩; have B5 := Lib.hid (Bl.step B4.out hb5); have hlk5 : (Instr.lookup 81 (.map (some b5)) (.int .u8 85) false).run Tryz.prog w5 = .ok (.func (.func 96) #[.agg #[.int .i64 (y : Int), .int .i64 (m : Int), .int .i64 (k : Int)]] #[]) w5 := (look_no lawU8 Tryz.underlying81 (zeroF w5) hF5.out.1 hF5.out.2 85 Tryz.underlying5); clear hb5)
    | (go_at_call 96; refine Calls.mono (KG _ (HE.out.below B5.out)).out ?_; rintro e w6 ⟨t, rfl, ht, hb6⟩; have B6 := Lib.hid (Bl.step B5.out hb6); have hne : ¬ t.toList = s.toList := (by rw [toList_bts, toList_bts, ht.out]; exact fun q => HF.out q.symm); have hne2 : (t.toList == s.toList) = false := (beq_eq_false_iff_ne.2 hne); clear hb6))
  go_ret2
  exact ⟨rfl, B6.out⟩
end Go.Proofs.YtmjifmlibgpjiaaGreatDoor
