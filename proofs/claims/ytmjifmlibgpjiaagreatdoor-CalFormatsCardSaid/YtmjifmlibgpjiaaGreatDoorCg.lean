/- The public functions on days. -/
import Derived.Test.YtmjifmlibgpjiaaGreatDoorCf
namespace Go.Proofs.YtmjifmlibgpjiaaGreatDoor
open Go.RowKit Tx
set_option linter.unusedVariables false
set_option maxRecDepth 100000

/-- What a function gives: some values, and only new memory. -/
def Gives (w : World) (vs : Array Value) (e : Ending) (w' : World) : Prop := e = .returned (.tuple vs) ∧ Below w.heap.size w w'
set_option maxHeartbeats 800000 in
theorem Leap_ok (y : Nat) (w : World) (h1 : 1 ≤ y) (h2 : y ≤ 9999) : Calls Tryz.prog 13 #[.int .i64 (y : Int)] w (Gives w #[.bool (leapB y), .int .i64 0]) := by
  have KY := fun W => Lib.hid (isYear_any (y : Int) W)
  rw [inR_true (by omega) (by omega)] at KY
  have KL := fun W => Lib.hid (isLeap_any y W)
  clear h1 h2
  go_enter Tryz.func13, Tryz.ntmps13
  go_wp2_with (first
    | (go_at_call 42; refine Calls.mono (KY _).out ?_; rintro e W1 ⟨rfl, rfl⟩)
    | (go_at_call 43; refine Calls.mono (KL _).out ?_; rintro e W2 ⟨rfl, rfl⟩))
  go_ret2
  exact ⟨rfl, Below.refl _ _⟩
set_option maxHeartbeats 800000 in
theorem Leap_bad (y : Int) (w : World) (h : ¬ (1 ≤ y ∧ y ≤ 9999)) : Calls Tryz.prog 13 #[.int .i64 y] w (Gives w #[.bool false, .int .i64 1]) := by
  have KY := fun W => Lib.hid (isYear_any y W)
  rw [inR_false h] at KY
  clear h
  go_enter Tryz.func13, Tryz.ntmps13
  go_wp2_with (first
    | (go_at_call 42; refine Calls.mono (KY _).out ?_; rintro e W1 ⟨rfl, rfl⟩))
  go_ret2
  exact ⟨rfl, Below.refl _ _⟩
set_option maxHeartbeats 800000 in
theorem DaysIn_ok (y m : Nat) (w : World) (h1 : 1 ≤ y) (h2 : y ≤ 9999) (h3 : 1 ≤ m) (h4 : m ≤ 12) : Calls Tryz.prog 14 #[.int .i64 (y : Int), .int .i64 (m : Int)] w (Gives w #[.int .i64 (dim y m : Int), .int .i64 0]) := by
  have KY := fun W => Lib.hid (isYear_any (y : Int) W)
  rw [inR_true (by omega) (by omega)] at KY
  have KM := fun W => Lib.hid (isMonth_any (m : Int) W)
  rw [inR_true (by omega) (by omega)] at KM
  have KL := fun W => Lib.hid (monthLength_any y m W h3 h4)
  clear h1 h2 h3 h4
  go_enter Tryz.func14, Tryz.ntmps14
  go_wp2_with (first
    | (go_at_call 42; refine Calls.mono (KY _).out ?_; rintro e W1 ⟨rfl, rfl⟩)
    | (go_at_call 44; refine Calls.mono (KM _).out ?_; rintro e W2 ⟨rfl, rfl⟩)
    | (go_at_call 45; refine Calls.mono (KL _).out ?_; rintro e W3 ⟨rfl, rfl⟩))
  go_ret2
  exact ⟨rfl, Below.refl _ _⟩
set_option maxHeartbeats 800000 in
theorem DaysIn_bad (y m : Int) (w : World) (h : ¬ ((1 ≤ y ∧ y ≤ 9999) ∧ (1 ≤ m ∧ m ≤ 12))) : Calls Tryz.prog 14 #[.int .i64 y, .int .i64 m] w (Gives w #[.int .i64 0, .int .i64 1]) := by
  have KY := fun W => Lib.hid (isYear_any y W)
  have KM := fun W => Lib.hid (isMonth_any m W)
  by_cases hy : 1 ≤ y ∧ y ≤ 9999
  · rw [inR_true hy.1 hy.2] at KY
    rw [inR_false (fun e => h ⟨hy, e⟩)] at KM
    clear h hy
    go_enter Tryz.func14, Tryz.ntmps14
    go_wp2_with (first
      | (go_at_call 42; refine Calls.mono (KY _).out ?_; rintro e W1 ⟨rfl, rfl⟩)
      | (go_at_call 44; refine Calls.mono (KM _).out ?_; rintro e W2 ⟨rfl, rfl⟩))
    go_ret2
    exact ⟨rfl, Below.refl _ _⟩
  · rw [inR_false hy] at KY
    clear h hy KM
    go_enter Tryz.func14, Tryz.ntmps14
    go_wp2_with (first
      | (go_at_call 42; refine Calls.mono (KY _).out ?_; rintro e W1 ⟨rfl, rfl⟩))
    go_ret2
    exact ⟨rfl, Below.refl _ _⟩
set_option maxHeartbeats 800000 in
theorem DayOf_ok (n y m k : Nat) (w : World) (hd : IsDate n y m k) (h9 : y ≤ 9999) : Calls Tryz.prog 15 #[.int .i64 (y : Int), .int .i64 (m : Int), .int .i64 (k : Int)] w (Gives w #[.int .i64 (n : Int), .int .i64 0]) := by
  obtain ⟨p, rfl⟩ : ∃ p, y = p + 1 := ⟨y - 1, by have := hd.y1; omega⟩
  have KI := fun W => Lib.hid (inCal_ok n p m k W hd h9)
  rw [show ((p + 1 : Nat) : Int) = (p : Int) + 1 by omega]
  have KF := fun W => Lib.hid (dateFrom_any ((p : Int) + 1) m k W)
  clear hd h9
  go_enter Tryz.func15, Tryz.ntmps15
  go_wp2_with (first
    | (go_at_call 46; refine Calls.mono (KF _).out ?_; rintro e W1 ⟨rfl, rfl⟩)
    | (go_at_call 47; refine Calls.mono (KI _).out ?_; rintro e W2 ⟨rfl, hb2⟩; have B2 : Below w.heap.size w W2 := Bl.step (Bl.alloc (Below.refl _ w) _) hb2))
  go_ret2
  exact ⟨rfl, B2⟩
set_option maxHeartbeats 800000 in
theorem DayOf_bad (y m k : Int) (w : World) (h : ∀ n, ¬ IsCal n y m k) : Calls Tryz.prog 15 #[.int .i64 y, .int .i64 m, .int .i64 k] w (Gives w #[.int .i64 0, .int .i64 1]) := by
  have KI := fun W => Lib.hid (inCal_bad y m k W h)
  have KF := fun W => Lib.hid (dateFrom_any y m k W)
  clear h
  go_enter Tryz.func15, Tryz.ntmps15
  go_wp2_with (first
    | (go_at_call 46; refine Calls.mono (KF _).out ?_; rintro e W1 ⟨rfl, rfl⟩)
    | (go_at_call 47; refine Calls.mono (KI _).out ?_; rintro e W2 ⟨rfl, hb2⟩; have B2 : Below w.heap.size w W2 := Bl.step (Bl.alloc (Below.refl _ w) _) hb2))
  go_ret2
  exact ⟨rfl, B2⟩
theorem isDate_max {n y m k : Nat} (hd : IsDate n y m k) (h9 : y ≤ 9999) : n ≤ 3652058 := by
  have h1 := hd.isYear.hi
  have := bef_mono h9
  rw [bef9999] at this; omega
set_option maxHeartbeats 1600000 in
theorem DateOf_ok (n y m k : Nat) (w : World) (hd : IsDate n y m k) (h9 : y ≤ 9999) : Calls Tryz.prog 17 #[.int .i64 (n : Int)] w (Gives w #[.int .i64 (y : Int), .int .i64 (m : Int), .int .i64 (k : Int), .int .i64 0]) := by
  have KI := fun W => Lib.hid (dateOf_any n y m k W hd h9)
  have hn := isDate_max hd h9
  have KD := fun W => Lib.hid (isDay_any (n : Int) W)
  rw [inR_true (by omega) (by omega)] at KD
  clear hd h9 hn
  go_enter Tryz.func17, Tryz.ntmps17
  go_wp2_with (first
    | (go_at_call 51; refine Calls.mono (KD _).out ?_; rintro e W1 ⟨rfl, rfl⟩)
    | (go_at_call 52; refine Calls.mono (KI _).out ?_; rintro e W2 ⟨rfl, hb2⟩))
  go_quiet (fail)
  go_wp2
  refine bodyPost_ret (v := .tuple #[.int .i64 (y : Int), .int .i64 (m : Int), .int .i64 (k : Int), .int .i64 0]) (by simp [results, Tryz.results17, go_sem]) rfl ?_
  exact ⟨rfl, below_drewN' (Bl.alloc hb2 _) _⟩
set_option maxHeartbeats 800000 in
theorem DateOf_bad (n : Int) (w : World) (h : ¬ (0 ≤ n ∧ n ≤ 3652058)) : Calls Tryz.prog 17 #[.int .i64 n] w (Gives w #[.int .i64 0, .int .i64 0, .int .i64 0, .int .i64 1]) := by
  have KD := fun W => Lib.hid (isDay_any n W)
  rw [inR_false h] at KD
  clear h
  go_enter Tryz.func17, Tryz.ntmps17
  go_wp2_with (first
    | (go_at_call 51; refine Calls.mono (KD _).out ?_; rintro e W1 ⟨rfl, rfl⟩))
  refine bodyPost_ret (v := .tuple #[.int .i64 0, .int .i64 0, .int .i64 0, .int .i64 1]) (by simp [results, Tryz.results17, go_sem]) rfl ?_
  exact ⟨rfl, Below.refl _ _⟩
set_option maxHeartbeats 800000 in
theorem Weekday_ok (n : Nat) (w : World) (hn : n ≤ 3652058) : Calls Tryz.prog 19 #[.int .i64 (n : Int)] w (Gives w #[.int .i64 ((n % 7 : Nat) : Int), .int .i64 0]) := by
  have KI := fun W => Lib.hid (weekdayOf_any n W)
  have KD := fun W => Lib.hid (isDay_any (n : Int) W)
  rw [inR_true (by omega) (by omega)] at KD
  obtain ⟨x, hx⟩ : ∃ x, x = n % 7 := ⟨_, rfl⟩
  rw [← hx] at KI ⊢
  clear hn hx
  go_enter Tryz.func19, Tryz.ntmps19
  go_wp2_with (first
    | (go_at_call 51; refine Calls.mono (KD _).out ?_; rintro e W1 ⟨rfl, rfl⟩)
    | (go_at_call 53; refine Calls.mono (KI _).out ?_; rintro e W2 ⟨rfl, rfl⟩))
  go_ret2
  exact ⟨rfl, Below.refl _ _⟩
set_option maxHeartbeats 800000 in
theorem Weekday_bad (n : Int) (w : World) (h : ¬ (0 ≤ n ∧ n ≤ 3652058)) : Calls Tryz.prog 19 #[.int .i64 n] w (Gives w #[.int .i64 0, .int .i64 1]) := by
  have KD := fun W => Lib.hid (isDay_any n W)
  rw [inR_false h] at KD
  clear h
  go_enter Tryz.func19, Tryz.ntmps19
  go_wp2_with (first
    | (go_at_call 51; refine Calls.mono (KD _).out ?_; rintro e W1 ⟨rfl, rfl⟩))
  go_ret2
  exact ⟨rfl, Below.refl _ _⟩
end Go.Proofs.YtmjifmlibgpjiaaGreatDoor
