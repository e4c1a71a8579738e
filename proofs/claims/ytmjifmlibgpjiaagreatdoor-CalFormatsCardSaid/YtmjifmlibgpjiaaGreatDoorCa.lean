/- Small functions on years, months and days, walked. -/
import Derived.Test.YtmjifmlibgpjiaaGreatDoorRows
import Derived.Test.YtmjifmlibgpjiaaGreatDoorTm
import Derived.Test.YtmjifmlibgpjiaaGreatDoorTn
import Derived.WalkKit
import Derived.WalkSpells
import Derived.WalkLawsBesides
import Derived.Lib.Hide
namespace Go.Proofs.YtmjifmlibgpjiaaGreatDoor
open Go.RowKit Tx
set_option linter.unusedVariables false
set_option maxRecDepth 100000

theorem ret_eq {v v' : Value} (h : v = v') : Ending.returned v = .returned v' := by rw [h]
theorem ret_b {a b : Bool} (h : a = b) : Ending.returned (.bool a) = .returned (.bool b) := by rw [h]
theorem ret_i {k : IntKind} {a b : Int} (h : a = b) : Ending.returned (.int k a) = .returned (.int k b) := by rw [h]
theorem Bl.step {a w w1 : World} (h : Below a.heap.size a w) (hb : Below w.heap.size w w1) : Below a.heap.size a w1 := h.trans (hb.mono h.size)
theorem Bl.alloc {a w : World} (h : Below a.heap.size a w) (o : Obj) : Below a.heap.size a (w.alloc o) := Below.alloc h h.size o
theorem Bl.drew {a w : World} (h : Below a.heap.size a w) : Below a.heap.size a w.drew := Below.drew h
theorem tmodN (a b : Nat) : ((a : Int)).tmod (b : Int) = ((a % b : Nat) : Int) := by rw [Int.tmod_eq_emod_of_nonneg (by omega)]; omega
theorem tdivN (a b : Nat) : ((a : Int)).tdiv (b : Int) = ((a / b : Nat) : Int) := by rw [Int.tdiv_eq_ediv_of_nonneg (by omega)]; omega

namespace Tx
def inR (x a b : Int) : Bool := decide (a ≤ x) && decide (x ≤ b)
theorem inR_true {x a b : Int} (h1 : a ≤ x) (h2 : x ≤ b) : inR x a b = true := by unfold inR; simp [h1, h2]
theorem inR_false {x a b : Int} (h : ¬ (a ≤ x ∧ x ≤ b)) : inR x a b = false := by
  unfold inR
  by_cases h1 : a ≤ x
  · have : ¬ x ≤ b := fun e => h ⟨h1, e⟩
    simp [this]
  · simp [h1]
end Tx
set_option maxHeartbeats 400000 in
theorem inRange_any (x a b : Int) (w : World) : Calls Tryz.prog 58 #[.int .i64 x, .int .i64 a, .int .i64 b] w fun e w' => e = .returned (.bool (inR x a b)) ∧ w = w' := by
  by_cases h1 : a ≤ x
  · by_cases h2 : x ≤ b
    · have HR := Lib.hid (inR_true h1 h2)
      go_enter Tryz.func58, Tryz.ntmps58
      go_wp2
      go_ret
      exact ⟨ret_b (by rw [HR.out]; try simp [*]), rfl⟩
    · have HR := Lib.hid (inR_false (x := x) (a := a) (b := b) (fun e => h2 e.2))
      go_enter Tryz.func58, Tryz.ntmps58
      go_wp2
      go_ret
      exact ⟨ret_b (by rw [HR.out]; try simp [*]), rfl⟩
  · have HR := Lib.hid (inR_false (x := x) (a := a) (b := b) (fun e => h1 e.1))
    go_enter Tryz.func58, Tryz.ntmps58
    go_wp2
    go_ret
    exact ⟨ret_b (by rw [HR.out]; try simp [*]), rfl⟩
set_option maxHeartbeats 400000 in
theorem isYear_any (x : Int) (w : World) : Calls Tryz.prog 42 #[.int .i64 x] w fun e w' => e = .returned (.bool (inR x 1 9999)) ∧ w = w' := by
  have K := fun W => Lib.hid (inRange_any x 1 9999 W)
  go_enter Tryz.func42, Tryz.ntmps42
  go_wp2_with (go_at_call 58; refine Calls.mono (K _).out ?_; rintro e w1 ⟨rfl, rfl⟩)
  go_ret
  exact ⟨rfl, rfl⟩
set_option maxHeartbeats 400000 in
theorem isMonth_any (x : Int) (w : World) : Calls Tryz.prog 44 #[.int .i64 x] w fun e w' => e = .returned (.bool (inR x 1 12)) ∧ w = w' := by
  have K := fun W => Lib.hid (inRange_any x 1 12 W)
  go_enter Tryz.func44, Tryz.ntmps44
  go_wp2_with (go_at_call 58; refine Calls.mono (K _).out ?_; rintro e w1 ⟨rfl, rfl⟩)
  go_ret
  exact ⟨rfl, rfl⟩
set_option maxHeartbeats 400000 in
theorem isDay_any (x : Int) (w : World) : Calls Tryz.prog 51 #[.int .i64 x] w fun e w' => e = .returned (.bool (inR x 0 3652058)) ∧ w = w' := by
  have K := fun W => Lib.hid (inRange_any x 0 3652058 W)
  go_enter Tryz.func51, Tryz.ntmps51
  go_wp2_with (go_at_call 58; refine Calls.mono (K _).out ?_; rintro e w1 ⟨rfl, rfl⟩)
  go_ret
  exact ⟨rfl, rfl⟩
set_option maxHeartbeats 400000 in
theorem RinYears_any (x : Int) (w : World) : Calls Tryz.prog 48 #[.int .i64 x] w fun e w' => e = .returned (.bool (inR x 1 9999)) ∧ w = w' := by
  by_cases h1 : (1 : Int) ≤ x
  · by_cases h2 : x ≤ 9999
    · have HR := Lib.hid (inR_true h1 h2)
      go_enter Tryz.func48, Tryz.ntmps48
      go_wp2
      go_ret
      exact ⟨ret_b (by rw [HR.out]; try simp [*]), rfl⟩
    · have HR := Lib.hid (inR_false (x := x) (a := 1) (b := 9999) (fun e => h2 e.2))
      go_enter Tryz.func48, Tryz.ntmps48
      go_wp2
      go_ret
      exact ⟨ret_b (by rw [HR.out]; try simp [*]), rfl⟩
  · have HR := Lib.hid (inR_false (x := x) (a := 1) (b := 9999) (fun e => h1 e.1))
    go_enter Tryz.func48, Tryz.ntmps48
    go_wp2
    go_ret
    exact ⟨ret_b (by rw [HR.out]; try simp [*]), rfl⟩
set_option maxHeartbeats 400000 in
theorem RinMonths_any (x : Int) (w : World) : Calls Tryz.prog 49 #[.int .i64 x] w fun e w' => e = .returned (.bool (inR x 1 12)) ∧ w = w' := by
  by_cases h1 : (1 : Int) ≤ x
  · by_cases h2 : x ≤ 12
    · have HR := Lib.hid (inR_true h1 h2)
      go_enter Tryz.func49, Tryz.ntmps49
      go_wp2
      go_ret
      exact ⟨ret_b (by rw [HR.out]; try simp [*]), rfl⟩
    · have HR := Lib.hid (inR_false (x := x) (a := 1) (b := 12) (fun e => h2 e.2))
      go_enter Tryz.func49, Tryz.ntmps49
      go_wp2
      go_ret
      exact ⟨ret_b (by rw [HR.out]; try simp [*]), rfl⟩
  · have HR := Lib.hid (inR_false (x := x) (a := 1) (b := 12) (fun e => h1 e.1))
    go_enter Tryz.func49, Tryz.ntmps49
    go_wp2
    go_ret
    exact ⟨ret_b (by rw [HR.out]; try simp [*]), rfl⟩
set_option maxHeartbeats 400000 in
theorem RIn_any (x : Int) (w : World) : Calls Tryz.prog 22 #[.int .i64 x] w fun e w' => e = .returned (.bool (inR x 0 3652058)) ∧ w = w' := by
  by_cases h1 : (0 : Int) ≤ x
  · by_cases h2 : x ≤ 3652058
    · have HR := Lib.hid (inR_true h1 h2)
      go_enter Tryz.func22, Tryz.ntmps22
      go_wp2
      go_ret
      exact ⟨ret_b (by rw [HR.out]; try simp [*]), rfl⟩
    · have HR := Lib.hid (inR_false (x := x) (a := 0) (b := 3652058) (fun e => h2 e.2))
      go_enter Tryz.func22, Tryz.ntmps22
      go_wp2
      go_ret
      exact ⟨ret_b (by rw [HR.out]; try simp [*]), rfl⟩
  · have HR := Lib.hid (inR_false (x := x) (a := 0) (b := 3652058) (fun e => h1 e.1))
    go_enter Tryz.func22, Tryz.ntmps22
    go_wp2
    go_ret
    exact ⟨ret_b (by rw [HR.out]; try simp [*]), rfl⟩
set_option maxHeartbeats 800000 in
theorem isLeap_any (y : Nat) (w : World) : Calls Tryz.prog 43 #[.int .i64 (y : Int)] w fun e w' => e = .returned (.bool (leapB y)) ∧ w = w' := by
  by_cases h1 : y % 4 = 0
  · have q4 : (y : Int) % 4 = 0 := by omega
    by_cases h2 : y % 100 = 0
    · have q100 : (y : Int) % 100 = 0 := by omega
      by_cases h3 : y % 400 = 0
      · have HR := Lib.hid (show leapB y = true by unfold leapB; simp [h1, h2, h3])
        have q400 : (y : Int) % 400 = 0 := by omega
        clear h1 h2 h3
        go_enter Tryz.func43, Tryz.ntmps43
        go_wp2
        go_ret
        exact ⟨ret_b (by rw [HR.out]; try simp [*]), rfl⟩
      · have HR := Lib.hid (show leapB y = false by unfold leapB; simp [h1, h2, h3])
        have q400 : ((y : Int) % 400 == 0) = false := beq_eq_false_iff_ne.2 (by omega)
        clear h1 h2 h3
        go_enter Tryz.func43, Tryz.ntmps43
        go_wp2
        go_ret
        exact ⟨ret_b (by rw [HR.out]; try simp [*]), rfl⟩
    · have HR := Lib.hid (show leapB y = true by unfold leapB; simp [h1, h2])
      have q100 : ((y : Int) % 100 != 0) = true := bne_iff_ne.2 (by omega)
      clear h1 h2
      go_enter Tryz.func43, Tryz.ntmps43
      go_wp2
      go_ret
      exact ⟨ret_b (by rw [HR.out]; try simp [*]), rfl⟩
  · have HR := Lib.hid (show leapB y = false by unfold leapB; have : ¬ y % 400 = 0 := (by omega); simp [h1, this])
    have q4 : ((y : Int) % 4 == 0) = false := beq_eq_false_iff_ne.2 (by omega)
    have q400 : ((y : Int) % 400 == 0) = false := beq_eq_false_iff_ne.2 (by omega)
    clear h1
    go_enter Tryz.func43, Tryz.ntmps43
    go_wp2
    go_ret
    exact ⟨ret_b (by rw [HR.out]; try simp [*]), rfl⟩
set_option maxHeartbeats 800000 in
theorem RLeap_any (y : Nat) (w : World) : Calls Tryz.prog 20 #[.int .i64 (y : Int)] w fun e w' => e = .returned (.bool (leapB y)) ∧ w = w' := by
  by_cases h1 : y % 4 = 0
  · have q4 : (y : Int) % 4 = 0 := by omega
    by_cases h2 : y % 100 = 0
    · have q100 : (y : Int) % 100 = 0 := by omega
      by_cases h3 : y % 400 = 0
      · have HR := Lib.hid (show leapB y = true by unfold leapB; simp [h1, h2, h3])
        have q400 : (y : Int) % 400 = 0 := by omega
        clear h1 h2 h3
        go_enter Tryz.func20, Tryz.ntmps20
        go_wp2
        go_ret
        exact ⟨ret_b (by rw [HR.out]; try simp [*]), rfl⟩
      · have HR := Lib.hid (show leapB y = false by unfold leapB; simp [h1, h2, h3])
        have q400 : ((y : Int) % 400 == 0) = false := beq_eq_false_iff_ne.2 (by omega)
        clear h1 h2 h3
        go_enter Tryz.func20, Tryz.ntmps20
        go_wp2
        go_ret
        exact ⟨ret_b (by rw [HR.out]; try simp [*]), rfl⟩
    · have HR := Lib.hid (show leapB y = true by unfold leapB; simp [h1, h2])
      have q100 : ((y : Int) % 100 != 0) = true := bne_iff_ne.2 (by omega)
      clear h1 h2
      go_enter Tryz.func20, Tryz.ntmps20
      go_wp2
      go_ret
      exact ⟨ret_b (by rw [HR.out]; try simp [*]), rfl⟩
  · have HR := Lib.hid (show leapB y = false by unfold leapB; have : ¬ y % 400 = 0 := (by omega); simp [h1, this])
    have q4 : ((y : Int) % 4 == 0) = false := beq_eq_false_iff_ne.2 (by omega)
    have q400 : ((y : Int) % 400 == 0) = false := beq_eq_false_iff_ne.2 (by omega)
    clear h1
    go_enter Tryz.func20, Tryz.ntmps20
    go_wp2
    go_ret
    exact ⟨ret_b (by rw [HR.out]; try simp [*]), rfl⟩
theorem w64 {x : Int} (h1 : -9223372036854775808 ≤ x) (h2 : x ≤ 9223372036854775807) : wrap64 x = x := by unfold wrap64; omega
theorem bef_wrap (p : Nat) (hp : p ≤ 20000) : wrap64 (wrap64 (wrap64 (wrap64 (365 * wrap64 (p : Int)) + wrap64 ((wrap64 (p : Int)).tdiv 4)) - wrap64 ((wrap64 (p : Int)).tdiv 100)) + wrap64 ((wrap64 (p : Int)).tdiv 400)) = (bef p : Int) := by
  have q4 : (p : Int).tdiv 4 = ((p / 4 : Nat) : Int) := tdivN p 4
  have q100 : (p : Int).tdiv 100 = ((p / 100 : Nat) : Int) := tdivN p 100
  have q400 : (p : Int).tdiv 400 = ((p / 400 : Nat) : Int) := tdivN p 400
  have hb : (bef p : Int) = 365 * (p : Int) + ((p / 4 : Nat) : Int) - ((p / 100 : Nat) : Int) + ((p / 400 : Nat) : Int) := by unfold bef; omega
  rw [hb, w64 (x := (p : Int)) (by omega) (by omega), q4, q100, q400, w64 (x := ((p / 4 : Nat) : Int)) (by omega) (by omega), w64 (x := ((p / 100 : Nat) : Int)) (by omega) (by omega), w64 (x := ((p / 400 : Nat) : Int)) (by omega) (by omega),
    w64 (x := 365 * (p : Int)) (by omega) (by omega), w64 (x := 365 * (p : Int) + ((p / 4 : Nat) : Int)) (by omega) (by omega), w64 (x := 365 * (p : Int) + ((p / 4 : Nat) : Int) - ((p / 100 : Nat) : Int)) (by omega) (by omega)]
  exact w64 (by omega) (by omega)
set_option maxHeartbeats 800000 in
theorem firstDay_any (p : Nat) (w : World) (hp : p ≤ 20000) : Calls Tryz.prog 85 #[.int .i64 ((p : Int) + 1)] w fun e w' => e = .returned (.int .i64 (bef p : Int)) ∧ w = w' := by
  have HB := Lib.hid (bef_wrap p hp)
  have w0 : IntKind.i64.wrap ((p : Int) + 1 - 1) = (p : Int) := by rw [show (p : Int) + 1 - 1 = (p : Int) by omega]; exact IntWalk.i64_in _ (by omega)
  clear hp
  go_enter Tryz.func85, Tryz.ntmps85
  go_wp2
  go_ret
  refine ⟨ret_i ?_, rfl⟩
  first | exact HB.out | (simp [*]; exact HB.out) | (rw [← HB.out]; simp [*])
set_option maxHeartbeats 800000 in
theorem Rbefore_any (p : Nat) (w : World) (hp : p ≤ 20000) : Calls Tryz.prog 50 #[.int .i64 ((p : Int) + 1)] w fun e w' => e = .returned (.int .i64 (bef p : Int)) ∧ w = w' := by
  have HB := Lib.hid (bef_wrap p hp)
  have w0 : IntKind.i64.wrap ((p : Int) + 1 - 1) = (p : Int) := by rw [show (p : Int) + 1 - 1 = (p : Int) by omega]; exact IntWalk.i64_in _ (by omega)
  clear hp
  go_enter Tryz.func50, Tryz.ntmps50
  go_wp2
  go_ret
  refine ⟨ret_i ?_, rfl⟩
  first | exact HB.out | (simp [*]; exact HB.out) | (rw [← HB.out]; simp [*])
set_option maxHeartbeats 400000 in
theorem weekdayOf_any (d : Nat) (w : World) : Calls Tryz.prog 53 #[.int .i64 (d : Int)] w fun e w' => e = .returned (.int .i64 ((d % 7 : Nat) : Int)) ∧ w = w' := by
  have q7 := tmodN d 7
  go_enter Tryz.func53, Tryz.ntmps53
  go_wp2
  go_ret
  exact ⟨ret_i (by simp [*]), rfl⟩
set_option maxHeartbeats 800000 in
theorem monthLength_any (y m : Nat) (w : World) (h1 : 1 ≤ m) (h12 : m ≤ 12) : Calls Tryz.prog 45 #[.int .i64 (y : Int), .int .i64 (m : Int)] w fun e w' => e = .returned (.int .i64 (dim y m : Int)) ∧ w = w' := by
  have K := fun W => Lib.hid (isLeap_any y W)
  match m, h1, h12 with
  | 2, _, _ =>
    cases hl : leapB y with
    | true =>
      rw [hl] at K
      have HR := Lib.hid (show dim y 2 = 29 by unfold dim lp; rw [hl]; rfl)
      clear hl
      go_enter Tryz.func45, Tryz.ntmps45
      go_wp2_with (go_at_call 43; refine Calls.mono (K _).out ?_; rintro e w1 ⟨rfl, rfl⟩)
      go_ret
      exact ⟨ret_i (by rw [HR.out]; rfl), rfl⟩
    | false =>
      rw [hl] at K
      have HR := Lib.hid (show dim y 2 = 28 by unfold dim lp; rw [hl]; rfl)
      clear hl
      go_enter Tryz.func45, Tryz.ntmps45
      go_wp2_with (go_at_call 43; refine Calls.mono (K _).out ?_; rintro e w1 ⟨rfl, rfl⟩)
      go_ret
      exact ⟨ret_i (by rw [HR.out]; rfl), rfl⟩
  | 1, _, _ | 3, _, _ | 4, _, _ | 5, _, _ | 6, _, _ | 7, _, _ | 8, _, _ | 9, _, _ | 10, _, _ | 11, _, _ | 12, _, _ =>
    clear K
    go_enter Tryz.func45, Tryz.ntmps45
    go_wp2
    go_ret
    exact ⟨rfl, rfl⟩
set_option maxHeartbeats 800000 in
theorem RDaysIn_any (y m : Nat) (w : World) (h1 : 1 ≤ m) (h12 : m ≤ 12) : Calls Tryz.prog 21 #[.int .i64 (y : Int), .int .i64 (m : Int)] w fun e w' => e = .returned (.int .i64 (dim y m : Int)) ∧ w = w' := by
  have K := fun W => Lib.hid (RLeap_any y W)
  match m, h1, h12 with
  | 2, _, _ =>
    cases hl : leapB y with
    | true =>
      rw [hl] at K
      have HR := Lib.hid (show dim y 2 = 29 by unfold dim lp; rw [hl]; rfl)
      clear hl
      go_enter Tryz.func21, Tryz.ntmps21
      go_wp2_with (go_at_call 20; refine Calls.mono (K _).out ?_; rintro e w1 ⟨rfl, rfl⟩)
      go_ret
      exact ⟨ret_i (by rw [HR.out]; rfl), rfl⟩
    | false =>
      rw [hl] at K
      have HR := Lib.hid (show dim y 2 = 28 by unfold dim lp; rw [hl]; rfl)
      clear hl
      go_enter Tryz.func21, Tryz.ntmps21
      go_wp2_with (go_at_call 20; refine Calls.mono (K _).out ?_; rintro e w1 ⟨rfl, rfl⟩)
      go_ret
      exact ⟨ret_i (by rw [HR.out]; rfl), rfl⟩
  | 1, _, _ | 3, _, _ | 4, _, _ | 5, _, _ | 6, _, _ | 7, _, _ | 8, _, _ | 9, _, _ | 10, _, _ | 11, _, _ | 12, _, _ =>
    clear K
    go_enter Tryz.func21, Tryz.ntmps21
    go_wp2
    go_ret
    exact ⟨rfl, rfl⟩
end Go.Proofs.YtmjifmlibgpjiaaGreatDoor
