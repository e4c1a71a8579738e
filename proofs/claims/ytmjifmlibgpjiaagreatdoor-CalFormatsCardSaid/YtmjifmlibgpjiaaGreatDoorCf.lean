/- Is there such a date? -/
import Derived.Test.YtmjifmlibgpjiaaGreatDoorCe
import Derived.Test.YtmjifmlibgpjiaaGreatDoorCq
namespace Go.Proofs.YtmjifmlibgpjiaaGreatDoor
open Go.RowKit Tx
set_option linter.unusedVariables false
set_option maxRecDepth 100000

namespace Tx
/-- There is such a date in the calendar. -/
def IsCal (n : Nat) (y m k : Int) : Prop := ∃ y' m' k' : Nat, y = (y' : Int) ∧ m = (m' : Int) ∧ k = (k' : Int) ∧ IsDate n y' m' k' ∧ y' ≤ 9999
end Tx
/-- A day and whether it is one. -/
def GivesD (w : World) (n : Int) (b : Bool) (e : Ending) (w' : World) : Prop := e = .returned (.tuple #[.int .i64 n, .bool b]) ∧ Below w.heap.size w w'
set_option maxHeartbeats 4000000 in
theorem inCal_ok (n p m k : Nat) (w : World) (hd : IsDate n (p + 1) m k) (h9 : p + 1 ≤ 9999) :
    Calls Tryz.prog 47 #[.agg #[.int .i64 ((p : Int) + 1), .int .i64 (m : Int), .int .i64 (k : Int)]] w (GivesD w n true) := by
  have hkd := dim_pos (p + 1) m
  have k1 := hd.k1
  have kd := hd.kd
  have KY := fun W => Lib.hid (isYear_any ((p : Int) + 1) W)
  rw [inR_true (by omega) (by omega)] at KY
  have KM := fun W => Lib.hid (isMonth_any (m : Int) W)
  rw [inR_true (by have := hd.m1; omega) (by have := hd.m12; omega)] at KM
  have KR := fun W => Lib.hid (inRange_any (k : Int) 1 31 W)
  rw [inR_true (by omega) (by omega)] at KR
  have KN := fun W => Lib.hid (number_any p m k W h9 hd.m1 hd.m12 k1 (by omega))
  have he := hd.eq
  rw [show p + 1 - 1 = p by omega] at he
  rw [← he] at KN
  have KD := fun W => Lib.hid (dateOf_any n (p + 1) m k W hd h9)
  rw [show ((p + 1 : Nat) : Int) = (p : Int) + 1 by omega] at KD
  have hq := fun W => neq_date ((p : Int) + 1) m k ((p : Int) + 1) m k W
  simp only [beq_self_eq_true, Bool.and_self, Bool.not_true] at hq
  clear hkd k1 kd he hd h9
  go_enter Tryz.func47, Tryz.ntmps47
  go_wp2_with (first
    | (go_at_call 42; refine Calls.mono (KY _).out ?_; rintro e w1 ⟨rfl, rfl⟩)
    | (go_at_call 44; refine Calls.mono (KM _).out ?_; rintro e w2 ⟨rfl, rfl⟩)
    | (go_at_call 58; refine Calls.mono (KR _).out ?_; rintro e w3 ⟨rfl, rfl⟩)
    | (go_at_call 82; refine Calls.mono (KN _).out ?_; rintro e w4 ⟨rfl, hb4⟩; have bF := (BoxC.new w 70 #[.int .i64 ((p : Int) + 1), .int .i64 (m : Int), .int .i64 (k : Int)]).below hb4 (by simp); have B4 : Below w.heap.size w w4 := Bl.step (Bl.alloc (Below.refl _ w) _) hb4))
  have hw4 := B4.size
  have hw5 : w.heap.size < w4.heap.size := bF.lt
  have c0 := bF.cell (i := 0) rfl
  have c1 := bF.cell (i := 1) rfl
  have c2 := bF.cell (i := 2) rfl
  have HBF := Lib.hid bF
  clear bF hb4
  go_region_held3 (fun w' => w'.cell? ⟨w.heap.size, 0, none⟩ = some (.int .i64 ((p : Int) + 1)) ∧ w'.cell? ⟨w.heap.size, 1, none⟩ = some (.int .i64 (m : Int)) ∧ w'.cell? ⟨w.heap.size, 2, none⟩ = some (.int .i64 (k : Int)))
    (first | exact ⟨c0, c1, c2⟩ | exact ⟨d0, d1, d2⟩ | go_keep)
    (first | (go_at_call 52; refine Calls.mono (KD _).out ?_; rintro e w5 ⟨rfl, hb5⟩; have hb5' := Lib.hid ((Below.refl _ w4).drew.trans hb5); have bF5 := HBF.out.below hb5'.out hw5; have d0 := bF5.cell (i := 0) rfl; have d1 := bF5.cell (i := 1) rfl; have d2 := bF5.cell (i := 2) rfl; clear bF5 hb5))
  all_goals
    go_wp2
    go_ret2
    exact ⟨rfl, B4.trans (hb5'.out.mono B4.size)⟩
set_option maxHeartbeats 4000000 in
theorem inCal_bad (y m k : Int) (w : World) (h : ∀ n, ¬ IsCal n y m k) :
    Calls Tryz.prog 47 #[.agg #[.int .i64 y, .int .i64 m, .int .i64 k]] w (GivesD w 0 false) := by
  have KY := fun W => Lib.hid (isYear_any y W)
  have KM := fun W => Lib.hid (isMonth_any m W)
  have KR := fun W => Lib.hid (inRange_any k 1 31 W)
  by_cases hy : 1 ≤ y ∧ y ≤ 9999
  · by_cases hm : 1 ≤ m ∧ m ≤ 12
    · by_cases hk : 1 ≤ k ∧ k ≤ 31
      · obtain ⟨p, rfl⟩ : ∃ p : Nat, y = (p : Int) + 1 := ⟨(y - 1).toNat, by omega⟩
        obtain ⟨m, rfl⟩ : ∃ m' : Nat, m = (m' : Int) := ⟨m.toNat, by omega⟩
        obtain ⟨k, rfl⟩ : ∃ k' : Nat, k = (k' : Int) := ⟨k.toNat, by omega⟩
        rw [inR_true hy.1 hy.2] at KY
        rw [inR_true hm.1 hm.2] at KM
        rw [inR_true hk.1 hk.2] at KR
        obtain ⟨n, hn⟩ : ∃ n, n = bef p + cum (p + 1) m + (k - 1) := ⟨_, rfl⟩
        have KN := fun W => Lib.hid (number_any p m k W (by omega) (by omega) (by omega) (by omega) (by omega))
        rw [← hn] at KN
        have hkd : dim (p + 1) m < k := by
          rcases Nat.lt_or_ge (dim (p + 1) m) k with q | q
          · exact q
          · exact absurd ⟨p + 1, m, k, by omega, rfl, rfl, ⟨by omega, by omega, by omega, by omega, q, by rw [show p + 1 - 1 = p by omega]; exact hn⟩, by omega⟩ (h n)
        have hn9 : n ≤ 3652058 := by
          have h1 := cum_succ (p + 1) m (by omega) (by omega)
          have h2 := bef_succ p
          have h3 := bef_mono (show p + 1 ≤ 9999 by omega)
          rw [bef9999] at h3
          have h4 : cum (p + 1) m + 31 ≤ 365 + lp (p + 1) := by
            have hl := lp_le (p + 1)
            have hm12 : m ≠ 12 := by rintro rfl; simp [dim] at hkd; omega
            have := cum_mono (p + 1) (show 1 ≤ m by omega) (show m ≤ 11 by omega) (by omega)
            have e11 : cum (p + 1) 11 = 304 + lp (p + 1) := rfl
            omega
          omega
        obtain ⟨y', m', k', hd⟩ := isDate_ex n
        have h9 := hd.isYear.le hn9
        have KD := fun W => Lib.hid (dateOf_any n y' m' k' W hd h9)
        have hne : (!(((y' : Int) == (p : Int) + 1) && (((m' : Int) == (m : Int)) && ((k' : Int) == (k : Int))))) = true := by
          rw [Bool.not_eq_true', Bool.and_eq_false_iff]
          by_cases e1 : (y' : Int) = (p : Int) + 1
          · right
            rw [Bool.and_eq_false_iff]
            by_cases e2 : (m' : Int) = (m : Int)
            · right
              refine beq_eq_false_iff_ne.2 (fun e3 => h n ⟨y', m', k', e1.symm, e2.symm, e3.symm, hd, h9⟩)
            · left; exact beq_eq_false_iff_ne.2 e2
          · left; exact beq_eq_false_iff_ne.2 e1
        have hq := fun W => neq_date (y' : Int) m' k' ((p : Int) + 1) m k W
        simp only [hne] at hq
        clear h hy hm hk hn hkd hn9 hd h9 hne
        go_enter Tryz.func47, Tryz.ntmps47
        go_wp2_with (first
          | (go_at_call 42; refine Calls.mono (KY _).out ?_; rintro e w1 ⟨rfl, rfl⟩)
          | (go_at_call 44; refine Calls.mono (KM _).out ?_; rintro e w2 ⟨rfl, rfl⟩)
          | (go_at_call 58; refine Calls.mono (KR _).out ?_; rintro e w3 ⟨rfl, rfl⟩)
          | (go_at_call 82; refine Calls.mono (KN _).out ?_; rintro e w4 ⟨rfl, hb4⟩; have bF := (BoxC.new w 70 #[.int .i64 ((p : Int) + 1), .int .i64 (m : Int), .int .i64 (k : Int)]).below hb4 (by simp); have B4 : Below w.heap.size w w4 := Bl.step (Bl.alloc (Below.refl _ w) _) hb4))
        have hw4 := B4.size
        have hw5 : w.heap.size < w4.heap.size := bF.lt
        have c0 := bF.cell (i := 0) rfl
        have c1 := bF.cell (i := 1) rfl
        have c2 := bF.cell (i := 2) rfl
        have HBF := Lib.hid bF
        clear bF hb4
        go_region_held3 (fun w' => w'.cell? ⟨w.heap.size, 0, none⟩ = some (.int .i64 ((p : Int) + 1)) ∧ w'.cell? ⟨w.heap.size, 1, none⟩ = some (.int .i64 (m : Int)) ∧ w'.cell? ⟨w.heap.size, 2, none⟩ = some (.int .i64 (k : Int)))
          (first | exact ⟨c0, c1, c2⟩ | exact ⟨d0, d1, d2⟩ | go_keep)
          (first | (go_at_call 52; refine Calls.mono (KD _).out ?_; rintro e w5 ⟨rfl, hb5⟩; have hb5' := Lib.hid ((Below.refl _ w4).drew.trans hb5); have bF5 := HBF.out.below hb5'.out hw5; have d0 := bF5.cell (i := 0) rfl; have d1 := bF5.cell (i := 1) rfl; have d2 := bF5.cell (i := 2) rfl; clear bF5 hb5))
        all_goals
          go_wp2
          go_ret2
          exact ⟨rfl, B4.trans (hb5'.out.mono B4.size)⟩
      · rw [inR_true hy.1 hy.2] at KY
        rw [inR_true hm.1 hm.2] at KM
        rw [inR_false hk] at KR
        clear hy hm hk h
        go_enter Tryz.func47, Tryz.ntmps47
        go_wp2_with (first
          | (go_at_call 42; refine Calls.mono (KY _).out ?_; rintro e w1 ⟨rfl, rfl⟩)
          | (go_at_call 44; refine Calls.mono (KM _).out ?_; rintro e w2 ⟨rfl, rfl⟩)
          | (go_at_call 58; refine Calls.mono (KR _).out ?_; rintro e w3 ⟨rfl, rfl⟩))
        go_ret2
        exact ⟨rfl, Bl.alloc (Below.refl _ w) _⟩
    · rw [inR_true hy.1 hy.2] at KY
      rw [inR_false hm] at KM
      clear hy hm h KR
      go_enter Tryz.func47, Tryz.ntmps47
      go_wp2_with (first
          | (go_at_call 42; refine Calls.mono (KY _).out ?_; rintro e w1 ⟨rfl, rfl⟩)
          | (go_at_call 44; refine Calls.mono (KM _).out ?_; rintro e w2 ⟨rfl, rfl⟩))
      go_ret2
      exact ⟨rfl, Bl.alloc (Below.refl _ w) _⟩
  · rw [inR_false hy] at KY
    clear hy h KR KM
    go_enter Tryz.func47, Tryz.ntmps47
    go_wp2_with (first
    | (go_at_call 42; refine Calls.mono (KY _).out ?_; rintro e w1 ⟨rfl, rfl⟩))
    go_ret2
    exact ⟨rfl, Bl.alloc (Below.refl _ w) _⟩
end Go.Proofs.YtmjifmlibgpjiaaGreatDoor
