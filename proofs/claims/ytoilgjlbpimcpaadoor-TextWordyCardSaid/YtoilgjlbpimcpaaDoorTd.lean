/- Lengths, and the beginnings and ends of strings. -/
import Derived.Test.YtoilgjlbpimcpaaDoorTc
namespace Go.Proofs.YtoilgjlbpimcpaaDoor
open Go.RowKit Tx
set_option linter.unusedVariables false
set_option maxRecDepth 100000

theorem sum_take_succ (l : List Int) (k : Nat) (x : Int) (h : l[k]? = some x) : (l.take (k + 1)).sum = (l.take k).sum + x := by
  rw [List.take_add_one, h]; simp
theorem sum_take_le (l : List Int) (h : ∀ x ∈ l, 0 ≤ x) (k : Nat) : (l.take k).sum ≤ l.sum := by
  have e : l.sum = (l.take k).sum + (l.drop k).sum := by rw [← List.sum_append, List.take_append_drop]
  have h2 : ∀ m : List Int, (∀ x ∈ m, 0 ≤ x) → 0 ≤ m.sum := by
    intro m
    induction m with
    | nil => intro _; simp
    | cons a m ih => intro hm; have := ih (fun x hx => hm x (List.mem_cons_of_mem _ hx)); have := hm a (List.mem_cons_self ..); simp; omega
  have := h2 (l.drop k) (fun x hx => h x (List.mem_of_mem_drop hx))
  omega
theorem sum_take_nonneg (l : List Int) (h : ∀ x ∈ l, 0 ≤ x) (k : Nat) : 0 ≤ (l.take k).sum := by
  induction k with
  | zero => simp
  | succ k ih =>
    by_cases hk : k < l.length
    · rw [sum_take_succ l k _ (List.getElem?_eq_getElem hk)]
      have := h _ (List.getElem_mem hk)
      omega
    · rw [List.take_of_length_le (by omega)]; rw [List.take_of_length_le (by omega)] at ih; exact ih

set_option maxHeartbeats 400000 in
theorem isTooLong_any (p : Nat) (l : List Int) (w : World) (hl : l.length ≤ 10) (h0 : ∀ x ∈ l, 0 ≤ x) (hc : At w p (l.map (Value.int .i64))) :
    Calls Tryd.prog 101 #[.slice (some ⟨p, 0, none⟩) l.length l.length] w fun e w' => e = .returned (.bool (decide (1000 < l.sum))) ∧ w = w' := by
  have HC := Lib.hid hc
  have H0 := Lib.hid h0
  clear hc h0
  go_enter Tryd.func101, Tryd.ntmps101
  go_wp2
  go_loop [3, 8] (fun r i => ∃ (k : Nat) (m : Int), i = .int .i64 k ∧ k ≤ l.length ∧ r = .int .i64 (1000 - m) ∧ 0 ≤ m ∧ m ≤ 1000 ∧ Hid (m = (l.take k).sum)) (fun _ i => l.length - (intOf i).toNat)
  case atStart => exact ⟨0, 0, rfl, Nat.zero_le _, rfl, by omega, by omega, Lib.hid (by simp)⟩
  case round =>
    obtain ⟨k, m, rfl, hk, rfl, hm1, hm2, hm⟩ := hrel
    by_cases hlt : k < l.length
    · obtain ⟨x, hx⟩ : ∃ x, l[k]? = some x := ⟨_, List.getElem?_eq_getElem hlt⟩
      have c1 := HC.out k _ (by rw [List.getElem?_map, hx]; rfl)
      have HX := Lib.hid hx
      have hx0 := H0.out x (List.mem_of_getElem? hx)
      clear hx
      by_cases h1 : 1000 - m < x
      · have HALL := Lib.hid (show decide (1000 < l.sum) = true by
          have h2 := sum_take_succ l k x HX.out
          have h3 := sum_take_le l H0.out (k + 1)
          have h4 := hm.out
          rw [decide_eq_true_eq]; omega)
        go_wp2
        go_ret
        exact ⟨ret_b HALL.out.symm, rfl⟩
      · go_wp2
        go_round
        case rel => exact ⟨k + 1, m + x, by go_num, by omega, by go_num, by omega, by omega, Lib.hid (by rw [sum_take_succ l k x HX.out, ← hm.out])⟩
        case measure => simp [intOf]; omega
    · obtain rfl : k = l.length := by omega
      have HALL := Lib.hid (show decide (1000 < l.sum) = false by have h4 := hm.out; rw [List.take_length] at h4; rw [decide_eq_false_iff_not]; omega)
      go_wp2
      go_ret
      exact ⟨ret_b HALL.out.symm, rfl⟩

theorem isTooLong1 (p : Nat) (x : Int) (w : World) (h0 : 0 ≤ x) (hc : w.cell? ⟨p, 0, none⟩ = some (.int .i64 x)) :
    Calls Tryd.prog 101 #[.slice (some ⟨p, 0, none⟩) 1 1] w fun e w' => e = .returned (.bool (decide (1000 < x))) ∧ w = w' :=
  (isTooLong_any p [x] w (by simp) (by simpa using h0) (At.one hc)).mono fun e w' ⟨h, hw⟩ => ⟨by rw [h]; simp, hw⟩
theorem isTooLong2 (p : Nat) (x y : Int) (w : World) (h0 : 0 ≤ x) (h1 : 0 ≤ y) (hc : At w p [.int .i64 x, .int .i64 y]) :
    Calls Tryd.prog 101 #[.slice (some ⟨p, 0, none⟩) 2 2] w fun e w' => e = .returned (.bool (decide (1000 < x + y))) ∧ w = w' :=
  (isTooLong_any p [x, y] w (by simp) (by simp [h0, h1]) hc).mono fun e w' ⟨h, hw⟩ => ⟨by rw [h]; simp, hw⟩

namespace Tx
/-- The length of n strings of a length, or a number above 1000. -/
def timesS (n len : Int) : Int := if 0 < len ∧ 1000 / len < n then 1001 else n * len
theorem timesS_spec {n len : Int} (hn : 0 ≤ n) (hl : 0 ≤ len) : (1000 < timesS n len ↔ 1000 < n * len) ∧ 0 ≤ timesS n len := by
  unfold timesS
  by_cases h : 0 < len ∧ 1000 / len < n
  · rw [if_pos h]
    obtain ⟨h1, h2⟩ := h
    have h3 : (1000 / len + 1) * len ≤ n * len := Int.mul_le_mul_of_nonneg_right (by omega) (by omega)
    have h4 : 1000 < (1000 / len + 1) * len := by
      have := Int.emod_lt_of_pos 1000 h1
      have := Int.emod_add_mul_ediv 1000 len
      rw [Int.add_mul, Int.mul_comm (1000 / len)]; omega
    omega
  · rw [if_neg h]
    exact ⟨Iff.rfl, Int.mul_nonneg hn hl⟩
end Tx

set_option maxHeartbeats 400000 in
theorem times_any (n len : Int) (w : World) (hn : 0 ≤ n) (hn2 : n ≤ 9223372036854775807) (hl : 0 ≤ len) (hl2 : len ≤ 1000) :
    Calls Tryd.prog 102 #[.int .i64 n, .int .i64 len] w fun e w' => e = .returned (.int .i64 (timesS n len)) ∧ w = w' := by
  by_cases h1 : 0 < len
  · have hlo : 0 ≤ 1000 / len := Int.ediv_nonneg (by omega) hl
    have hhi : 1000 / len ≤ 1000 := Int.ediv_le_self _ (by omega)
    have hprod := @timesS_spec n len hn hl
    have hr1 : 1000 / len < n → timesS n len = 1001 := fun h => by unfold timesS; rw [if_pos ⟨h1, h⟩]
    have hr2 : ¬ 1000 / len < n → timesS n len = n * len ∧ 0 ≤ n * len ∧ n * len ≤ 1000 := fun h => by
      have e : timesS n len = n * len := by unfold timesS; rw [if_neg (by omega)]
      have h5 : n * len ≤ 1000 / len * len := Int.mul_le_mul_of_nonneg_right (by omega) hl
      have := Int.emod_add_mul_ediv 1000 len
      have := Int.emod_nonneg 1000 (show len ≠ 0 by omega)
      rw [Int.mul_comm (1000 / len)] at h5
      exact ⟨e, Int.mul_nonneg hn hl, by omega⟩
    have hq1 : (1000 : Int).tdiv len = 1000 / len := Int.tdiv_eq_ediv_of_nonneg (by omega)
    obtain ⟨q, hq⟩ : ∃ q, q = 1000 / len := ⟨_, rfl⟩
    rw [← hq] at hlo hhi hr1 hr2 hq1
    have hq2 : 1000 / len = q := hq.symm
    clear hq hprod
    obtain ⟨z, hz⟩ : ∃ z, z = timesS n len := ⟨_, rfl⟩
    rw [← hz] at hr1 hr2 ⊢
    clear hz
    by_cases h2 : q < n
    · have HR := Lib.hid (hr1 h2)
      clear hr1 hr2
      go_enter Tryd.func102, Tryd.ntmps102
      go_wp2
      go_ret
      exact ⟨ret_i HR.out.symm, rfl⟩
    · obtain ⟨h3, h4, h5⟩ := hr2 h2
      have HR := Lib.hid h3
      clear hr1 hr2 h3
      go_enter Tryd.func102, Tryd.ntmps102
      go_wp2
      go_ret
      exact ⟨ret_i HR.out.symm, rfl⟩
  · obtain rfl : len = 0 := by omega
    have HR := Lib.hid (show timesS n 0 = 0 by unfold timesS; rw [if_neg (by omega)]; simp)
    go_enter Tryd.func102, Tryd.ntmps102
    go_wp2
    go_ret
    exact ⟨ret_i (by rw [HR.out]), rfl⟩

set_option maxHeartbeats 400000 in
theorem before_any (s : ByteArray) (n : Nat) (w : World) (hs : s.size ≤ maxLen) :
    Calls Tryd.prog 115 #[.string s, .int .i64 n] w fun e w' => ∃ t, e = .returned (.string t) ∧ Hid (bts t = (bts s).take n) ∧ w = w' := by
  unfold maxLen at hs
  by_cases h : n ≤ s.size
  · have HR := Lib.hid (bts_extract s 0 n)
    go_enter Tryd.func115, Tryd.ntmps115
    go_wp2
    go_ret
    exact ⟨_, rfl, Lib.hid (by rw [HR.out]; simp), rfl⟩
  · have HR := Lib.hid (bts_extract s 0 s.size)
    go_enter Tryd.func115, Tryd.ntmps115
    go_wp2
    go_ret
    exact ⟨_, rfl, Lib.hid (List.take_of_length_le (by rw [bts_length]; omega)).symm, rfl⟩

set_option maxHeartbeats 400000 in
theorem after_any (s : ByteArray) (n : Nat) (w : World) (hs : s.size ≤ maxLen) :
    Calls Tryd.prog 113 #[.string s, .int .i64 n] w fun e w' => ∃ t, e = .returned (.string t) ∧ Hid (bts t = (bts s).drop n) ∧ w = w' := by
  unfold maxLen at hs
  by_cases h : n ≤ s.size
  · have HR := Lib.hid (bts_extract s n s.size)
    go_enter Tryd.func113, Tryd.ntmps113
    go_wp2
    go_ret
    exact ⟨_, rfl, Lib.hid (by rw [HR.out]; exact List.take_of_length_le (by rw [List.length_drop, bts_length]; omega)), rfl⟩
  · have HR := Lib.hid (bts_extract s s.size s.size)
    go_enter Tryd.func113, Tryd.ntmps113
    go_wp2
    go_ret
    exact ⟨_, rfl, Lib.hid (show bts ByteArray.empty = _ from (List.drop_eq_nil_of_le (by rw [bts_length]; omega)).symm), rfl⟩
end Go.Proofs.YtoilgjlbpimcpaaDoor
