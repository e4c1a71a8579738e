/- Week and WeekDay: the program's and the reference's answers are the same. -/
import Derived.Test.YtmjifmlibgpjiaaGreatDoorDt
import Derived.Test.YtmjifmlibgpjiaaGreatDoorCl
namespace Go.Proofs.YtmjifmlibgpjiaaGreatDoor
open Go.RowKit Go.Shelf Tx Go.Maps
set_option linter.unusedVariables false
set_option maxRecDepth 100000

theorem RWeek_ok (n y wk x : Nat) (w : World) (h : IsWeek n y wk x) (hn : n ≤ 3652058) : Calls Tryz.prog 25 #[.int .i64 (n : Int)] w (GivesA w #[.int .i64 (y : Int), .int .i64 (wk : Int), .int .i64 (x : Int), .int .i64 0]) := by
  obtain ⟨Y, m, k, hd⟩ := isDate_ex n
  have hy := hd.isYear
  obtain ⟨p, rfl⟩ : ∃ p, Y = p + 1 := ⟨Y - 1, by have := hy.y1; omega⟩
  obtain ⟨R1, R2, R3⟩ := refYear hy hn
  by_cases hc : p + 1 < 9999 ∧ mon (p + 1) ≤ n
  · obtain ⟨a, b⟩ := R1 hc.1 hc.2
    have e := a.uniq h.yr
    subst e
    have K := RWeek_up n p m k wk x w hd hn hc (b.trans h.wk.symm) h.wd
    rw [show ((p + 1 + 1 : Nat) : Int) = (p : Int) + 1 + 1 by omega]
    exact K
  · rcases Nat.lt_or_ge n (mon p) with hl | hl
    · obtain ⟨a2, a, a3, b⟩ := R2 hc hl
      have e := a.uniq h.yr
      obtain ⟨q, rfl⟩ : ∃ q, p = q + 1 := ⟨p - 1, by omega⟩
      rw [show q + 1 + 1 - 1 = q + 1 by omega] at e
      subst e
      exact RWeek_down n (q + 1) m k wk x w hd hn hc hl q rfl a3 (b.trans h.wk.symm) h.wd
    · obtain ⟨a, b⟩ := R3 hc hl
      have e := a.uniq h.yr
      subst e
      have K := RWeek_mid n p m k wk x w hd hn hc hl (b.trans h.wk.symm) h.wd
      rw [show ((p + 1 : Nat) : Int) = (p : Int) + 1 by omega]
      exact K
theorem week_both (n : Int) : ∃ y wk x e : Int, (∀ W, Calls Tryz.prog 24 #[.int .i64 n] W (Gives W #[.int .i64 y, .int .i64 wk, .int .i64 x, .int .i64 e])) ∧ (∀ W, Calls Tryz.prog 25 #[.int .i64 n] W (GivesA W #[.int .i64 y, .int .i64 wk, .int .i64 x, .int .i64 e])) := by
  by_cases h : 0 ≤ n ∧ n ≤ 3652058
  · obtain ⟨k, rfl⟩ : ∃ k : Nat, n = (k : Int) := ⟨n.toNat, by omega⟩
    obtain ⟨y, wk, x, hw⟩ := isWeek_ex k
    exact ⟨y, wk, x, 0, fun W => Week_ok k y wk x W hw (by omega), fun W => RWeek_ok k y wk x W hw (by omega)⟩
  · exact ⟨0, 0, 0, 1, fun W => Week_bad n W h, fun W => RWeek_bad n W h⟩
theorem weekDay_both (y wk x : Int) : ∃ r e : Int, (∀ W, Calls Tryz.prog 26 #[.int .i64 y, .int .i64 wk, .int .i64 x] W (Gives W #[.int .i64 r, .int .i64 e])) ∧ (∀ W, Calls Tryz.prog 27 #[.int .i64 y, .int .i64 wk, .int .i64 x] W (GivesA W #[.int .i64 r, .int .i64 e])) := by
  by_cases h : (1 ≤ y ∧ y ≤ 9999) ∧ (1 ≤ wk ∧ wk ≤ 53) ∧ (1 ≤ x ∧ x ≤ 7)
  · obtain ⟨⟨a1, a2⟩, ⟨b1, b2⟩, c1, c2⟩ := h
    obtain ⟨y', rfl⟩ : ∃ k : Nat, y = (k : Int) := ⟨y.toNat, by omega⟩
    obtain ⟨w', rfl⟩ : ∃ k : Nat, wk = (k : Int) := ⟨wk.toNat, by omega⟩
    obtain ⟨x', rfl⟩ : ∃ k : Nat, x = (k : Int) := ⟨x.toNat, by omega⟩
    by_cases q : ∃ n, n ≤ 3652058 ∧ IsWeek n y' w' x'
    · obtain ⟨n, hn, hw⟩ := q
      exact ⟨n, 0, fun W => WeekDay_ok n y' w' x' W hw hn, fun W => RWeekDay_ok n y' w' x' W hw hn⟩
    · have q' : ∀ n, n ≤ 3652058 → ¬ IsWeek n y' w' x' := fun n hn hw => q ⟨n, hn, hw⟩
      exact ⟨0, 8, fun W => WeekDay_rng y' w' x' W (by omega) (by omega) (by omega) (by omega) (by omega) (by omega) q', fun W => RWeekDay_rng y' w' x' W (by omega) (by omega) (by omega) (by omega) (by omega) (by omega) q'⟩
  · exact ⟨0, 1, fun W => WeekDay_arg y wk x W h, fun W => RWeekDay_arg y wk x W h⟩
end Go.Proofs.YtmjifmlibgpjiaaGreatDoor
