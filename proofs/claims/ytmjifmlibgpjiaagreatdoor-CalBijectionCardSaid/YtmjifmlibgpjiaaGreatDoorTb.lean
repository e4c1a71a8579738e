/- The next day, and the day 400 years later: plain lemmas on numbers. -/
import Derived.Test.YtmjifmlibgpjiaaGreatDoorTm
namespace Go.Proofs.YtmjifmlibgpjiaaGreatDoor
namespace Tx
theorem lp400 (y : Nat) : lp (y + 400) = lp y := by
  have : leapB (y + 400) = leapB y := by
    unfold leapB
    rw [show (y + 400) % 4 = y % 4 by omega, show (y + 400) % 100 = y % 100 by omega, show (y + 400) % 400 = y % 400 by omega]
  unfold lp; rw [this]
theorem bef400 (p : Nat) : bef (p + 400) = bef p + 146097 := by unfold bef; omega
theorem dim400 (y m : Nat) : dim (y + 400) m = dim y m := by unfold dim; simp only [lp400]
theorem cum400 (y m : Nat) : cum (y + 400) m = cum y m := by unfold cum; simp only [lp400]
theorem date400 {n y m k : Nat} (h : IsDate n y m k) : IsDate (n + 146097) (y + 400) m k := by
  have h1 := h.y1
  have h2 := h.eq
  refine ⟨by omega, h.m1, h.m12, h.k1, by rw [dim400]; exact h.kd, ?_⟩
  rw [cum400, show y + 400 - 1 = (y - 1) + 400 by omega, bef400]
  omega
theorem dateNext {n y m k : Nat} (h : IsDate n y m k) :
    (k < dim y m → IsDate (n + 1) y m (k + 1)) ∧ (k = dim y m → m < 12 → IsDate (n + 1) y (m + 1) 1) ∧ (k = dim y m → m = 12 → IsDate (n + 1) (y + 1) 1 1) := by
  have h1 := h.y1
  have h2 := h.m1
  have h3 := h.m12
  have h4 := h.k1
  have h5 := h.kd
  have h6 := h.eq
  refine ⟨fun a => ⟨h1, h2, h3, by omega, by omega, by omega⟩, fun a b => ⟨h1, by omega, by omega, by omega, by have := dim_pos y (m + 1); omega, ?_⟩, fun a b => ⟨by omega, by omega, by omega, by omega, by have := dim_pos (y + 1) 1; omega, ?_⟩⟩
  · rw [cum_succ y m h2 (by omega)]; omega
  · subst b
    have e1 := cum_succ y 12 (by omega) (by omega)
    have e2 : cum y (12 + 1) = 365 + lp y := rfl
    have p1 := bef_pred h1
    rw [cum1, show y + 1 - 1 = y by omega]
    omega
end Tx
end Go.Proofs.YtmjifmlibgpjiaaGreatDoor
