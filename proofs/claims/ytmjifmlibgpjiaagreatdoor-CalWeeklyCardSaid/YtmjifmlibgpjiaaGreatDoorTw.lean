/- The week date of the next day. -/
import Derived.Test.YtmjifmlibgpjiaaGreatDoorTn
namespace Go.Proofs.YtmjifmlibgpjiaaGreatDoor
namespace Tx
theorem weekNext {n y w x : Nat} (h : IsWeek n y w x) : (x < 7 → IsWeek (n + 1) y w (x + 1)) ∧ (x = 7 → IsWeek (n + 1) y (w + 1) 1 ∨ IsWeek (n + 1) (y + 1) 1 1 ∧ 52 ≤ w) := by
  have h1 := h.yr.y1
  have h2 := h.yr.lo
  have h3 := h.yr.hi
  have h4 := h.wk
  have h5 := h.wd
  have p1 := bef_pred h1
  have l0 := lp_le y
  have s2 := bef_succ y
  refine ⟨fun a => ?_, fun a => ?_⟩
  · have e : thu (n + 1) = thu n := by unfold thu; omega
    exact ⟨by rw [e]; exact h.yr, by rw [e]; exact h4, by omega⟩
  · have e : thu (n + 1) = thu n + 7 := by unfold thu; omega
    by_cases q : thu n + 7 < bef y
    · left
      exact ⟨by rw [e]; exact ⟨h1, by omega, by omega⟩, by rw [e]; omega, by omega⟩
    · right
      have l1 := lp_le (y + 1)
      refine ⟨⟨by rw [e]; exact ⟨by omega, by rw [show y + 1 - 1 = y by omega]; omega, by omega⟩, by rw [e, show y + 1 - 1 = y by omega]; omega, by omega⟩, by omega⟩
end Tx
end Go.Proofs.YtmjifmlibgpjiaaGreatDoor
