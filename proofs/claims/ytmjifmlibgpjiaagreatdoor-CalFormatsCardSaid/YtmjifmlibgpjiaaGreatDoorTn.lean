/- Weeks: plain lemmas on numbers. -/
import Derived.Test.YtmjifmlibgpjiaaGreatDoorTm
namespace Go.Proofs.YtmjifmlibgpjiaaGreatDoor
namespace Tx
/-- The Thursday of a day's week. -/
def thu (d : Nat) : Nat := d - d % 7 + 3
/-- y, w, x is the week date of day d. -/
structure IsWeek (d y w x : Nat) : Prop where
  yr : IsYear (thu d) y
  wk : w = 1 + (thu d - bef (y - 1)) / 7
  wd : x = 1 + d % 7
theorem isWeek_ex (d : Nat) : ∃ y w x, IsWeek d y w x := by
  obtain ⟨y, h⟩ := isYear_ex (thu d)
  exact ⟨y, _, _, h, rfl, rfl⟩
theorem IsWeek.uniq {d y w x y' w' x' : Nat} (h : IsWeek d y w x) (h' : IsWeek d y' w' x') : y = y' ∧ w = w' ∧ x = x' := by
  have e := h.yr.uniq h'.yr
  subst e
  exact ⟨rfl, by rw [h.wk, h'.wk], by rw [h.wd, h'.wd]⟩
/-- The Monday with which the week-numbering year behind p years begins. -/
def mon (p : Nat) : Nat := bef p + 3 - (bef p + 3) % 7
theorem mon_th (p : Nat) : bef p ≤ mon p + 3 ∧ mon p ≤ bef p + 3 ∧ mon p % 7 = 0 := by unfold mon; omega
theorem bef10000 : bef 9999 = 3652059 := bef9999
/-- The reference's year of a week. -/
theorem refYear {d y : Nat} (hy : IsYear d y) (hd : d ≤ 3652058) :
    (y < 9999 → mon y ≤ d → IsYear (thu d) (y + 1) ∧ (d - mon y) / 7 + 1 = 1 + (thu d - bef y) / 7) ∧
    (¬ (y < 9999 ∧ mon y ≤ d) → d < mon (y - 1) → 2 ≤ y ∧ IsYear (thu d) (y - 1) ∧ mon (y - 2) ≤ d ∧ (d - mon (y - 2)) / 7 + 1 = 1 + (thu d - bef (y - 2)) / 7) ∧
    (¬ (y < 9999 ∧ mon y ≤ d) → mon (y - 1) ≤ d → IsYear (thu d) y ∧ (d - mon (y - 1)) / 7 + 1 = 1 + (thu d - bef (y - 1)) / 7) := by
  have h1 := hy.y1
  have h2 := hy.lo
  have h3 := hy.hi
  have p1 := bef_pred h1
  have m0 := mon_th (y - 1)
  have m1 := mon_th y
  have l0 := lp_le y
  have s2 := bef_succ y
  refine ⟨fun a b => ⟨⟨by omega, ?_, ?_⟩, ?_⟩, fun a b => ?_, fun a b => ⟨⟨h1, ?_, ?_⟩, ?_⟩⟩
  · show bef y ≤ thu d; unfold thu; omega
  · unfold thu; omega
  · unfold thu; omega
  · have hy2 : 2 ≤ y := by
      by_cases e : y = 1
      · subst e; exfalso; have : mon (1 - 1) = 0 := by decide
        omega
      · omega
    have q1 := bef_pred (show 1 ≤ y - 1 by omega)
    have q2 := lp_le (y - 1)
    have q3 := mon_th (y - 2)
    rw [show y - 1 - 1 = y - 2 by omega] at q1
    refine ⟨hy2, ⟨by omega, ?_, ?_⟩, by omega, ?_⟩
    · rw [show y - 1 - 1 = y - 2 by omega]; unfold thu; omega
    · unfold thu; omega
    · unfold thu; omega
  · unfold thu; omega
  · by_cases e : y < 9999
    · unfold thu; omega
    · have := IsYear.le hy hd
      have e9 : y = 9999 := by omega
      subst e9
      rw [bef9999] at *
      unfold thu; omega
  · unfold thu; omega
/-- A week date in the calendar. -/
theorem weekBack {y w x n : Nat} (hy : 1 ≤ y) (hw : 1 ≤ w) (hx : 1 ≤ x) (hx7 : x ≤ 7) (hn : n = mon (y - 1) + 7 * (w - 1) + (x - 1)) :
    (n - (x - 1) < mon y → IsWeek n y w x) ∧ (mon y ≤ n - (x - 1) → ∀ y' w' x', IsWeek n y' w' x' → y' ≠ y) := by
  have p1 := bef_pred hy
  have m0 := mon_th (y - 1)
  have m1 := mon_th y
  have l0 := lp_le y
  refine ⟨fun h => ⟨⟨hy, ?_, ?_⟩, ?_, ?_⟩, fun h y' w' x' hq e => ?_⟩
  · unfold thu; omega
  · unfold thu; omega
  · unfold thu; omega
  · omega
  · subst e
    have := hq.yr.hi
    unfold thu at this; omega
theorem weekOfBack {n y w x : Nat} (h : IsWeek n y w x) : n = mon (y - 1) + 7 * (w - 1) + (x - 1) ∧ n - (x - 1) < mon y ∧ 1 ≤ w ∧ w ≤ 53 ∧ 1 ≤ x ∧ x ≤ 7 := by
  have h1 := h.yr.y1
  have h2 := h.yr.lo
  have h3 := h.yr.hi
  have h4 := h.wk
  have h5 := h.wd
  have p1 := bef_pred h1
  have m0 := mon_th (y - 1)
  have m1 := mon_th y
  have l0 := lp_le y
  unfold thu at *
  refine ⟨by omega, by omega, by omega, by omega, by omega, by omega⟩
end Tx
end Go.Proofs.YtmjifmlibgpjiaaGreatDoor
