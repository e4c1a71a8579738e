/- Durations: plain lemmas on numbers. -/
import Derived.Test.YtmjifmlibgpjiaaGreatDoorTm
namespace Go.Proofs.YtmjifmlibgpjiaaGreatDoor
namespace Tx
/-- From a moment to the one that lies n ticks behind it. -/
theorem durA (u k : Nat) (hu : u ≤ 86399999999) (h : (u + k) % 86400000000 < u) : 1 ≤ (u + k) / 86400000000 ∧ (u + k) / 86400000000 * 86400000000 + (u + k) % 86400000000 = u + k ∧ ((u + k) / 86400000000 - 1) * 86400000000 + ((u + k) % 86400000000 + 86400000000 - u) = k := by
  omega
theorem durB (u k : Nat) (hu : u ≤ 86399999999) (h : u ≤ (u + k) % 86400000000) : (u + k) / 86400000000 * 86400000000 + ((u + k) % 86400000000 - u) = k := by
  omega
/-- In two parts. -/
theorem durC (d u p r : Nat) : d + (u + p) / 86400000000 + ((u + p) % 86400000000 + r) / 86400000000 = d + (u + (p + r)) / 86400000000 ∧ ((u + p) % 86400000000 + r) % 86400000000 = (u + (p + r)) % 86400000000 := by
  omega
theorem durM {n m t : Nat} (h : m ≤ n) : n * t = m * t + (n - m) * t := by rw [← Nat.add_mul]; congr 1; omega
end Tx
end Go.Proofs.YtmjifmlibgpjiaaGreatDoor
