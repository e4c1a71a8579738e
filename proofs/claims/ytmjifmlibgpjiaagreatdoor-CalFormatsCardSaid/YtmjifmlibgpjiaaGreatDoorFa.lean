/- Decimal digits, padded. -/
import Derived.Test.YtmjifmlibgpjiaaGreatDoorTm
import Derived.Lib.ItoaNum
namespace Go.Proofs.YtmjifmlibgpjiaaGreatDoor
open Go.Lib
namespace Tx
def dgt (n : Nat) : UInt8 := UInt8.ofNat (48 + n % 10)
/-- A number of which at least w digits are written. -/
def padd (n w : Nat) : List UInt8 := List.replicate (w - (decDigits n).length) 48 ++ decDigits n
theorem dd_small {n : Nat} (h : n < 10) : decDigits n = [dgt n] := by rw [decDigits, dif_pos h, dgt, Nat.mod_eq_of_lt h]
theorem dd_big {n : Nat} (h : ¬ n < 10) : decDigits n = decDigits (n / 10) ++ [dgt n] := by rw [decDigits, dif_neg h]; rfl
theorem padd_succ (n w : Nat) (hw : 1 ≤ w) : padd n (w + 1) = padd (n / 10) w ++ [dgt n] := by
  unfold padd
  by_cases h : n < 10
  · rw [dd_small h, show n / 10 = 0 by omega, dd_small (show 0 < 10 by omega)]
    simp only [List.length_cons, List.length_nil]
    rw [show w + 1 - (0 + 1) = (w - (0 + 1)) + 1 by omega, List.replicate_succ']
    rfl
  · rw [dd_big h]
    simp [← List.append_assoc]
theorem padd_one {n : Nat} (h : n < 10) : padd n 1 = [dgt n] := by unfold padd; rw [dd_small h]; rfl
theorem padd_two {n : Nat} (h : n < 100) : padd n 2 = [dgt (n / 10), dgt n] := by
  rw [padd_succ n 1 (by omega), padd_one (by omega)]; rfl
theorem padd_four {n : Nat} (h : n < 10000) : padd n 4 = [dgt (n / 1000), dgt (n / 100), dgt (n / 10), dgt n] := by
  rw [padd_succ n 3 (by omega), padd_succ _ 2 (by omega), padd_succ _ 1 (by omega), padd_one (by omega)]
  simp [Nat.div_div_eq_div_mul]
theorem padd_six {n : Nat} (h : n < 1000000) : padd n 6 = [dgt (n / 100000), dgt (n / 10000), dgt (n / 1000), dgt (n / 100), dgt (n / 10), dgt n] := by
  rw [padd_succ n 5 (by omega), padd_succ _ 4 (by omega), padd_succ _ 3 (by omega), padd_succ _ 2 (by omega), padd_succ _ 1 (by omega), padd_one (by omega)]
  simp [Nat.div_div_eq_div_mul]
theorem padd_low (n : Nat) : padd n 1 = decDigits n := by
  unfold padd
  have := decDigits_length n
  have := nDigits_pos n
  rw [show 1 - (decDigits n).length = 0 by omega]; rfl
theorem padd_zero (n : Nat) : padd n 0 = decDigits n := by unfold padd; simp
theorem padd_len (n w : Nat) : (padd n w).length = max w (decDigits n).length := by unfold padd; simp; omega
theorem dd_len {n k : Nat} (h : n < 10 ^ (k + 1)) : (decDigits n).length ≤ k + 1 := by
  rw [decDigits_length]
  induction k generalizing n with
  | zero => rw [nDigits_small (by simpa using h)]; exact Nat.le_refl _
  | succ k ih =>
    by_cases e : n < 10
    · rw [nDigits_small e]; omega
    · rw [nDigits_big e]
      have := ih (n := n / 10) (by rw [Nat.pow_succ] at h ⊢; rw [Nat.pow_succ] at h; rw [Nat.pow_succ] at *; omega)
      omega
/-- Fields with a sign between. -/
def joinF (sep : List UInt8) (fs : List (Nat × Nat)) : List UInt8 := sep.intercalate (fs.map fun f => padd f.1 f.2)
end Tx
end Go.Proofs.YtmjifmlibgpjiaaGreatDoor
