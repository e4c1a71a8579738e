/- Formats with halves of the day, read; formats of the beginnings of units: plain lemmas. -/
import Derived.Test.YtmjifmlibgpjiaaGreatDoorGf
import Derived.Test.YtmjifmlibgpjiaaGreatDoorDi
namespace Go.Proofs.YtmjifmlibgpjiaaGreatDoor
open Go.Lib Tx
namespace Tx
theorem civL_eq (c : Nat) : civL c = padd (1 + (hourF c + 11) % 12) 1 ++ (58 :: (padd (minF c) 2 ++ (if hourF c < 12 then [97, 109] else [112, 109]))) := by simp [civL, Lib.join]
theorem half_am (x : List UInt8) : halfV (x ++ [97, 109]) = 0 := by
  unfold halfV
  rw [if_pos (by simp [hasSuffix])]
theorem half_pm (x : List UInt8) : halfV (x ++ [112, 109]) = 1 := by
  unfold halfV
  have h : hasSuffix (x ++ [112, 109]) [97, 109] = false := by simp [hasSuffix, List.isSuffixOf, List.isPrefixOf]
  rw [if_neg (by rw [h]; simp), if_pos (by simp [hasSuffix])]
theorem rC (c : Nat) (hc : c ≤ 86399999999) : civR (civL c) = some (c / 60000000 * 60000000) := by
  have hh : hourF c < 24 := by unfold hourF; omega
  have hm : minF c < 60 := by unfold minF; omega
  obtain ⟨ap, hap⟩ : ∃ ap : List UInt8, ap = if hourF c < 12 then [97, 109] else [112, 109] := ⟨_, rfl⟩
  have hno : NoDg ap := by
    rw [hap]
    split
    · exact .inr ⟨97, _, rfl, by decide⟩
    · exact .inr ⟨112, _, rfl, by decide⟩
  have h1 := num_padd [] (58 :: (padd (minF c) 2 ++ ap)) (1 + (hourF c + 11) % 12) 1 (fun c hc => by cases hc) (.inr ⟨58, _, rfl, by decide⟩) (by rw [padd_low]; exact dd11 (by omega))
  have h2 := num_padd [58] ap (minF c) 2 (by decide) hno (p2len (by omega))
  rw [List.nil_append] at h1
  have e := civL_eq c
  rw [← hap] at e
  have hC : cntR [3600000000, 60000000] (civL c) = some ((1 + (hourF c + 11) % 12) * 3600000000 + minF c * 60000000) := by
    unfold cntR
    rw [e, cntL, h1.1, h1.2, if_pos ⟨by omega, by omega⟩, cntL]
    rw [show (58 :: (padd (minF c) 2 ++ ap)) = [58] ++ (padd (minF c) 2 ++ ap) from rfl, h2.1, h2.2, if_pos ⟨by omega, by omega⟩, cntL]
    simp only [Int.toNat_natCast, Nat.zero_add]
    rw [if_pos (by omega)]
  unfold civR
  rw [hC]
  dsimp only
  by_cases h12 : hourF c < 12
  · have ea : ap = [97, 109] := by rw [hap, if_pos h12]
    have hv : halfV (civL c) = 0 := by
      rw [e, ea, show padd (1 + (hourF c + 11) % 12) 1 ++ (58 :: (padd (minF c) 2 ++ [97, 109])) = (padd (1 + (hourF c + 11) % 12) 1 ++ (58 :: padd (minF c) 2)) ++ [97, 109] by simp]
      exact half_am _
    rw [if_pos hv]
    congr 1
    unfold hourF minF at *
    omega
  · have ea : ap = [112, 109] := by rw [hap, if_neg h12]
    have hv : halfV (civL c) = 1 := by
      rw [e, ea, show padd (1 + (hourF c + 11) % 12) 1 ++ (58 :: (padd (minF c) 2 ++ [112, 109])) = (padd (1 + (hourF c + 11) % 12) 1 ++ (58 :: padd (minF c) 2)) ++ [112, 109] by simp]
      exact half_pm _
    rw [if_neg (by rw [hv]; decide), if_pos hv]
    congr 1
    unfold hourF minF at *
    omega
theorem fC (c : Nat) : civL (c / 60000000 * 60000000) = civL c := by
  rw [civL_eq, civL_eq, show hourF (c / 60000000 * 60000000) = hourF c by unfold hourF; omega, show minF (c / 60000000 * 60000000) = minF c by unfold minF; omega]
theorem fN (c : Nat) : hmsL (c / 1000000 * 1000000) = hmsL c := by
  rw [hmsL_eq, hmsL_eq, show c / 1000000 * 1000000 / 3600000000 = c / 3600000000 by omega, show minF (c / 1000000 * 1000000) = minF c by unfold minF; omega, show secF (c / 1000000 * 1000000) = secF c by unfold secF; omega]
theorem fU (c u : Nat) (hu : 0 < u) : decDigits (c / u * u / u) = decDigits (c / u) := by rw [Nat.mul_div_cancel _ hu]
end Tx
end Go.Proofs.YtmjifmlibgpjiaaGreatDoor
