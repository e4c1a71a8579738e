/- What the readers find in formats of times: plain lemmas. -/
import Derived.Test.YtmjifmlibgpjiaaGreatDoorGd
import Derived.Test.YtmjifmlibgpjiaaGreatDoorTf
namespace Go.Proofs.YtmjifmlibgpjiaaGreatDoor
open Go.Lib Tx
namespace Tx
theorem cnt1 (u v : Nat) (_ : 1 ≤ u) (hv : v ≤ 86400000000 / u) (ht : v * u ≤ 86399999999) (hl : (decDigits v).length ≤ 11) : cntR [u] (decDigits v) = some (v * u) := by
  have h := num_padd [] [] v 1 (fun c hc => by cases hc) (.inl rfl) (by rw [padd_low]; exact hl)
  rw [List.nil_append, List.append_nil, padd_low] at h
  unfold cntR
  rw [cntL, h.1, if_pos ⟨by omega, by omega⟩, cntL]
  simp [ht]
theorem dd11 {n : Nat} (h : n ≤ 99999999999) : (decDigits n).length ≤ 11 := dd_len (k := 10) (by omega)
theorem rF (c : Nat) (hc : c ≤ 86399999999) : cntR [1] (decDigits (c / 1)) = some c := by
  rw [Nat.div_one]
  have := cnt1 1 c (Nat.le_refl _) (by omega) (by omega) (dd11 (by omega))
  rw [Nat.mul_one] at this; exact this
theorem rH (c : Nat) (hc : c ≤ 86399999999) : cntR [3600000000] (decDigits (c / 3600000000)) = some (c / 3600000000 * 3600000000) := cnt1 _ _ (by decide) (by omega) (by omega) (dd11 (by omega))
theorem rM (c : Nat) (hc : c ≤ 86399999999) : cntR [60000000] (decDigits (c / 60000000)) = some (c / 60000000 * 60000000) := cnt1 _ _ (by decide) (by omega) (by omega) (dd11 (by omega))
theorem rS (c : Nat) (hc : c ≤ 86399999999) : cntR [1000000] (decDigits (c / 1000000)) = some (c / 1000000 * 1000000) := cnt1 _ _ (by decide) (by omega) (by omega) (dd11 (by omega))
theorem padd_wlen' {n : Nat} (h : n < 100) : (padd n 2).length = 2 := by rw [padd_two h]; rfl
theorem p2len {n : Nat} (h : n < 100) : (padd n 2).length ≤ 11 := by rw [padd_wlen' h]; decide
theorem hmsL_eq (c : Nat) : hmsL c = padd (c / 3600000000) 2 ++ (58 :: (padd (minF c) 2 ++ (58 :: padd (secF c) 2))) := by simp [hmsL, Lib.join]
/-- The three numbers of a time, and what follows them. -/
theorem hmsNums (c : Nat) (hc : c ≤ 86399999999) (r : List UInt8) (hr : NoDg r) (us : List Nat) : cntL (3600000000 :: 60000000 :: 1000000 :: us) (hmsL c ++ r) 0 = cntL us r (c / 1000000 * 1000000) := by
  have hh : c / 3600000000 < 24 := by omega
  have hm : minF c < 60 := by unfold minF; omega
  have hs : secF c < 60 := by unfold secF; omega
  have h1 := num_padd [] (58 :: (padd (minF c) 2 ++ (58 :: (padd (secF c) 2 ++ r)))) (c / 3600000000) 2 (fun c hc => by cases hc) (.inr ⟨58, _, rfl, by decide⟩) (p2len (by omega))
  have h2 := num_padd [58] (58 :: (padd (secF c) 2 ++ r)) (minF c) 2 (by decide) (.inr ⟨58, _, rfl, by decide⟩) (p2len (by omega))
  have h3 := num_padd [58] r (secF c) 2 (by decide) hr (p2len (by omega))
  rw [List.nil_append] at h1
  have e : hmsL c ++ r = padd (c / 3600000000) 2 ++ (58 :: (padd (minF c) 2 ++ (58 :: (padd (secF c) 2 ++ r)))) := by rw [hmsL_eq]; simp
  rw [e, cntL, h1.1, h1.2, if_pos ⟨by omega, by omega⟩, cntL]
  rw [show (58 :: (padd (minF c) 2 ++ (58 :: (padd (secF c) 2 ++ r)))) = [58] ++ (padd (minF c) 2 ++ (58 :: (padd (secF c) 2 ++ r))) from rfl, h2.1, h2.2, if_pos ⟨by omega, by omega⟩, cntL]
  rw [show (58 :: (padd (secF c) 2 ++ r)) = [58] ++ (padd (secF c) 2 ++ r) from rfl, h3.1, h3.2, if_pos ⟨by omega, by omega⟩]
  congr 1
  simp only [Int.toNat_natCast]
  unfold minF secF
  omega
theorem rN (c : Nat) (hc : c ≤ 86399999999) : cntR [3600000000, 60000000, 1000000] (hmsL c) = some (c / 1000000 * 1000000) := by
  have h := hmsNums c hc [] (.inl rfl) []
  rw [List.append_nil, cntL] at h
  unfold cntR
  rw [h]
  have : c / 1000000 * 1000000 ≤ 86399999999 := by omega
  simp [this]
theorem rL (c : Nat) (hc : c ≤ 86399999999) : cntR [3600000000, 60000000, 1000000, 1] (longT c) = some c := by
  have e : longT c = hmsL c ++ (46 :: padd (c % 1000000) 6) := by simp [longT]
  have h := hmsNums c hc (46 :: padd (c % 1000000) 6) (.inr ⟨46, _, rfl, by decide⟩) [1]
  have h4 := num_padd [46] [] (c % 1000000) 6 (by decide) (.inl rfl) (by rw [padd_len]; have := dd11 (n := c % 1000000) (by omega); omega)
  rw [List.append_nil] at h4
  unfold cntR
  rw [e, h, cntL, show (46 :: padd (c % 1000000) 6) = [46] ++ padd (c % 1000000) 6 from rfl, h4.1, if_pos ⟨by omega, by omega⟩, cntL]
  have e2 : c / 1000000 * 1000000 + ((c % 1000000 : Nat) : Int).toNat * 1 = c := by simp only [Int.toNat_natCast]; omega
  rw [e2]
  simp [hc]
end Tx
end Go.Proofs.YtmjifmlibgpjiaaGreatDoor
