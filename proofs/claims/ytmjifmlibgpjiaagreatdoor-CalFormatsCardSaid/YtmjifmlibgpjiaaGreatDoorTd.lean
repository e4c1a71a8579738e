/- Formats of dates, in the order of the days: plain lemmas. -/
import Derived.Test.YtmjifmlibgpjiaaGreatDoorDd
namespace Go.Proofs.YtmjifmlibgpjiaaGreatDoor
open Go.RowKit Go.Shelf Tx
namespace Tx
theorem bl_self : ∀ l : List UInt8, Op.bytesLess l l = false
  | [] => rfl
  | a :: l => by rw [Op.bytesLess, bl_self l]; simp
theorem bl_app : ∀ (a b x y : List UInt8), a.length = b.length → Op.bytesLess (a ++ x) (b ++ y) = (Op.bytesLess a b || (a == b && Op.bytesLess x y))
  | [], [], x, y, _ => by simp [Op.bytesLess]
  | [], _ :: _, _, _, h => by simp at h
  | _ :: _, [], _, _, h => by simp at h
  | p :: a, q :: b, x, y, h => by
    have ih := bl_app a b x y (by simpa using h)
    show Op.bytesLess (p :: (a ++ x)) (q :: (b ++ y)) = _
    rw [Op.bytesLess, Op.bytesLess, ih, show ((p :: a) == (q :: b)) = (p == q && a == b) from rfl]
    cases decide (p < q) <;> cases p == q <;> cases Op.bytesLess a b <;> cases a == b <;> rfl
theorem dgt_nat (n : Nat) : (dgt n).toNat = 48 + n % 10 := by unfold dgt; rw [UInt8.toNat_ofNat']; omega
theorem dgt_lt (a b : Nat) : decide (dgt a < dgt b) = decide (a % 10 < b % 10) := by
  rw [decide_eq_decide, UInt8.lt_iff_toNat_lt, dgt_nat, dgt_nat]; omega
theorem dgt_eq (a b : Nat) : (dgt a == dgt b) = decide (a % 10 = b % 10) := by
  rw [Bool.eq_iff_iff, beq_iff_eq, decide_eq_true_iff, ← UInt8.toNat_inj, dgt_nat, dgt_nat]; omega
theorem padd_wlen {n w : Nat} (h : n < 10 ^ (w + 1)) : (padd n (w + 1)).length = w + 1 := by rw [padd_len]; have := dd_len h; omega
theorem bl_padd : ∀ (w a b : Nat), a < 10 ^ (w + 1) → b < 10 ^ (w + 1) → Op.bytesLess (padd a (w + 1)) (padd b (w + 1)) = decide (a < b) ∧ (padd a (w + 1) == padd b (w + 1)) = decide (a = b)
  | 0, a, b, ha, hb => by
    have ha' : a < 10 := by simpa using ha
    have hb' : b < 10 := by simpa using hb
    rw [padd_one ha', padd_one hb']
    refine ⟨?_, ?_⟩
    · rw [Op.bytesLess, dgt_lt, Op.bytesLess, Nat.mod_eq_of_lt ha', Nat.mod_eq_of_lt hb']; simp
    · rw [show ([dgt a] == [dgt b]) = (dgt a == dgt b && ([] : List UInt8) == []) from rfl, dgt_eq, Nat.mod_eq_of_lt ha', Nat.mod_eq_of_lt hb']; simp
  | w + 1, a, b, ha, hb => by
    have ha' : a / 10 < 10 ^ (w + 1) := by rw [Nat.pow_succ] at ha; omega
    have hb' : b / 10 < 10 ^ (w + 1) := by rw [Nat.pow_succ] at hb; omega
    obtain ⟨i1, i2⟩ := bl_padd w (a / 10) (b / 10) ha' hb'
    rw [padd_succ a (w + 1) (by omega), padd_succ b (w + 1) (by omega)]
    have hl : (padd (a / 10) (w + 1)).length = (padd (b / 10) (w + 1)).length := by rw [padd_wlen ha', padd_wlen hb']
    refine ⟨?_, ?_⟩
    · rw [bl_app _ _ _ _ hl, i1, i2, Op.bytesLess, dgt_lt, Op.bytesLess]
      rw [Bool.eq_iff_iff]
      simp
      omega
    · rw [Bool.eq_iff_iff, beq_iff_eq, decide_eq_true_iff]
      constructor
      · intro h
        obtain ⟨h1, h2⟩ := List.append_inj h hl
        have q1 : a / 10 = b / 10 := by rw [← decide_eq_true_iff (p := a / 10 = b / 10), ← i2, beq_iff_eq]; exact h1
        have q2 : a % 10 = b % 10 := by
          have e : dgt a = dgt b := by simpa using h2
          have := congrArg UInt8.toNat e
          rw [dgt_nat, dgt_nat] at this; omega
        omega
      · intro h; rw [h]
theorem date_lt {n y m k n' y' m' k' : Nat} (h : IsDate n y m k) (h' : IsDate n' y' m' k') : n < n' ↔ (y < y' ∨ (y = y' ∧ (m < m' ∨ (m = m' ∧ k < k')))) := by
  have key : ∀ {n y m k n' y' m' k' : Nat}, IsDate n y m k → IsDate n' y' m' k' → (y < y' ∨ (y = y' ∧ (m < m' ∨ (m = m' ∧ k < k')))) → n < n' := by
    intro n y m k n' y' m' k' h h' q
    have e := h.eq
    have e' := h'.eq
    have k1 := h.k1
    have k1' := h'.k1
    have kd := h.kd
    rcases q with q | ⟨rfl, q | ⟨rfl, q⟩⟩
    · have a := h.isYear.hi
      have b := h'.isYear.lo
      have c := bef_mono (show y ≤ y' - 1 by omega)
      omega
    · have a := cum_succ y m h.m1 h.m12
      have b := cum_mono y (show 1 ≤ m + 1 by omega) (show m + 1 ≤ m' by omega) (by have := h'.m12; omega)
      omega
    · omega
  refine ⟨fun q => ?_, key h h'⟩
  by_cases c : y < y' ∨ (y = y' ∧ (m < m' ∨ (m = m' ∧ k < k')))
  · exact c
  · by_cases c2 : y' < y ∨ (y' = y ∧ (m' < m ∨ (m' = m ∧ k' < k)))
    · have := key h' h c2; omega
    · have a1 : y = y' := by omega
      have a2 : m = m' := by omega
      have a3 : k = k' := by omega
      subst a1 a2 a3
      have e := h.eq
      have e' := h'.eq
      omega
theorem longL_eq (sep : List UInt8) (y m k : Nat) : longL sep y m k = padd y 4 ++ (sep ++ (padd m 2 ++ (sep ++ padd k 2))) := by simp [longL, Lib.join]
theorem longL_lt (sep : List UInt8) {n y m k n' y' m' k' : Nat} (h : IsDate n y m k) (h' : IsDate n' y' m' k') (h9 : y ≤ 9999) (h9' : y' ≤ 9999) : Op.bytesLess (longL sep y m k) (longL sep y' m' k') = decide (n < n') := by
  have hk : k ≤ 31 := by have := (dim_pos y m).2; have := h.kd; omega
  have hk' : k' ≤ 31 := by have := (dim_pos y' m').2; have := h'.kd; omega
  have hm := h.m12
  have hm' := h'.m12
  obtain ⟨y1, y2⟩ := bl_padd 3 y y' (by omega) (by omega)
  obtain ⟨m1, m2⟩ := bl_padd 1 m m' (by omega) (by omega)
  obtain ⟨k1, k2⟩ := bl_padd 1 k k' (by omega) (by omega)
  have ly : (padd y 4).length = (padd y' 4).length := by rw [padd_wlen (w := 3) (by omega), padd_wlen (w := 3) (by omega)]
  have lm : (padd m 2).length = (padd m' 2).length := by rw [padd_wlen (w := 1) (by omega), padd_wlen (w := 1) (by omega)]
  rw [longL_eq, longL_eq, bl_app _ _ _ _ ly, bl_app sep sep _ _ rfl, bl_app _ _ _ _ lm, bl_app sep sep _ _ rfl, bl_self, y1, y2, m1, m2, k1]
  rw [Bool.eq_iff_iff]
  have hd := date_lt h h'
  simp only [Bool.or_eq_true, Bool.and_eq_true, decide_eq_true_iff, beq_self_eq_true, Bool.false_or, Bool.true_and, hd]
end Tx
end Go.Proofs.YtmjifmlibgpjiaaGreatDoor
