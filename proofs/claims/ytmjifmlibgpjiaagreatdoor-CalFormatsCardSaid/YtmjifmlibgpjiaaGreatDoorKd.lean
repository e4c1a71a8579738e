/- CalFormats, as a call. -/
import Derived.Test.YtmjifmlibgpjiaaGreatDoorHq
import Derived.Test.YtmjifmlibgpjiaaGreatDoorKa
import Derived.Test.YtmjifmlibgpjiaaGreatDoorDt
import Derived.Test.YtmjifmlibgpjiaaGreatDoorKc
namespace Go.Proofs.YtmjifmlibgpjiaaGreatDoor
open Go.Lib Tx
namespace Tx
/- Base dates. -/
theorem tB1 {l : List UInt8} {n y m k : Nat} (hd : IsDate n y m k) (h9 : y ≤ 9999) (h : dayIn (plainV l 7) = some n) : l = decDigits n ∧ dayIn (num1 l) = some n := by
  have hn := isDate_max hd h9
  rcases plain_cases l 7 with q | ⟨v, q, e, _⟩
  · rw [q] at h; cases h
  · rw [q] at h
    have ev : v = n := by
      unfold dayIn at h
      split at h
      · cases h; omega
      · cases h
    subst ev
    refine ⟨e, ?_⟩
    rw [e]
    exact dayIn_of hn (base_num v (by omega))
theorem tB2 {l : List UInt8} {n y m k : Nat} (hd : IsDate n y m k) (h9 : y ≤ 9999) (h : l = decDigits n) : dayIn (plainV l 7) = some n := by
  have hn := isDate_max hd h9
  rw [h]
  exact dayIn_of hn (plain_ddk (dd_len (k := 6) (by omega)) (by decide))
/-- The day of a number of a year. -/
def dayD (y0 : Nat) (v : Int) : Option Nat := if 1 ≤ v ∧ v ≤ (bef (y0 - 1 + 1) : Int) - (bef (y0 - 1) : Int) then some ((bef (y0 - 1) : Int) + v - 1).toNat else none
theorem bef_inj {p q : Nat} (h : bef p = bef q) : p = q := by
  rcases Nat.lt_trichotomy p q with a | a | a
  · have := bef_le (Nat.le_of_lt a); omega
  · exact a
  · have := bef_le (Nat.le_of_lt a); omega
theorem tD1 {l : List UInt8} {n0 y0 m0 k0 n y m k : Nat} (hd0 : IsDate n0 y0 m0 k0) (hd : IsDate n y m k) (h9 : y ≤ 9999) (h : dayD y0 (plainV l 7) = some n) : l = decDigits (n - bef (y - 1) + 1) ∧ dayIn ((bef (y0 - 1) : Int) - 1 + num1 l) = some n := by
  have hn := isDate_max hd h9
  have hy0 := hd0.y1
  rcases plain_cases l 7 with q | ⟨v, q, e, _⟩
  · rw [q] at h; unfold dayD at h; rw [if_neg (by omega)] at h; cases h
  · rw [q] at h
    unfold dayD at h
    split at h
    · rename_i c
      have ev : n = bef (y0 - 1) + v - 1 := by cases h; omega
      have hl := hd.isYear.lo
      have hh := hd.isYear.hi
      have hy1 := hd.y1
      have ey : y = y0 := by
        rcases Nat.lt_trichotomy y y0 with a | a | a
        · have := bef_mono (show y ≤ y0 - 1 by omega); omega
        · exact a
        · have := bef_mono (show y0 - 1 + 1 ≤ y - 1 by omega); omega
      subst ey
      have e2 : n - bef (y - 1) + 1 = v := by omega
      refine ⟨by rw [e2]; exact e, ?_⟩
      rw [e]
      exact dayIn_of hn (by rw [base_num v (by omega)]; omega)
    · cases h
theorem tD2 {l : List UInt8} {n0 y0 m0 k0 n y m k : Nat} (hd0 : IsDate n0 y0 m0 k0) (hd : IsDate n y m k) (h9 : y ≤ 9999) (hR : dayIn ((bef (y0 - 1) : Int) - 1 + num1 l) = some n) (h : l = decDigits (n - bef (y - 1) + 1)) : dayD y0 (plainV l 7) = some n := by
  have hn := isDate_max hd h9
  have hl := hd.isYear.lo
  have hh := hd.isYear.hi
  have hy1 := hd.y1
  have hy0 := hd0.y1
  rw [h, base_num _ (by omega)] at hR
  have eb : bef (y0 - 1) = bef (y - 1) := by
    unfold dayIn at hR
    split at hR
    · have := Option.some.inj hR; omega
    · cases hR
  have ey : y0 - 1 = y - 1 := bef_inj eb
  rw [h, plain_ddk (dd_len (k := 6) (by omega)) (by decide)]
  unfold dayD
  rw [ey, if_pos ⟨by omega, by rw [show y - 1 + 1 = y by omega]; omega⟩]
  congr 1
  omega
theorem calOf_to {A B C : Int} {n y m k : Nat} (hd : IsDate n y m k) (h : calOf A B C = some n) : A = (y : Int) ∧ B = (m : Int) ∧ C = (k : Int) := by
  obtain ⟨y', m', k', rfl, rfl, rfl, hd', _⟩ := calOf_is h
  obtain ⟨rfl, rfl, rfl⟩ := hd'.uniq hd
  exact ⟨rfl, rfl, rfl⟩
/- Three pairs of digits. -/
theorem thr_short (a b c : Nat) (ha : a < 100) (hb : b < 100) (hc : c < 100) : Thr (shortL a b c) ∧ digV ((shortL a b c).take 2) = (a : Int) ∧ digV (((shortL a b c).drop 3).take 2) = (b : Int) ∧ digV ((shortL a b c).drop 6) = (c : Int) := by
  have e1 := digV_p2 ha
  have e2 := digV_p2 hb
  have e3 := digV_p2 hc
  rw [shortL_eq]
  rw [padd_two ha] at e1 ⊢
  rw [padd_two hb] at e2 ⊢
  rw [padd_two hc] at e3 ⊢
  refine ⟨⟨rfl, rfl, rfl, ?_, ?_, ?_⟩, e1, e2, e3⟩
  · show 0 ≤ digV [dgt (a / 10), dgt a]; rw [e1]; omega
  · show 0 ≤ digV [dgt (b / 10), dgt b]; rw [e2]; omega
  · show 0 ≤ digV [dgt (c / 10), dgt c]; rw [e3]; omega
theorem dig_two {l : List UInt8} (h : 0 ≤ digV l) (hl : l.length = 2) : ∃ a : Nat, a < 100 ∧ digV l = (a : Int) ∧ l = padd a 2 := by
  obtain ⟨a, ha, da⟩ := digV_nat h
  refine ⟨a, ?_, ha, digits_padd 1 l a hl da⟩
  have := digV_hi2 l (by omega)
  omega
theorem thr_is {l : List UInt8} (h : Thr l) : ∃ a b c : Nat, a < 100 ∧ b < 100 ∧ c < 100 ∧ l = shortL a b c := by
  obtain ⟨x0, x1, x2, x3, x4, x5, x6, x7, rfl⟩ := eight h.len
  have g2 : x2 = 47 := by simpa using h.c2
  have g5 : x5 = 47 := by simpa using h.c5
  subst g2 g5
  obtain ⟨a, ha, _, ea⟩ := dig_two (l := [x0, x1]) h.a0 rfl
  obtain ⟨b, hb, _, eb⟩ := dig_two (l := [x3, x4]) h.b0 rfl
  obtain ⟨c, hc, _, ec⟩ := dig_two (l := [x6, x7]) h.z0 rfl
  refine ⟨a, b, c, ha, hb, hc, ?_⟩
  rw [shortL_eq, ← ea, ← eb, ← ec]
  rfl
theorem fyR_mod (y0 c : Nat) (hc : c < 100) (y : Nat) (h : fyR y0 (c : Int) = (y : Int)) : y % 100 = c := by
  obtain ⟨g, hg⟩ : ∃ g, g = y0 / 100 * 100 := ⟨_, rfl⟩
  unfold fyR at h
  rw [← hg] at h
  have hg3 : g % 100 = 0 := by omega
  clear hg
  split at h
  · omega
  · split at h <;> omega
open Classical in
noncomputable def thrE (y0 : Nat) (l : List UInt8) : Option Nat := if Thr l then calOf (fyR y0 (digV (l.drop 6))) (digV ((l.drop 3).take 2)) (digV (l.take 2)) else none
open Classical in
noncomputable def thrO (y0 : Nat) (l : List UInt8) : Option Nat := if Thr l then calOf (fyR y0 (digV (l.take 2))) (digV ((l.drop 3).take 2)) (digV (l.drop 6)) else none
open Classical in
noncomputable def thrU (y0 : Nat) (l : List UInt8) : Option Nat := if Thr l then calOf (fyR y0 (digV (l.drop 6))) (digV (l.take 2)) (digV ((l.drop 3).take 2)) else none
theorem thrE_short (y0 a b c : Nat) (ha : a < 100) (hb : b < 100) (hc : c < 100) : thrE y0 (shortL a b c) = calOf (fyR y0 (c : Int)) (b : Int) (a : Int) := by
  obtain ⟨h, e1, e2, e3⟩ := thr_short a b c ha hb hc
  unfold thrE; rw [if_pos h, e1, e2, e3]
theorem thrO_short (y0 a b c : Nat) (ha : a < 100) (hb : b < 100) (hc : c < 100) : thrO y0 (shortL a b c) = calOf (fyR y0 (a : Int)) (b : Int) (c : Int) := by
  obtain ⟨h, e1, e2, e3⟩ := thr_short a b c ha hb hc
  unfold thrO; rw [if_pos h, e1, e2, e3]
theorem thrU_short (y0 a b c : Nat) (ha : a < 100) (hb : b < 100) (hc : c < 100) : thrU y0 (shortL a b c) = calOf (fyR y0 (c : Int)) (a : Int) (b : Int) := by
  obtain ⟨h, e1, e2, e3⟩ := thr_short a b c ha hb hc
  unfold thrU; rw [if_pos h, e1, e2, e3]
theorem tE1 {l : List UInt8} {y0 n y m k : Nat} (hd : IsDate n y m k) (h9 : y ≤ 9999) (h : thrE y0 l = some n) : l = shortL (k % 100) (m % 100) (y % 100) ∧ calOf (fyR y0 (num3 l)) (num2 l) (num1 l) = some n := by
  have h12 := hd.m12
  have h31 := day31 hd
  by_cases ht : Thr l
  · obtain ⟨a, b, c, ha, hb, hc, rfl⟩ := thr_is ht
    rw [thrE_short y0 a b c ha hb hc] at h
    obtain ⟨q1, q2, q3⟩ := calOf_to hd h
    have qy := fyR_mod y0 c hc y q1
    obtain ⟨e1, e2, e3⟩ := short_nums a b c ha hb hc
    refine ⟨?_, by rw [e1, e2, e3]; exact h⟩
    rw [qy, show m % 100 = b by omega, show k % 100 = a by omega]
  · unfold thrE at h
    rw [if_neg ht] at h
    cases h
theorem tE2 {l : List UInt8} {y0 n y m k : Nat} (hR : calOf (fyR y0 (num3 l)) (num2 l) (num1 l) = some n) (h : l = shortL (k % 100) (m % 100) (y % 100)) : thrE y0 l = some n := by
  have x1 : k % 100 < 100 := Nat.mod_lt _ (by decide)
  have x2 : m % 100 < 100 := Nat.mod_lt _ (by decide)
  have x3 : y % 100 < 100 := Nat.mod_lt _ (by decide)
  obtain ⟨e1, e2, e3⟩ := short_nums (k % 100) (m % 100) (y % 100) x1 x2 x3
  rw [h, e1, e2, e3] at hR
  rw [h, thrE_short y0 _ _ _ x1 x2 x3]
  exact hR
theorem tO1 {l : List UInt8} {y0 n y m k : Nat} (hd : IsDate n y m k) (h9 : y ≤ 9999) (h : thrO y0 l = some n) : l = shortL (y % 100) (m % 100) (k % 100) ∧ calOf (fyR y0 (num1 l)) (num2 l) (num3 l) = some n := by
  have h12 := hd.m12
  have h31 := day31 hd
  by_cases ht : Thr l
  · obtain ⟨a, b, c, ha, hb, hc, rfl⟩ := thr_is ht
    rw [thrO_short y0 a b c ha hb hc] at h
    obtain ⟨q1, q2, q3⟩ := calOf_to hd h
    have qy := fyR_mod y0 a ha y q1
    obtain ⟨e1, e2, e3⟩ := short_nums a b c ha hb hc
    refine ⟨?_, by rw [e1, e2, e3]; exact h⟩
    rw [qy, show m % 100 = b by omega, show k % 100 = c by omega]
  · unfold thrO at h
    rw [if_neg ht] at h
    cases h
theorem tO2 {l : List UInt8} {y0 n y m k : Nat} (hR : calOf (fyR y0 (num1 l)) (num2 l) (num3 l) = some n) (h : l = shortL (y % 100) (m % 100) (k % 100)) : thrO y0 l = some n := by
  have x1 : y % 100 < 100 := Nat.mod_lt _ (by decide)
  have x2 : m % 100 < 100 := Nat.mod_lt _ (by decide)
  have x3 : k % 100 < 100 := Nat.mod_lt _ (by decide)
  obtain ⟨e1, e2, e3⟩ := short_nums (y % 100) (m % 100) (k % 100) x1 x2 x3
  rw [h, e1, e2, e3] at hR
  rw [h, thrO_short y0 _ _ _ x1 x2 x3]
  exact hR
theorem tU1 {l : List UInt8} {y0 n y m k : Nat} (hd : IsDate n y m k) (h9 : y ≤ 9999) (h : thrU y0 l = some n) : l = shortL (m % 100) (k % 100) (y % 100) ∧ calOf (fyR y0 (num3 l)) (num1 l) (num2 l) = some n := by
  have h12 := hd.m12
  have h31 := day31 hd
  by_cases ht : Thr l
  · obtain ⟨a, b, c, ha, hb, hc, rfl⟩ := thr_is ht
    rw [thrU_short y0 a b c ha hb hc] at h
    obtain ⟨q1, q2, q3⟩ := calOf_to hd h
    have qy := fyR_mod y0 c hc y q1
    obtain ⟨e1, e2, e3⟩ := short_nums a b c ha hb hc
    refine ⟨?_, by rw [e1, e2, e3]; exact h⟩
    rw [qy, show m % 100 = a by omega, show k % 100 = b by omega]
  · unfold thrU at h
    rw [if_neg ht] at h
    cases h
theorem tU2 {l : List UInt8} {y0 n y m k : Nat} (hR : calOf (fyR y0 (num3 l)) (num1 l) (num2 l) = some n) (h : l = shortL (m % 100) (k % 100) (y % 100)) : thrU y0 l = some n := by
  have x1 : m % 100 < 100 := Nat.mod_lt _ (by decide)
  have x2 : k % 100 < 100 := Nat.mod_lt _ (by decide)
  have x3 : y % 100 < 100 := Nat.mod_lt _ (by decide)
  obtain ⟨e1, e2, e3⟩ := short_nums (m % 100) (k % 100) (y % 100) x1 x2 x3
  rw [h, e1, e2, e3] at hR
  rw [h, thrU_short y0 _ _ _ x1 x2 x3]
  exact hR
/- Dates with four digits of the year. -/
open Classical in
noncomputable def isoV (l : List UInt8) : Option Nat := if l.length = 10 ∧ l[4]? = some 45 ∧ l[7]? = some 45 then calOf (digV (l.take 4)) (digV ((l.drop 5).take 2)) (digV (l.drop 8)) else none
open Classical in
noncomputable def stdV (l : List UInt8) : Option Nat := if l.length = 8 then calOf (digV (l.take 4)) (digV ((l.drop 4).take 2)) (digV (l.drop 6)) else none
theorem ten {l : List UInt8} (h : l.length = 10) : ∃ a b c d e f g i j k, l = [a, b, c, d, e, f, g, i, j, k] := by
  match l, h with
  | [a, b, c, d, e, f, g, i, j, k], _ => exact ⟨a, b, c, d, e, f, g, i, j, k, rfl⟩
theorem digV_p4 {v : Nat} (h : v < 10000) : digV (padd v 4) = (v : Int) := digV_pd (by rw [padd_four h]; simp)
theorem tI1 {l : List UInt8} {n y m k : Nat} (hd : IsDate n y m k) (h9 : y ≤ 9999) (h : isoV l = some n) : l = longL [45] y m k ∧ calOf (num1 l) (num2 l) (num3 l) = some n := by
  have h12 := hd.m12
  have h31 := day31 hd
  unfold isoV at h
  split at h
  · rename_i c
    obtain ⟨hl, c4, c7⟩ := c
    obtain ⟨x0, x1, x2, x3, x4, x5, x6, x7, x8, x9, rfl⟩ := ten hl
    have g4 : x4 = 45 := by simpa using c4
    have g7 : x7 = 45 := by simpa using c7
    subst g4 g7
    obtain ⟨q1, q2, q3⟩ := calOf_to hd h
    have e1 : [x0, x1, x2, x3] = padd y 4 := by
      obtain ⟨v, hv, dv⟩ := digV_nat (l := [x0, x1, x2, x3]) (by have q1' : digV [x0, x1, x2, x3] = (y : Int) := q1; omega)
      have q1' : digV [x0, x1, x2, x3] = (y : Int) := q1
      have e : v = y := by omega
      rw [← e]; exact digits_padd 3 _ v rfl dv
    have e2 : [x5, x6] = padd m 2 := by
      obtain ⟨v, hv, dv⟩ := digV_nat (l := [x5, x6]) (by have q' : digV [x5, x6] = (m : Int) := q2; omega)
      have q' : digV [x5, x6] = (m : Int) := q2
      have e : v = m := by omega
      rw [← e]; exact digits_padd 1 _ v rfl dv
    have e3 : [x8, x9] = padd k 2 := by
      obtain ⟨v, hv, dv⟩ := digV_nat (l := [x8, x9]) (by have q' : digV [x8, x9] = (k : Int) := q3; omega)
      have q' : digV [x8, x9] = (k : Int) := q3
      have e : v = k := by omega
      rw [← e]; exact digits_padd 1 _ v rfl dv
    have el : [x0, x1, x2, x3, 45, x5, x6, 45, x8, x9] = longL [45] y m k := by rw [longL_eq, ← e1, ← e2, ← e3]; rfl
    refine ⟨el, ?_⟩
    rw [el]
    exact find_I 0 n y m k hd h9
  · cases h
theorem tI2 {l : List UInt8} {n y m k : Nat} (hd : IsDate n y m k) (h9 : y ≤ 9999) (h : l = longL [45] y m k) : isoV l = some n := by
  have h12 := hd.m12
  have h31 := day31 hd
  have e1 := digV_p4 (v := y) (by omega)
  have e2 := digV_p2 (v := m) (by omega)
  have e3 := digV_p2 (v := k) (by omega)
  rw [h, longL_eq]
  rw [padd_four (n := y) (by omega)] at e1 ⊢
  rw [padd_two (n := m) (by omega)] at e2 ⊢
  rw [padd_two (n := k) (by omega)] at e3 ⊢
  unfold isoV
  rw [if_pos ⟨rfl, rfl, rfl⟩]
  show calOf (digV [dgt (y / 1000), dgt (y / 100), dgt (y / 10), dgt y]) (digV [dgt (m / 10), dgt m]) (digV [dgt (k / 10), dgt k]) = _
  rw [e1, e2, e3]
  exact calOf_some (isCal_of hd h9)
theorem tS1 {l : List UInt8} {n y m k : Nat} (hd : IsDate n y m k) (h9 : y ≤ 9999) (h : stdV l = some n) : l = longL [] y m k ∧ calOf ((num1 l).tdiv 10000) (((num1 l).tdiv 100).tmod 100) ((num1 l).tmod 100) = some n := by
  have h12 := hd.m12
  have h31 := day31 hd
  unfold stdV at h
  split at h
  · rename_i hl
    obtain ⟨x0, x1, x2, x3, x5, x6, x8, x9, rfl⟩ := eight hl
    obtain ⟨q1, q2, q3⟩ := calOf_to hd h
    have e1 : [x0, x1, x2, x3] = padd y 4 := by
      obtain ⟨v, hv, dv⟩ := digV_nat (l := [x0, x1, x2, x3]) (by have q1' : digV [x0, x1, x2, x3] = (y : Int) := q1; omega)
      have q1' : digV [x0, x1, x2, x3] = (y : Int) := q1
      have e : v = y := by omega
      rw [← e]; exact digits_padd 3 _ v rfl dv
    have e2 : [x5, x6] = padd m 2 := by
      obtain ⟨v, hv, dv⟩ := digV_nat (l := [x5, x6]) (by have q' : digV [x5, x6] = (m : Int) := q2; omega)
      have q' : digV [x5, x6] = (m : Int) := q2
      have e : v = m := by omega
      rw [← e]; exact digits_padd 1 _ v rfl dv
    have e3 : [x8, x9] = padd k 2 := by
      obtain ⟨v, hv, dv⟩ := digV_nat (l := [x8, x9]) (by have q' : digV [x8, x9] = (k : Int) := q3; omega)
      have q' : digV [x8, x9] = (k : Int) := q3
      have e : v = k := by omega
      rw [← e]; exact digits_padd 1 _ v rfl dv
    have el : [x0, x1, x2, x3, x5, x6, x8, x9] = longL [] y m k := by rw [longL_eq, ← e1, ← e2, ← e3]; rfl
    refine ⟨el, ?_⟩
    rw [el]
    exact find_S 0 n y m k hd h9
  · cases h
theorem tS2 {l : List UInt8} {n y m k : Nat} (hd : IsDate n y m k) (h9 : y ≤ 9999) (h : l = longL [] y m k) : stdV l = some n := by
  have h12 := hd.m12
  have h31 := day31 hd
  have e1 := digV_p4 (v := y) (by omega)
  have e2 := digV_p2 (v := m) (by omega)
  have e3 := digV_p2 (v := k) (by omega)
  rw [h, longL_eq]
  rw [padd_four (n := y) (by omega)] at e1 ⊢
  rw [padd_two (n := m) (by omega)] at e2 ⊢
  rw [padd_two (n := k) (by omega)] at e3 ⊢
  unfold stdV
  refine (if_pos rfl).trans ?_
  show calOf (digV [dgt (y / 1000), dgt (y / 100), dgt (y / 10), dgt y]) (digV [dgt (m / 10), dgt m]) (digV [dgt (k / 10), dgt k]) = _
  rw [e1, e2, e3]
  exact calOf_some (isCal_of hd h9)
/- The name of a month. -/
theorem numFrom_is (l : List UInt8) (q : Nat) (h0 : 1 ≤ q) : ∀ k m, numFrom l k m = q → (monN q).take 3 = l ∧ m ≤ q
  | 0, m, h => by unfold numFrom at h; omega
  | k + 1, m, h => by
    unfold numFrom at h
    split at h
    · rename_i e; subst h; exact ⟨e, Nat.le_refl _⟩
    · obtain ⟨a, b⟩ := numFrom_is l q h0 k (m + 1) h
      exact ⟨a, by omega⟩
theorem monN_inj : ∀ j, j < 13 → ∀ q, q < 13 → 1 ≤ j → 1 ≤ q → (monN j).take 3 = (monN q).take 3 → j = q := by decide
theorem numFrom_at (q : Nat) (hq : 1 ≤ q) (h12 : q ≤ 12) : ∀ k m, m ≤ q → q < m + k → 1 ≤ m → numFrom ((monN q).take 3) k m = q
  | 0, m, h1, h2, _ => by omega
  | k + 1, m, h1, h2, h3 => by
    unfold numFrom
    by_cases e : m = q
    · subst e
      rw [if_pos rfl]
    · rw [if_neg (fun c => e (monN_inj m (by omega) q (by omega) h3 hq c))]
      exact numFrom_at q hq h12 k (m + 1) (by omega) (by omega) (by omega)
theorem split_norm (k : Nat) (l : List UInt8) (hl : l.length = k + 9) (h1 : l[k]? = some 32) (h2 : l[k + 4]? = some 32) : l = l.take k ++ ([32] ++ ((l.drop (k + 1)).take 3 ++ ([32] ++ l.drop (k + 5)))) := by
  obtain ⟨hh, ek⟩ := List.getElem?_eq_some_iff.1 h1
  obtain ⟨hh2, ek2⟩ := List.getElem?_eq_some_iff.1 h2
  have e1 : l.drop k = 32 :: l.drop (k + 1) := by rw [List.drop_eq_getElem_cons hh, ek]
  have e3 : l.drop (k + 4) = 32 :: l.drop (k + 5) := by rw [List.drop_eq_getElem_cons hh2, ek2]
  have e2 : (l.drop (k + 1)).take 3 ++ l.drop (k + 4) = l.drop (k + 1) := by
    have e := List.take_append_drop 3 (l.drop (k + 1))
    rw [List.drop_drop] at e
    exact e
  have e4 : [32] ++ l.drop (k + 5) = l.drop (k + 4) := e3.symm
  rw [e4, e2]
  have e5 : [32] ++ l.drop (k + 1) = l.drop k := e1.symm
  rw [e5, List.take_append_drop]
theorem namK_is {q : Nat} {l : List UInt8} {n y m k : Nat} (hl : l.length = q + 9) (hd : IsDate n y m k) (h : namK q l = some n) : l = normL y m k := by
  unfold namK at h
  split at h
  · rename_i c
    obtain ⟨q1, q2, q3⟩ := calOf_to hd h
    have es := split_norm q l hl c.1 c.2
    have l4 : (l.drop (q + 5)).length = 4 := by rw [List.length_drop]; omega
    have ey : l.drop (q + 5) = padd y 4 := by
      obtain ⟨v, hv, dv⟩ := digV_nat (l := l.drop (q + 5)) (by omega)
      have e : v = y := by omega
      rw [← e]; exact digits_padd 3 _ v l4 dv
    have em : (l.drop (q + 1)).take 3 = (monN m).take 3 := by
      have e : numM ((l.drop (q + 1)).take 3) = m := by omega
      exact ((numFrom_is _ m hd.m1 12 1 e).1).symm
    have ek : l.take q = decDigits k := by
      rcases plain_cases (l.take q) 2 with a | ⟨v, a, e, _⟩
      · omega
      · have ev : v = k := by omega
        rw [← ev]; exact e
    rw [es, ey, em, ek]
    unfold normL
    simp
  · cases h
theorem namK_of {q : Nat} {n y m k : Nat} (hq : (decDigits k).length = q) (hq2 : q ≤ 2) (hd : IsDate n y m k) (h9 : y ≤ 9999) : (normL y m k).length = q + 9 ∧ namK q (normL y m k) = some n := by
  have h12 := hd.m12
  have h1 := hd.m1
  have l3 : ((monN m).take 3).length = 3 := by rw [List.length_take]; have := monN_len m h1 h12; omega
  have l4 : (padd y 4).length = 4 := padd_wlen (w := 3) (by omega)
  have e : normL y m k = decDigits k ++ ([32] ++ ((monN m).take 3 ++ ([32] ++ padd y 4))) := by unfold normL; simp
  have d1 : (normL y m k).take q = decDigits k := by rw [e, ← hq, List.take_left]
  have dq : (normL y m k).drop q = [32] ++ ((monN m).take 3 ++ ([32] ++ padd y 4)) := by rw [e, ← hq, List.drop_left]
  have d2 : (normL y m k).drop (q + 1) = (monN m).take 3 ++ ([32] ++ padd y 4) := by rw [← List.drop_drop, dq]; rfl
  have d3 : ((normL y m k).drop (q + 1)).take 3 = (monN m).take 3 := by
    rw [d2, List.take_append_of_le_length (by omega), List.take_of_length_le (by omega)]
  have d4 : (normL y m k).drop (q + 4) = [32] ++ padd y 4 := by
    rw [show q + 4 = q + 1 + 3 from rfl, ← List.drop_drop, d2, List.drop_append_of_le_length (by omega), List.drop_of_length_le (by omega), List.nil_append]
  have d5 : (normL y m k).drop (q + 5) = padd y 4 := by
    rw [show q + 5 = q + 4 + 1 from rfl, ← List.drop_drop, d4]; rfl
  have hlen : (normL y m k).length = q + 9 := by rw [e]; simp only [List.length_append, List.length_cons, List.length_nil, l3, l4, hq]
  have g1 : (normL y m k)[q]? = some 32 := by
    have := congrArg (fun z => z[0]?) dq
    simpa using this
  have g2 : (normL y m k)[q + 4]? = some 32 := by
    have := congrArg (fun z => z[0]?) d4
    simpa using this
  refine ⟨hlen, ?_⟩
  unfold namK
  rw [if_pos ⟨g1, g2⟩, d5, d3, d1, digV_p4 (by omega), show numM ((monN m).take 3) = m from numFrom_at m h1 h12 12 1 h1 (by omega) (by omega), plain_ddk (by omega) (by decide)]
  exact calOf_some (isCal_of hd h9)
theorem tN1 {l : List UInt8} {n y m k : Nat} (hd : IsDate n y m k) (h9 : y ≤ 9999) (h : namV l = some n) : l = normL y m k ∧ calOf (num2 l) (1 + monV l) (num1 l) = some n := by
  have el : l = normL y m k := by
    unfold namV at h
    split at h
    · rename_i q; exact namK_is (q := 1) q hd h
    · split at h
      · rename_i q; exact namK_is (q := 2) q hd h
      · cases h
  refine ⟨el, ?_⟩
  rw [el]
  exact find_N 0 n y m k hd h9
theorem tN2 {l : List UInt8} {n y m k : Nat} (hd : IsDate n y m k) (h9 : y ≤ 9999) (h : l = normL y m k) : namV l = some n := by
  have h31 := day31 hd
  rw [h]
  by_cases h10 : k < 10
  · obtain ⟨a, b⟩ := namK_of (q := 1) (by rw [dd_small h10]; rfl) (by decide) hd h9
    unfold namV
    rw [if_pos a]
    exact b
  · obtain ⟨a, b⟩ := namK_of (q := 2) (by rw [dd_big h10, dd_small (by omega)]; rfl) (by decide) hd h9
    unfold namV
    rw [if_neg (by omega), if_pos a]
    exact b
end Tx
end Go.Proofs.YtmjifmlibgpjiaaGreatDoor
namespace Go.Proofs.YtmjifmlibgpjiaaGreatDoor
open Go.RowKit Go.Shelf Tx Go.Maps
set_option linter.unusedVariables false
set_option maxRecDepth 100000

/-- A text and an error. -/
def GivesSY (w : World) (l : List UInt8) (x : Int) (e : Ending) (w' : World) : Prop := ∃ t : ByteArray, e = .returned (.tuple #[.string t, .int .i64 x]) ∧ Hid (bts t = l) ∧ Below w.heap.size w w'
theorem gsy {P : Program} {f : Nat} {args : Array Value} {W : World} {l : List UInt8} (h : Calls P f args W (GivesSE W l)) : Calls P f args W (GivesSY W l 0) := h.mono fun _ _ q => q
theorem gsy1 {P : Program} {f : Nat} {args : Array Value} {W : World} (h : Calls P f args W (Gives W #[.string ⟨#[]⟩, .int .i64 1])) : Calls P f args W (GivesSY W [] 1) := h.mono fun _ _ q => ⟨_, q.1, Lib.hid rfl, q.2⟩
/-- ReadDay gives what the reference gives. -/
def Both (X n0 : Int) (s : ByteArray) : Prop := ∃ v g : Int, (∀ W, Env W → HasMax W → Calls Tryz.prog 30 #[.string s, .int .u8 X, .int .i64 n0] W (Gives W #[.int .i64 v, .int .i64 g])) ∧ (∀ W, Calls Tryz.prog 31 #[.string s, .int .u8 X, .int .i64 n0] W (GivesA W #[.int .i64 v, .int .i64 g]))
theorem both_of (X n0 : Int) (s : ByteArray) (R Q : Option Nat) (f : Nat → Nat → Nat → Nat → List UInt8) (hR9 : ∀ n, R = some n → n ≤ 3652058) (hQ9 : ∀ n, Q = some n → n ≤ 3652058)
    (K0 : R = none → ∀ W, Env W → HasMax W → Calls Tryz.prog 30 #[.string s, .int .u8 X, .int .i64 n0] W (Gives W #[.int .i64 0, .int .i64 2]))
    (K1 : ∀ n y m k, IsDate n y m k → y ≤ 9999 → R = some n → bts s = f n y m k → ∀ W, Env W → HasMax W → Calls Tryz.prog 30 #[.string s, .int .u8 X, .int .i64 n0] W (Gives W #[.int .i64 (n : Int), .int .i64 0]))
    (K2 : ∀ n y m k, IsDate n y m k → y ≤ 9999 → R = some n → ¬ bts s = f n y m k → ∀ W, Env W → HasMax W → Calls Tryz.prog 30 #[.string s, .int .u8 X, .int .i64 n0] W (Gives W #[.int .i64 0, .int .i64 2]))
    (KQ : ∀ W, Calls Tryz.prog 31 #[.string s, .int .u8 X, .int .i64 n0] W (GivesA W #[.int .i64 (dayV Q).1, .int .i64 (dayV Q).2]))
    (T1 : ∀ n y m k, IsDate n y m k → y ≤ 9999 → Q = some n → bts s = f n y m k ∧ R = some n)
    (T2 : ∀ n y m k, IsDate n y m k → y ≤ 9999 → R = some n → bts s = f n y m k → Q = some n) : Both X n0 s := by
  cases hQ : Q with
  | some n =>
    obtain ⟨y, m, k, hd⟩ := isDate_ex n
    have h9 : y ≤ 9999 := hd.isYear.le (hQ9 n hQ)
    obtain ⟨a, b⟩ := T1 n y m k hd h9 hQ
    refine ⟨(n : Int), 0, fun W h1 h2 => K1 n y m k hd h9 b a W h1 h2, fun W => ?_⟩
    have h := KQ W
    rw [hQ] at h
    exact h
  | none =>
    have KN : ∀ W, Calls Tryz.prog 31 #[.string s, .int .u8 X, .int .i64 n0] W (GivesA W #[.int .i64 0, .int .i64 2]) := fun W => by
      have h := KQ W
      rw [hQ] at h
      exact h
    cases hR : R with
    | none => exact ⟨0, 2, fun W h1 h2 => K0 hR W h1 h2, KN⟩
    | some n =>
      obtain ⟨y, m, k, hd⟩ := isDate_ex n
      have h9 : y ≤ 9999 := hd.isYear.le (hR9 n hR)
      by_cases hf : bts s = f n y m k
      · have := T2 n y m k hd h9 hR hf
        rw [hQ] at this
        cases this
      · exact ⟨0, 2, fun W h1 h2 => K2 n y m k hd h9 hR hf W h1 h2, KN⟩
theorem KQ_B (s : ByteArray) (n0 y0 m0 k0 : Nat) (w : World) (hd0 : IsDate n0 y0 m0 k0) (h90 : y0 ≤ 9999) (hs : s.size ≤ 1000000) : Calls Tryz.prog 31 #[.string s, .int .u8 66, .int .i64 (n0 : Int)] w (GivesA w #[.int .i64 (dayV (dayIn (plainV (bts s) 7))).1, .int .i64 (dayV (dayIn (plainV (bts s) 7))).2]) := by
  by_cases h : 0 ≤ plainV (bts s) 7 ∧ plainV (bts s) 7 ≤ 3652058
  · have e : dayV (dayIn (plainV (bts s) 7)) = (plainV (bts s) 7, 0) := by
      unfold dayIn
      rw [if_pos h]
      show ((((plainV (bts s) 7).toNat : Nat) : Int), (0 : Int)) = _
      rw [Int.toNat_of_nonneg h.1]
    rw [e]
    exact RReadDay_B_ok s n0 y0 m0 k0 w hd0 h90 h
  · have e : dayV (dayIn (plainV (bts s) 7)) = (0, 2) := by
      unfold dayIn
      rw [if_neg h]
      rfl
    rw [e]
    exact RReadDay_B_no s n0 y0 m0 k0 w hd0 h90 h
theorem KQ_D (s : ByteArray) (n0 y0 m0 k0 : Nat) (w : World) (hd0 : IsDate n0 y0 m0 k0) (h90 : y0 ≤ 9999) (hs : s.size ≤ 1000000) : Calls Tryz.prog 31 #[.string s, .int .u8 68, .int .i64 (n0 : Int)] w (GivesA w #[.int .i64 (dayV (dayD y0 (plainV (bts s) 7))).1, .int .i64 (dayV (dayD y0 (plainV (bts s) 7))).2]) := by
  by_cases h : 1 ≤ plainV (bts s) 7 ∧ plainV (bts s) 7 ≤ (bef (y0 - 1 + 1) : Int) - (bef (y0 - 1) : Int)
  · have e : dayV (dayD y0 (plainV (bts s) 7)) = ((bef (y0 - 1) : Int) + plainV (bts s) 7 - 1, 0) := by
      unfold dayD
      rw [if_pos h]
      show ((((bef (y0 - 1) : Int) + plainV (bts s) 7 - 1).toNat : Int), (0 : Int)) = _
      rw [Int.toNat_of_nonneg (by omega)]
    rw [e]
    exact RReadDay_D_ok s n0 y0 m0 k0 w hd0 h90 h
  · have e : dayV (dayD y0 (plainV (bts s) 7)) = (0, 2) := by
      unfold dayD
      rw [if_neg h]
      rfl
    rw [e]
    by_cases h1 : plainV (bts s) 7 < 1
    · exact RReadDay_D_no1 s n0 y0 m0 k0 w hd0 h90 h1
    · exact RReadDay_D_no2 s n0 y0 m0 k0 w hd0 h90 ⟨h1, by omega⟩
theorem KQ_E (s : ByteArray) (n0 y0 m0 k0 : Nat) (w : World) (hd0 : IsDate n0 y0 m0 k0) (h90 : y0 ≤ 9999) (hs : s.size ≤ 1000000) : Calls Tryz.prog 31 #[.string s, .int .u8 69, .int .i64 (n0 : Int)] w (GivesA w #[.int .i64 (dayV (thrE y0 (bts s))).1, .int .i64 (dayV (thrE y0 (bts s))).2]) := by
  by_cases h : Thr (bts s)
  · unfold thrE
    rw [if_pos h]
    exact RReadDay_E_yes s n0 y0 m0 k0 w hd0 h90 h
  · unfold thrE
    rw [if_neg h]
    exact RReadDay_E_no s n0 y0 m0 k0 w hd0 h90 h
theorem KQ_O (s : ByteArray) (n0 y0 m0 k0 : Nat) (w : World) (hd0 : IsDate n0 y0 m0 k0) (h90 : y0 ≤ 9999) (hs : s.size ≤ 1000000) : Calls Tryz.prog 31 #[.string s, .int .u8 79, .int .i64 (n0 : Int)] w (GivesA w #[.int .i64 (dayV (thrO y0 (bts s))).1, .int .i64 (dayV (thrO y0 (bts s))).2]) := by
  by_cases h : Thr (bts s)
  · unfold thrO
    rw [if_pos h]
    exact RReadDay_O_yes s n0 y0 m0 k0 w hd0 h90 h
  · unfold thrO
    rw [if_neg h]
    exact RReadDay_O_no s n0 y0 m0 k0 w hd0 h90 h
theorem KQ_U (s : ByteArray) (n0 y0 m0 k0 : Nat) (w : World) (hd0 : IsDate n0 y0 m0 k0) (h90 : y0 ≤ 9999) (hs : s.size ≤ 1000000) : Calls Tryz.prog 31 #[.string s, .int .u8 85, .int .i64 (n0 : Int)] w (GivesA w #[.int .i64 (dayV (thrU y0 (bts s))).1, .int .i64 (dayV (thrU y0 (bts s))).2]) := by
  by_cases h : Thr (bts s)
  · unfold thrU
    rw [if_pos h]
    exact RReadDay_U_yes s n0 y0 m0 k0 w hd0 h90 h
  · unfold thrU
    rw [if_neg h]
    exact RReadDay_U_no s n0 y0 m0 k0 w hd0 h90 h
theorem KQ_I (s : ByteArray) (n0 y0 m0 k0 : Nat) (w : World) (hd0 : IsDate n0 y0 m0 k0) (h90 : y0 ≤ 9999) (hs : s.size ≤ 1000000) : Calls Tryz.prog 31 #[.string s, .int .u8 73, .int .i64 (n0 : Int)] w (GivesA w #[.int .i64 (dayV (isoV (bts s))).1, .int .i64 (dayV (isoV (bts s))).2]) := by
  have hl := bts_length s
  unfold isoV
  by_cases h8 : s.size = 10
  · by_cases c4 : (bts s)[4]? = some 45
    · by_cases c7 : (bts s)[7]? = some 45
      · rw [if_pos ⟨by omega, c4, c7⟩]
        exact RReadDay_I_yes s n0 y0 m0 k0 w hd0 h90 h8 c4 c7
      · rw [if_neg (fun q => c7 q.2.2)]
        exact RReadDay_I_no2 s n0 y0 m0 k0 w hd0 h90 h8 c4 c7
    · rw [if_neg (fun q => c4 q.2.1)]
      exact RReadDay_I_no1 s n0 y0 m0 k0 w hd0 h90 h8 c4
  · rw [if_neg (fun q => h8 (by omega))]
    exact RReadDay_I_no0 s n0 y0 m0 k0 w hd0 h90 h8
theorem KQ_S (s : ByteArray) (n0 y0 m0 k0 : Nat) (w : World) (hd0 : IsDate n0 y0 m0 k0) (h90 : y0 ≤ 9999) (hs : s.size ≤ 1000000) : Calls Tryz.prog 31 #[.string s, .int .u8 83, .int .i64 (n0 : Int)] w (GivesA w #[.int .i64 (dayV (stdV (bts s))).1, .int .i64 (dayV (stdV (bts s))).2]) := by
  have hl := bts_length s
  unfold stdV
  by_cases h8 : s.size = 8
  · rw [if_pos (by omega)]
    exact RReadDay_S_yes s n0 y0 m0 k0 w hd0 h90 h8
  · rw [if_neg (by omega)]
    exact RReadDay_S_no0 s n0 y0 m0 k0 w hd0 h90 h8
theorem KQ_N (s : ByteArray) (n0 y0 m0 k0 : Nat) (w : World) (hd0 : IsDate n0 y0 m0 k0) (h90 : y0 ≤ 9999) (hs : s.size ≤ 1000000) : Calls Tryz.prog 31 #[.string s, .int .u8 78, .int .i64 (n0 : Int)] w (GivesA w #[.int .i64 (dayV (namV (bts s))).1, .int .i64 (dayV (namV (bts s))).2]) := by
  exact RReadDay_N s n0 y0 m0 k0 w hd0 h90 hs
theorem dayD_le {y0 n : Nat} {v : Int} (h1 : 1 ≤ y0) (h9 : y0 ≤ 9999) (h : dayD y0 v = some n) : n ≤ 3652058 := by
  unfold dayD at h
  split at h
  · have := bef_mono (show y0 - 1 + 1 ≤ 9999 by omega)
    have e : bef 9999 = 3652059 := by decide
    have := Option.some.inj h
    omega
  · cases h
theorem iteN {p : Prop} {i : Decidable p} {a : Option Nat} {n : Nat} (h : (@ite _ p i a none) = some n) : a = some n := by
  by_cases q : p
  · rw [if_pos q] at h; exact h
  · rw [if_neg q] at h; cases h
theorem namV_le {l : List UInt8} {n : Nat} (h : namV l = some n) : n ≤ 3652058 := by
  unfold namV at h
  split at h
  · unfold namK at h; exact calOf_le (iteN h)
  · split at h
    · unfold namK at h; exact calOf_le (iteN h)
    · cases h
theorem both_B (n0 y0 m0 k0 : Nat) (s : ByteArray) (hd0 : IsDate n0 y0 m0 k0) (h90 : y0 ≤ 9999) (hs : s.size ≤ 1000000) : Both 66 (n0 : Int) s :=
  both_of 66 (n0 : Int) s (dayIn (num1 (bts s))) (dayIn (plainV (bts s) 7)) (fun n y m k => Lib.decDigits n) (fun _ h => dayIn_le h) (fun _ h => dayIn_le h) (fun h W hE hM => ReadDay_B_none s n0 y0 m0 k0 W hd0 h90 hs h) (fun n y m k hd h9 h hf W hE hM => ReadDay_B_ok s n0 y0 m0 k0 W hd0 h90 hs n y m k hd h9 h hf hE) (fun n y m k hd h9 h hf W hE hM => ReadDay_B_ne s n0 y0 m0 k0 W hd0 h90 hs n y m k hd h9 h hf hE) (fun W => KQ_B s n0 y0 m0 k0 W hd0 h90 hs) (fun n y m k hd h9 h => tB1 hd h9 h) (fun n y m k hd h9 h hf => tB2 hd h9 hf)
theorem both_D (n0 y0 m0 k0 : Nat) (s : ByteArray) (hd0 : IsDate n0 y0 m0 k0) (h90 : y0 ≤ 9999) (hs : s.size ≤ 1000000) : Both 68 (n0 : Int) s :=
  both_of 68 (n0 : Int) s (dayIn ((bef (y0 - 1) : Int) - 1 + num1 (bts s))) (dayD y0 (plainV (bts s) 7)) (fun n y m k => Lib.decDigits (n - bef (y - 1) + 1)) (fun _ h => dayIn_le h) (fun _ h => dayD_le hd0.y1 h90 h) (fun h W hE hM => ReadDay_D_none s n0 y0 m0 k0 W hd0 h90 hs h) (fun n y m k hd h9 h hf W hE hM => ReadDay_D_ok s n0 y0 m0 k0 W hd0 h90 hs n y m k hd h9 h hf hE) (fun n y m k hd h9 h hf W hE hM => ReadDay_D_ne s n0 y0 m0 k0 W hd0 h90 hs n y m k hd h9 h hf hE) (fun W => KQ_D s n0 y0 m0 k0 W hd0 h90 hs) (fun n y m k hd h9 h => tD1 hd0 hd h9 h) (fun n y m k hd h9 h hf => tD2 hd0 hd h9 h hf)
theorem both_E (n0 y0 m0 k0 : Nat) (s : ByteArray) (hd0 : IsDate n0 y0 m0 k0) (h90 : y0 ≤ 9999) (hs : s.size ≤ 1000000) : Both 69 (n0 : Int) s :=
  both_of 69 (n0 : Int) s (calOf (fyR y0 (num3 (bts s))) (num2 (bts s)) (num1 (bts s))) (thrE y0 (bts s)) (fun n y m k => shortL (k % 100) (m % 100) (y % 100)) (fun _ h => calOf_le h) (fun _ h => calOf_le (iteN (by unfold thrE at h; exact h))) (fun h W hE hM => ReadDay_E_none s n0 y0 m0 k0 W hd0 h90 hs h) (fun n y m k hd h9 h hf W hE hM => ReadDay_E_ok s n0 y0 m0 k0 W hd0 h90 hs n y m k hd h9 h hf hE) (fun n y m k hd h9 h hf W hE hM => ReadDay_E_ne s n0 y0 m0 k0 W hd0 h90 hs n y m k hd h9 h hf hE) (fun W => KQ_E s n0 y0 m0 k0 W hd0 h90 hs) (fun n y m k hd h9 h => tE1 hd h9 h) (fun n y m k hd h9 h hf => tE2 h hf)
theorem both_I (n0 y0 m0 k0 : Nat) (s : ByteArray) (hd0 : IsDate n0 y0 m0 k0) (h90 : y0 ≤ 9999) (hs : s.size ≤ 1000000) : Both 73 (n0 : Int) s :=
  both_of 73 (n0 : Int) s (calOf (num1 (bts s)) (num2 (bts s)) (num3 (bts s))) (isoV (bts s)) (fun n y m k => longL [45] y m k) (fun _ h => calOf_le h) (fun _ h => calOf_le (iteN (by unfold isoV at h; exact h))) (fun h W hE hM => ReadDay_I_none s n0 y0 m0 k0 W hd0 h90 hs h) (fun n y m k hd h9 h hf W hE hM => ReadDay_I_ok s n0 y0 m0 k0 W hd0 h90 hs n y m k hd h9 h hf hE) (fun n y m k hd h9 h hf W hE hM => ReadDay_I_ne s n0 y0 m0 k0 W hd0 h90 hs n y m k hd h9 h hf hE) (fun W => KQ_I s n0 y0 m0 k0 W hd0 h90 hs) (fun n y m k hd h9 h => tI1 hd h9 h) (fun n y m k hd h9 h hf => tI2 hd h9 hf)
theorem both_N (n0 y0 m0 k0 : Nat) (s : ByteArray) (hd0 : IsDate n0 y0 m0 k0) (h90 : y0 ≤ 9999) (hs : s.size ≤ 1000000) : Both 78 (n0 : Int) s :=
  both_of 78 (n0 : Int) s (calOf (num2 (bts s)) (1 + monV (bts s)) (num1 (bts s))) (namV (bts s)) (fun n y m k => normL y m k) (fun _ h => calOf_le h) (fun _ h => namV_le h) (fun h W hE hM => ReadDay_N_none s n0 y0 m0 k0 W hd0 h90 hs hE hM h) (fun n y m k hd h9 h hf W hE hM => ReadDay_N_ok s n0 y0 m0 k0 W hd0 h90 hs hE hM n y m k hd h9 h hf) (fun n y m k hd h9 h hf W hE hM => ReadDay_N_ne s n0 y0 m0 k0 W hd0 h90 hs hE hM n y m k hd h9 h hf) (fun W => KQ_N s n0 y0 m0 k0 W hd0 h90 hs) (fun n y m k hd h9 h => tN1 hd h9 h) (fun n y m k hd h9 h hf => tN2 hd h9 hf)
theorem both_O (n0 y0 m0 k0 : Nat) (s : ByteArray) (hd0 : IsDate n0 y0 m0 k0) (h90 : y0 ≤ 9999) (hs : s.size ≤ 1000000) : Both 79 (n0 : Int) s :=
  both_of 79 (n0 : Int) s (calOf (fyR y0 (num1 (bts s))) (num2 (bts s)) (num3 (bts s))) (thrO y0 (bts s)) (fun n y m k => shortL (y % 100) (m % 100) (k % 100)) (fun _ h => calOf_le h) (fun _ h => calOf_le (iteN (by unfold thrO at h; exact h))) (fun h W hE hM => ReadDay_O_none s n0 y0 m0 k0 W hd0 h90 hs h) (fun n y m k hd h9 h hf W hE hM => ReadDay_O_ok s n0 y0 m0 k0 W hd0 h90 hs n y m k hd h9 h hf hE) (fun n y m k hd h9 h hf W hE hM => ReadDay_O_ne s n0 y0 m0 k0 W hd0 h90 hs n y m k hd h9 h hf hE) (fun W => KQ_O s n0 y0 m0 k0 W hd0 h90 hs) (fun n y m k hd h9 h => tO1 hd h9 h) (fun n y m k hd h9 h hf => tO2 h hf)
theorem both_S (n0 y0 m0 k0 : Nat) (s : ByteArray) (hd0 : IsDate n0 y0 m0 k0) (h90 : y0 ≤ 9999) (hs : s.size ≤ 1000000) : Both 83 (n0 : Int) s :=
  both_of 83 (n0 : Int) s (calOf ((num1 (bts s)).tdiv 10000) (((num1 (bts s)).tdiv 100).tmod 100) ((num1 (bts s)).tmod 100)) (stdV (bts s)) (fun n y m k => longL [] y m k) (fun _ h => calOf_le h) (fun _ h => calOf_le (iteN (by unfold stdV at h; exact h))) (fun h W hE hM => ReadDay_S_none s n0 y0 m0 k0 W hd0 h90 hs h) (fun n y m k hd h9 h hf W hE hM => ReadDay_S_ok s n0 y0 m0 k0 W hd0 h90 hs n y m k hd h9 h hf hE) (fun n y m k hd h9 h hf W hE hM => ReadDay_S_ne s n0 y0 m0 k0 W hd0 h90 hs n y m k hd h9 h hf hE) (fun W => KQ_S s n0 y0 m0 k0 W hd0 h90 hs) (fun n y m k hd h9 h => tS1 hd h9 h) (fun n y m k hd h9 h hf => tS2 hd h9 hf)
theorem both_U (n0 y0 m0 k0 : Nat) (s : ByteArray) (hd0 : IsDate n0 y0 m0 k0) (h90 : y0 ≤ 9999) (hs : s.size ≤ 1000000) : Both 85 (n0 : Int) s :=
  both_of 85 (n0 : Int) s (calOf (fyR y0 (num3 (bts s))) (num1 (bts s)) (num2 (bts s))) (thrU y0 (bts s)) (fun n y m k => shortL (m % 100) (k % 100) (y % 100)) (fun _ h => calOf_le h) (fun _ h => calOf_le (iteN (by unfold thrU at h; exact h))) (fun h W hE hM => ReadDay_U_none s n0 y0 m0 k0 W hd0 h90 hs h) (fun n y m k hd h9 h hf W hE hM => ReadDay_U_ok s n0 y0 m0 k0 W hd0 h90 hs n y m k hd h9 h hf hE) (fun n y m k hd h9 h hf W hE hM => ReadDay_U_ne s n0 y0 m0 k0 W hd0 h90 hs n y m k hd h9 h hf hE) (fun W => KQ_U s n0 y0 m0 k0 W hd0 h90 hs) (fun n y m k hd h9 h => tU1 hd h9 h) (fun n y m k hd h9 h hf => tU2 h hf)
theorem both_any (n0 : Int) (x : UInt8) (s : ByteArray) (hs : s.size ≤ 1000000) : Both (x.toNat : Int) n0 s := by
  by_cases hn : 0 ≤ n0 ∧ n0 ≤ 3652058
  · obtain ⟨N, rfl⟩ : ∃ N : Nat, n0 = (N : Int) := ⟨n0.toNat, by omega⟩
    obtain ⟨y, m, k, hd⟩ := isDate_ex N
    have h9 : y ≤ 9999 := hd.isYear.le (by omega)
    by_cases hx : x = 66 ∨ x = 68 ∨ x = 69 ∨ x = 73 ∨ x = 78 ∨ x = 79 ∨ x = 83 ∨ x = 85
    · rcases hx with rfl | rfl | rfl | rfl | rfl | rfl | rfl | rfl
      · exact both_B N y m k s hd h9 hs
      · exact both_D N y m k s hd h9 hs
      · exact both_E N y m k s hd h9 hs
      · exact both_I N y m k s hd h9 hs
      · exact both_N N y m k s hd h9 hs
      · exact both_O N y m k s hd h9 hs
      · exact both_S N y m k s hd h9 hs
      · exact both_U N y m k s hd h9 hs
    · have hl := rest_none x s y hx
      have y1 : ∀ k : UInt8, ¬ x = k → ¬ (x.toNat : Int) = (k.toNat : Int) := fun k h q => h (UInt8.toNat_inj.1 (by omega))
      simp only [not_or] at hx
      obtain ⟨h1, h2, h3, h4, h5, h6, h7, h8⟩ := hx
      obtain ⟨X, hX⟩ : ∃ X, X = (x.toNat : Int) := ⟨_, rfl⟩
      have z66 : ¬ X = 66 := hX ▸ y1 66 h1
      have z68 : ¬ X = 68 := hX ▸ y1 68 h2
      have z69 : ¬ X = 69 := hX ▸ y1 69 h3
      have z73 : ¬ X = 73 := hX ▸ y1 73 h4
      have z78 : ¬ X = 78 := hX ▸ y1 78 h5
      have z79 : ¬ X = 79 := hX ▸ y1 79 h6
      have z83 : ¬ X = 83 := hX ▸ y1 83 h7
      have z85 : ¬ X = 85 := hX ▸ y1 85 h8
      refine ⟨0, 1, fun W _ _ => ReadDay_none s N y m k x W hd h9 hl, fun W => ?_⟩
      rw [← hX]
      exact RReadDay_none s N y m k W hd h9 X (beq_eq_false_iff_ne.2 z66) z66 (beq_eq_false_iff_ne.2 z68) z68 (beq_eq_false_iff_ne.2 z69) z69 (beq_eq_false_iff_ne.2 z73) z73 (beq_eq_false_iff_ne.2 z78) z78 (beq_eq_false_iff_ne.2 z79) z79 (beq_eq_false_iff_ne.2 z83) z83 (beq_eq_false_iff_ne.2 z85) z85
  · exact ⟨0, 1, fun W _ _ => ReadDay_bad s n0 _ W hn, fun W => RReadDay_bad s n0 _ W hn⟩
/-- Date gives what the reference gives, a short text. -/
def BothD (n X : Int) : Prop := ∃ (l : List UInt8) (x : Int), l.length ≤ 1000000 ∧ (∀ W, Env W → Calls Tryz.prog 28 #[.int .i64 n, .int .u8 X] W (GivesSY W l x)) ∧ (∀ W, Calls Tryz.prog 29 #[.int .i64 n, .int .u8 X] W (GivesAT W l x))
theorem dat_none (x : UInt8) (y m k : Nat) (h : ¬ (x = 66 ∨ x = 67 ∨ x = 68 ∨ x = 69 ∨ x = 73 ∨ x = 77 ∨ x = 78 ∨ x = 79 ∨ x = 83 ∨ x = 85 ∨ x = 87)) : (datFL y m k).lookup x = none := by
  simp only [not_or] at h
  obtain ⟨h66, h67, h68, h69, h73, h77, h78, h79, h83, h85, h87⟩ := h
  unfold datFL
  simp [List.lookup_cons, beq_eq_false_iff_ne.2 h66, beq_eq_false_iff_ne.2 h67, beq_eq_false_iff_ne.2 h68, beq_eq_false_iff_ne.2 h69, beq_eq_false_iff_ne.2 h73, beq_eq_false_iff_ne.2 h77, beq_eq_false_iff_ne.2 h78, beq_eq_false_iff_ne.2 h79, beq_eq_false_iff_ne.2 h83, beq_eq_false_iff_ne.2 h85, beq_eq_false_iff_ne.2 h87]
theorem monN_short (m : Nat) (h1 : 1 ≤ m) (h2 : m ≤ 12) : (monN m).length ≤ 1000000 := by have := (monN_len m h1 h2).2; omega
theorem dayN_short (q : Nat) (h : q < 7) : (dayN q).length ≤ 1000000 := by
  match q, h with
  | 0, _ | 1, _ | 2, _ | 3, _ | 4, _ | 5, _ | 6, _ => decide
theorem dateBoth (n : Int) (x : UInt8) : BothD n (x.toNat : Int) := by
  by_cases hn : 0 ≤ n ∧ n ≤ 3652058
  · obtain ⟨N, rfl⟩ : ∃ N : Nat, n = (N : Int) := ⟨n.toNat, by omega⟩
    obtain ⟨y, m, k, hd⟩ := isDate_ex N
    have h9 : y ≤ 9999 := hd.isYear.le (by omega)
    have hN : N ≤ 3652058 := by omega
    by_cases hx : x = 66 ∨ x = 67 ∨ x = 68 ∨ x = 69 ∨ x = 73 ∨ x = 77 ∨ x = 78 ∨ x = 79 ∨ x = 83 ∨ x = 85 ∨ x = 87
    · rcases hx with rfl | rfl | rfl | rfl | rfl | rfl | rfl | rfl | rfl | rfl | rfl
      · exact ⟨_, 0, dd_short N (by omega), fun W hE => gsy (Date_B N y m k W hd h9 hE), fun W => RDate_B N y m k W hd h9⟩
      · exact ⟨_, 0, dd_short _ (by omega), fun W hE => gsy (Date_C N y m k W hd h9 hE), fun W => RDate_C N y m k W hd h9⟩
      · exact ⟨_, 0, dd_short _ (by omega), fun W hE => gsy (Date_D N y m k W hd h9 hE), fun W => RDate_D N y m k W hd h9⟩
      · exact ⟨_, 0, short_len _ _ _ (Nat.mod_lt _ (by decide)) (Nat.mod_lt _ (by decide)) (Nat.mod_lt _ (by decide)), fun W hE => gsy (Date_E N y m k W hd h9 hE), fun W => RDate_E N y m k W hd h9⟩
      · exact ⟨_, 0, longL_len [45] y m k (by decide) h9 (by have := hd.m12; omega) (by have := day31 hd; omega), fun W hE => gsy (Date_I N y m k W hd h9 hE), fun W => RDate_I N y m k W hd h9⟩
      · exact ⟨_, 0, monN_short m hd.m1 hd.m12, fun W hE => gsy (Date_M N y m k W hd h9 hE), fun W => RDate_M N y m k W hd h9⟩
      · exact ⟨_, 0, normL_len y m k h9 hd.m1 hd.m12 (day31 hd), fun W hE => gsy (Date_N N y m k W hd h9 hE), fun W => RDate_N N y m k W hd h9⟩
      · exact ⟨_, 0, short_len _ _ _ (Nat.mod_lt _ (by decide)) (Nat.mod_lt _ (by decide)) (Nat.mod_lt _ (by decide)), fun W hE => gsy (Date_O N y m k W hd h9 hE), fun W => RDate_O N y m k W hd h9⟩
      · exact ⟨_, 0, longL_len [] y m k (by decide) h9 (by have := hd.m12; omega) (by have := day31 hd; omega), fun W hE => gsy (Date_S N y m k W hd h9 hE), fun W => RDate_S N y m k W hd h9⟩
      · exact ⟨_, 0, short_len _ _ _ (Nat.mod_lt _ (by decide)) (Nat.mod_lt _ (by decide)) (Nat.mod_lt _ (by decide)), fun W hE => gsy (Date_U N y m k W hd h9 hE), fun W => RDate_U N y m k W hd h9⟩
      · exact ⟨_, 0, dayN_short _ (Nat.mod_lt _ (by decide)), fun W hE => gsy (Date_W N y m k W hd h9 hE), fun W => RDate_W N y m k W hd h9⟩
    · have hl := dat_none x y m k hx
      have y1 : ∀ k : UInt8, ¬ x = k → ¬ (x.toNat : Int) = (k.toNat : Int) := fun k h q => h (UInt8.toNat_inj.1 (by omega))
      simp only [not_or] at hx
      obtain ⟨h66, h67, h68, h69, h73, h77, h78, h79, h83, h85, h87⟩ := hx
      obtain ⟨X, hX⟩ : ∃ X, X = (x.toNat : Int) := ⟨_, rfl⟩
      have z66 : ¬ X = 66 := hX ▸ y1 66 h66
      have z67 : ¬ X = 67 := hX ▸ y1 67 h67
      have z68 : ¬ X = 68 := hX ▸ y1 68 h68
      have z69 : ¬ X = 69 := hX ▸ y1 69 h69
      have z73 : ¬ X = 73 := hX ▸ y1 73 h73
      have z77 : ¬ X = 77 := hX ▸ y1 77 h77
      have z78 : ¬ X = 78 := hX ▸ y1 78 h78
      have z79 : ¬ X = 79 := hX ▸ y1 79 h79
      have z83 : ¬ X = 83 := hX ▸ y1 83 h83
      have z85 : ¬ X = 85 := hX ▸ y1 85 h85
      have z87 : ¬ X = 87 := hX ▸ y1 87 h87
      refine ⟨[], 1, by simp, fun W _ => gsy1 (Date_none N y m k x W hd h9 hl), fun W => ?_⟩
      rw [← hX]
      exact RDate_none N y m k X (beq_eq_false_iff_ne.2 z66) z66 (beq_eq_false_iff_ne.2 z67) z67 (beq_eq_false_iff_ne.2 z68) z68 (beq_eq_false_iff_ne.2 z69) z69 (beq_eq_false_iff_ne.2 z73) z73 (beq_eq_false_iff_ne.2 z77) z77 (beq_eq_false_iff_ne.2 z78) z78 (beq_eq_false_iff_ne.2 z79) z79 (beq_eq_false_iff_ne.2 z83) z83 (beq_eq_false_iff_ne.2 z85) z85 (beq_eq_false_iff_ne.2 z87) z87 W hd h9
  · exact ⟨[], 1, by simp, fun W _ => gsy1 (Date_bad n _ W hn), fun W => RDate_bad n _ W hn⟩
end Go.Proofs.YtmjifmlibgpjiaaGreatDoor
namespace Go.Proofs.YtmjifmlibgpjiaaGreatDoor
open Go.RowKit Go.Shelf Tx Go.Maps
set_option linter.unusedVariables false
set_option maxRecDepth 100000

set_option maxHeartbeats 8000000 in
theorem cf_walk (n X d0 : Int) (s : ByteArray) (l : List UInt8) (x v g : Int) (w : World) (hE : Env w) (hM : HasMax w) (hs : ¬ (100 : Int) < (s.size : Int)) (hl : l.length ≤ 1000000)
    (Q1 : ∀ W, Env W → Calls Tryz.prog 28 #[.int .i64 n, .int .u8 X] W (GivesSY W l x)) (Q2 : ∀ W, Calls Tryz.prog 29 #[.int .i64 n, .int .u8 X] W (GivesAT W l x))
    (Q3 : ∀ W, Env W → HasMax W → Calls Tryz.prog 30 #[.string s, .int .u8 X, .int .i64 d0] W (Gives W #[.int .i64 v, .int .i64 g])) (Q4 : ∀ W, Calls Tryz.prog 31 #[.string s, .int .u8 X, .int .i64 d0] W (GivesA W #[.int .i64 v, .int .i64 g]))
    (Q5 : ∀ t : ByteArray, t.size ≤ 1000000 → Both X d0 t) :
    Calls Tryz.prog 5 #[.int .i64 n, .int .u8 X, .string s, .int .i64 d0] w fun e w' => e = .returned (.bool true) ∧ Below w.heap.size w w' := by
  have K1 := fun W (hW : Env W) => Lib.hid (Q1 W hW)
  have K2 := fun W => Lib.hid (Q2 W)
  have K3 := fun W (hW : Env W) (hV : HasMax W) => Lib.hid (Q3 W hW hV)
  have K4 := fun W => Lib.hid (Q4 W)
  have K5 := Lib.hid Q5
  have KZ := fun W (hW : Env W) => Lib.hid (sane_any W hW)
  have HE := Lib.hid hE
  have HM := Lib.hid hM
  have HL := Lib.hid hl
  clear Q1 Q2 Q3 Q4 Q5 hE hM hl
  go_enter Tryz.func5, Tryz.ntmps5
  go_wp2_with (first
    | (go_at_call 28; refine Calls.mono (K1 _ HE.out).out ?_; rintro e w1 ⟨t, rfl, ht1, hb⟩; clear K1; have B1 := Lib.hid hb; obtain ⟨v2, g2, P5, P6⟩ := K5.out t (by rw [← bts_length, ht1.out]; exact HL.out); have K6 := fun W (hW : Env W) (hV : HasMax W) => Lib.hid (P5 W hW hV); have K7 := fun W => Lib.hid (P6 W); clear hb P5 P6 K5)
    | (go_at_call 29; refine Calls.mono (K2 _).out ?_; rintro e w2 ⟨t2, rfl, ht2, hb⟩; clear K2; have et : t2 = t := bts_inj (ht2.out.trans ht1.out.symm); subst et; have B2 := Lib.hid (Bl.step B1.out hb); clear hb ht1 ht2)
    | (go_at_call 30; (with_reducible refine Calls.mono (K3 _ (HE.out.below (Bl.alloc B2.out _)) (HM.out.below (Bl.alloc B2.out _))).out ?_); rintro e w3 ⟨rfl, hb⟩; clear K3; have B3 := Lib.hid (Bl.step (Bl.alloc B2.out _) hb); have C3 := Lib.hid ((BoxC.new w2 44 #[.string t2, .int .i64 x]).stayC hb); clear hb)
    | (go_at_call 31; (with_reducible refine Calls.mono (K4 _).out ?_); rintro e w4 ⟨rfl, hb⟩; clear K4; have B4 := Lib.hid (Bl.step B3.out hb); have C4 := Lib.hid (C3.out.stayC hb); have c40 := C4.out.cell (i := 0) rfl; have CA := C4.out.alloc (.cells #[.int .i64 v, .int .i64 g] 29); have c41 := CA.cell (i := 0) rfl; clear hb CA)
    | (go_at_call 30; refine Calls.mono (K6 _ (HE.out.below (Bl.alloc B4.out _)) (HM.out.below (Bl.alloc B4.out _))).out ?_; rintro e w5 ⟨rfl, hb⟩; clear K6; have B5 := Lib.hid (Bl.step (Bl.alloc B4.out _) hb); have C5 := Lib.hid ((C4.out.alloc _).stayC hb); have D5 := Lib.hid ((BoxC.new w4 29 #[.int .i64 v, .int .i64 g]).stayC hb); have c50 := C5.out.cell (i := 0) rfl; clear hb)
    | (go_at_call 31; refine Calls.mono (K7 _).out ?_; rintro e w6 ⟨rfl, hb⟩; clear K7; have B6 := Lib.hid (Bl.step B5.out hb); have C6 := Lib.hid (C5.out.stayC hb); have D6 := Lib.hid (D5.out.stayC hb); clear hb)
    | (go_at_call 23; refine Calls.mono (KZ _ (HE.out.below (Bl.alloc B6.out _))).out ?_; rintro e w7 ⟨rfl, hb⟩; have B7 := Lib.hid (Bl.step (Bl.alloc B6.out _) hb); have C7 := (C6.out.alloc _).stayC hb; have D7 := (D6.out.alloc _).stayC hb; have E7 := (BoxC.new w6 29 #[.int .i64 v2, .int .i64 g2]).stayC hb; have c0 := C7.cell (i := 0) rfl; have c1 := C7.cell (i := 1) rfl; have d0' := D7.cell (i := 0) rfl; have d1 := D7.cell (i := 1) rfl; have e0 := E7.cell (i := 0) rfl; have e1 := E7.cell (i := 1) rfl; clear hb C7 D7 E7))
  go_ret
  exact ⟨by first | rfl | simp, B7.out⟩
theorem cf_long (n X d0 : Int) (s : ByteArray) (w : World) (hE : Env w) (hs : (100 : Int) < (s.size : Int)) : Calls Tryz.prog 5 #[.int .i64 n, .int .u8 X, .string s, .int .i64 d0] w fun e w' => e = .returned (.bool true) ∧ Below w.heap.size w w' := by
  have KZ := fun W (hW : Env W) => Lib.hid (sane_any W hW)
  have HE := Lib.hid hE
  clear hE
  go_enter Tryz.func5, Tryz.ntmps5
  go_wp2_with (go_at_call 23; refine Calls.mono (KZ _ HE.out).out ?_; rintro e w6 ⟨rfl, hb⟩; have B6 := Lib.hid hb; clear hb)
  go_ret
  exact ⟨by first | rfl | simp, B6.out⟩
theorem CalFormats_any (n : Int) (x : UInt8) (s : ByteArray) (d0 : Int) (w : World) (hE : Env w) (hM : HasMax w) : Calls Tryz.prog 5 #[.int .i64 n, .int .u8 (x.toNat : Int), .string s, .int .i64 d0] w fun e w' => e = .returned (.bool true) ∧ Below w.heap.size w w' := by
  by_cases hs : (100 : Int) < (s.size : Int)
  · exact cf_long n _ d0 s w hE hs
  · obtain ⟨l, e, hl, Q1, Q2⟩ := dateBoth n x
    obtain ⟨v, g, Q3, Q4⟩ := both_any d0 x s (by omega)
    exact cf_walk n _ d0 s l e v g w hE hM hs hl Q1 Q2 Q3 Q4 (fun t ht => both_any d0 x t ht)
end Go.Proofs.YtmjifmlibgpjiaaGreatDoor

