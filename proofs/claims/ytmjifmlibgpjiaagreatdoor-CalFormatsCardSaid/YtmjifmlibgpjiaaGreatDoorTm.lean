/- Plain words and lemmas of the calendar. No program is imported here. -/
namespace Go.Proofs.YtmjifmlibgpjiaaGreatDoor
namespace Tx

/-- The bytes of a string. -/
def bts (s : ByteArray) : List UInt8 := s.data.toList
theorem bts_length (s : ByteArray) : (bts s).length = s.size := by simp [bts]
theorem bts_get (s : ByteArray) {k : Nat} (h : k < s.size) : (bts s)[k]? = some s[k] := by
  unfold bts
  rw [List.getElem?_eq_getElem (by simpa using h)]
  rfl
theorem bts_mk (l : List UInt8) : bts ⟨l.toArray⟩ = l := by simp [bts]
theorem bts_empty : bts ⟨#[]⟩ = [] := rfl
theorem bts_append (a b : ByteArray) : bts (a ++ b) = bts a ++ bts b := by
  unfold bts; rw [ByteArray.data_append, Array.toList_append]
theorem bts_extract (s : ByteArray) (a b : Nat) : bts (s.extract a b) = ((bts s).drop a).take (b - a) := by
  unfold bts
  simp only [ByteArray.extract, ByteArray.copySlice]
  simp [List.take_drop]
  try omega
theorem bts_inj {s t : ByteArray} (h : bts s = bts t) : s = t := by
  cases s with
  | mk a =>
    cases t with
    | mk b =>
      unfold bts at h
      have : a = b := by simpa using h
      rw [this]

/-- Days before January 1 of the year behind p years. -/
def bef (p : Nat) : Nat := 365 * p + p / 4 - p / 100 + p / 400
def leapB (y : Nat) : Bool := (y % 4 == 0 && y % 100 != 0) || y % 400 == 0
def lp (y : Nat) : Nat := if leapB y then 1 else 0
theorem lp_le (y : Nat) : lp y ≤ 1 := by unfold lp; split <;> omega
theorem bef_succ (p : Nat) : bef (p + 1) = bef p + 365 + lp (p + 1) := by
  unfold bef lp leapB
  by_cases h1 : (p + 1) % 4 = 0
  · by_cases h2 : (p + 1) % 100 = 0
    · by_cases h3 : (p + 1) % 400 = 0
      · simp [h1, h2, h3]; omega
      · simp [h1, h2, h3]; omega
    · have h3 : ¬ (p + 1) % 400 = 0 := by omega
      simp [h1, h2, h3]; omega
  · have h2 : ¬ (p + 1) % 100 = 0 := by omega
    have h3 : ¬ (p + 1) % 400 = 0 := by omega
    simp [h1, h2, h3]; omega
theorem bef_add (p k : Nat) : bef p + 365 * k ≤ bef (p + k) := by
  induction k with
  | zero => simp
  | succ k ih => rw [← Nat.add_assoc, bef_succ]; omega
theorem bef_le {p q : Nat} (h : p ≤ q) : bef p + 365 * (q - p) ≤ bef q := by
  have := bef_add p (q - p); rwa [show p + (q - p) = q by omega] at this
theorem bef_ge (p : Nat) : 365 * p ≤ bef p := by have := bef_add 0 p; simp [bef] at this ⊢; omega
theorem bef_le366 (p : Nat) : bef p ≤ 366 * p := by unfold bef; omega

/-- The days of a month, and those of the months before it in the year. -/
def dim (y m : Nat) : Nat := if m = 2 then 28 + lp y else if m = 4 ∨ m = 6 ∨ m = 9 ∨ m = 11 then 30 else 31
def cum (y m : Nat) : Nat :=
  match m with
  | 0 => 0 | 1 => 0 | 2 => 31 | 3 => 59 + lp y | 4 => 90 + lp y | 5 => 120 + lp y | 6 => 151 + lp y | 7 => 181 + lp y | 8 => 212 + lp y | 9 => 243 + lp y | 10 => 273 + lp y | 11 => 304 + lp y | 12 => 334 + lp y | _ => 365 + lp y
theorem cum_succ (y m : Nat) (h1 : 1 ≤ m) (h2 : m ≤ 12) : cum y (m + 1) = cum y m + dim y m := by
  have := lp_le y
  match m, h1, h2 with
  | 1, _, _ | 2, _, _ | 3, _, _ | 4, _, _ | 5, _, _ | 6, _, _ | 7, _, _ | 8, _, _ | 9, _, _ | 10, _, _ | 11, _, _ | 12, _, _ => simp [cum, dim] <;> omega
theorem dim_pos (y m : Nat) : 28 ≤ dim y m ∧ dim y m ≤ 31 := by
  have := lp_le y
  unfold dim; split
  · omega
  · split <;> omega
theorem cum_le (y : Nat) {m : Nat} (h2 : m ≤ 13) : cum y m ≤ 365 + lp y := by
  match m, h2 with
  | 0, _ | 1, _ | 2, _ | 3, _ | 4, _ | 5, _ | 6, _ | 7, _ | 8, _ | 9, _ | 10, _ | 11, _ | 12, _ | 13, _ => simp [cum] <;> omega
theorem cum_mono (y : Nat) {a b : Nat} (h1 : 1 ≤ a) (hab : a ≤ b) (hb : b ≤ 13) : cum y a ≤ cum y b := by
  induction b with
  | zero => omega
  | succ b ih =>
    by_cases e : a = b + 1
    · rw [e]; exact Nat.le_refl _
    · have := ih (by omega) (by omega)
      rw [cum_succ y b (by omega) (by omega)]; omega
theorem cum13 (y : Nat) : cum y 13 = 365 + lp y := rfl
theorem cum1 (y : Nat) : cum y 1 = 0 := rfl

/-- y, m, k is the date of day d. -/
structure IsDate (d y m k : Nat) : Prop where
  y1 : 1 ≤ y
  m1 : 1 ≤ m
  m12 : m ≤ 12
  k1 : 1 ≤ k
  kd : k ≤ dim y m
  eq : d = bef (y - 1) + cum y m + (k - 1)
/-- y is the year of day d. -/
structure IsYear (d y : Nat) : Prop where
  y1 : 1 ≤ y
  lo : bef (y - 1) ≤ d
  hi : d < bef y
theorem isYear_ex (d : Nat) : ∃ y, IsYear d y := by
  induction d with
  | zero => exact ⟨1, by omega, by decide, by decide⟩
  | succ d ih =>
    obtain ⟨y, h⟩ := ih
    by_cases e : d + 1 < bef y
    · exact ⟨y, h.y1, Nat.le_trans h.lo (by omega), e⟩
    · have h3 := bef_succ y
      have h4 := h.hi
      exact ⟨y + 1, by omega, by show bef y ≤ d + 1; omega, by omega⟩
theorem bef_mono {p q : Nat} (h : p ≤ q) : bef p ≤ bef q := by have := bef_le h; omega
theorem IsYear.uniq {d y y' : Nat} (h : IsYear d y) (h' : IsYear d y') : y = y' := by
  have a := h.y1
  have b := h'.y1
  rcases Nat.lt_trichotomy y y' with e | e | e
  · have := bef_mono (show y ≤ y' - 1 by omega); have := h.hi; have := h'.lo; omega
  · exact e
  · have := bef_mono (show y' ≤ y - 1 by omega); have := h'.hi; have := h.lo; omega
theorem bef_pred {y : Nat} (h : 1 ≤ y) : bef y = bef (y - 1) + 365 + lp y := by
  have := bef_succ (y - 1); rwa [show y - 1 + 1 = y by omega] at this
theorem isDate_ex (d : Nat) : ∃ y m k, IsDate d y m k := by
  obtain ⟨y, h⟩ := isYear_ex d
  have h1 := bef_pred h.y1
  have h2 := h.lo
  have h3 := h.hi
  obtain ⟨r, hr⟩ : ∃ r, d = bef (y - 1) + r := ⟨d - bef (y - 1), by omega⟩
  have key : ∀ n, n ≤ 12 → r < cum y (n + 1) → ∃ m k, 1 ≤ m ∧ m ≤ 12 ∧ 1 ≤ k ∧ k ≤ dim y m ∧ r = cum y m + (k - 1) := by
    intro n
    induction n with
    | zero => intro _ h; rw [cum1] at h; omega
    | succ n ih =>
      intro hn hlt
      by_cases e : r < cum y (n + 1)
      · exact ih (by omega) e
      · refine ⟨n + 1, r - cum y (n + 1) + 1, by omega, hn, by omega, ?_, by omega⟩
        have := cum_succ y (n + 1) (by omega) hn; omega
  obtain ⟨m, k, a, b, c, e, f⟩ := key 12 (by omega) (by rw [cum13]; omega)
  exact ⟨y, m, k, h.y1, a, b, c, e, by omega⟩
theorem IsDate.isYear {d y m k : Nat} (h : IsDate d y m k) : IsYear d y := by
  have h1 := bef_pred h.y1
  have h2 := cum_succ y m h.m1 h.m12
  have h3 := cum_le y (show m + 1 ≤ 13 by have := h.m12; omega)
  have h4 := h.kd
  have h5 := h.k1
  have h6 := h.eq
  exact ⟨h.y1, by omega, by omega⟩
theorem cum_uniq {y m m' k k' : Nat} (a : 1 ≤ m) (b : m ≤ 12) (a' : 1 ≤ m') (b' : m' ≤ 12) (c : 1 ≤ k) (c' : 1 ≤ k') (e : k ≤ dim y m) (e' : k' ≤ dim y m') (h : cum y m + (k - 1) = cum y m' + (k' - 1)) : m = m' ∧ k = k' := by
  have h1 := cum_succ y m a b
  have h2 := cum_succ y m' a' b'
  rcases Nat.lt_trichotomy m m' with q | q | q
  · have := cum_mono y (show 1 ≤ m + 1 by omega) (show m + 1 ≤ m' by omega) (by omega); omega
  · subst q; exact ⟨rfl, by omega⟩
  · have := cum_mono y (show 1 ≤ m' + 1 by omega) (show m' + 1 ≤ m by omega) (by omega); omega
theorem IsDate.uniq {d y m k y' m' k' : Nat} (h : IsDate d y m k) (h' : IsDate d y' m' k') : y = y' ∧ m = m' ∧ k = k' := by
  have e := h.isYear.uniq h'.isYear
  subst e
  have q1 := h.eq
  have q2 := h'.eq
  exact ⟨rfl, cum_uniq h.m1 h.m12 h'.m1 h'.m12 h.k1 h'.k1 h.kd h'.kd (by omega)⟩
theorem bef9999 : bef 9999 = 3652059 := by decide
theorem IsYear.le {d y : Nat} (h : IsYear d y) (hd : d ≤ 3652058) : y ≤ 9999 := by
  by_cases e : y ≤ 9999
  · exact e
  · have := bef_mono (show 9999 ≤ y - 1 by omega); rw [bef9999] at this; have := h.lo; omega
end Tx
end Go.Proofs.YtmjifmlibgpjiaaGreatDoor
