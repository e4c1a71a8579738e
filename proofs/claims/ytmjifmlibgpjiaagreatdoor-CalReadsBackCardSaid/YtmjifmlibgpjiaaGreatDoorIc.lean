/- What the readers of dates find in formats of dates: plain lemmas. -/
import Derived.Test.YtmjifmlibgpjiaaGreatDoorIb
import Derived.Test.YtmjifmlibgpjiaaGreatDoorGf
import Derived.Test.YtmjifmlibgpjiaaGreatDoorTd
namespace Go.Proofs.YtmjifmlibgpjiaaGreatDoor
open Go.Lib Tx
namespace Tx
theorem isCal_of {n y m k : Nat} (hd : IsDate n y m k) (h9 : y ≤ 9999) : IsCal n (y : Int) (m : Int) (k : Int) := ⟨y, m, k, rfl, rfl, rfl, hd, h9⟩
theorem dayIn_of {n : Nat} {v : Int} (hn : n ≤ 3652058) (hv : v = (n : Int)) : dayIn v = some n := by
  unfold dayIn
  rw [if_pos ⟨by omega, by omega⟩, hv, Int.toNat_natCast]
theorem p4len {n : Nat} (h : n ≤ 9999) : (padd n 4).length ≤ 11 := by rw [padd_wlen (w := 3) (by omega)]; decide
theorem three_of (s1 s2 : List UInt8) (a b c wa : Nat) (h1 : NoDg s1) (h2 : NoDg s2) (q1 : ∀ x ∈ s1, isDg x = false) (q2 : ∀ x ∈ s2, isDg x = false) (n1 : s1 ≠ []) (n2 : s2 ≠ []) (ha : (padd a wa).length ≤ 11) (hb : b < 100) (hc : (padd c 2).length ≤ 11) :
    num1 (padd a wa ++ (s1 ++ (padd b 2 ++ (s2 ++ padd c 2)))) = (a : Int) ∧ num2 (padd a wa ++ (s1 ++ (padd b 2 ++ (s2 ++ padd c 2)))) = (b : Int) ∧ num3 (padd a wa ++ (s1 ++ (padd b 2 ++ (s2 ++ padd c 2)))) = (c : Int) := by
  have nd : ∀ (s r : List UInt8), NoDg s → s ≠ [] → NoDg (s ++ r) := by
    intro s r h hn
    rcases h with h | ⟨x, t, rfl, hx⟩
    · exact absurd h hn
    · exact .inr ⟨x, t ++ r, rfl, hx⟩
  have e1 := num_padd [] (s1 ++ (padd b 2 ++ (s2 ++ padd c 2))) a wa (fun c hc => by cases hc) (nd _ _ h1 n1) ha
  have e2 := num_padd s1 (s2 ++ padd c 2) b 2 q1 (nd _ _ h2 n2) (p2len hb)
  have e3 := num_padd s2 [] c 2 q2 (.inl rfl) hc
  rw [List.nil_append] at e1
  rw [List.append_nil] at e3
  unfold num1 num2 num3
  rw [e1.1, e1.2, e2.1, e2.2, e3.1]
  exact ⟨rfl, rfl, rfl⟩
theorem iso_nums (y m k : Nat) (hy : y ≤ 9999) (hm : m ≤ 12) (hk : k ≤ 31) : num1 (longL [45] y m k) = (y : Int) ∧ num2 (longL [45] y m k) = (m : Int) ∧ num3 (longL [45] y m k) = (k : Int) := by
  rw [longL_eq]
  exact three_of [45] [45] y m k 4 (.inr ⟨45, [], rfl, by decide⟩) (.inr ⟨45, [], rfl, by decide⟩) (by decide) (by decide) (by decide) (by decide) (p4len hy) (by omega) (p2len (by omega))
theorem shortL_eq (a b c : Nat) : shortL a b c = padd a 2 ++ ([47] ++ (padd b 2 ++ ([47] ++ padd c 2))) := by simp [shortL, Lib.join]
theorem short_nums (a b c : Nat) (ha : a < 100) (hb : b < 100) (hc : c < 100) : num1 (shortL a b c) = (a : Int) ∧ num2 (shortL a b c) = (b : Int) ∧ num3 (shortL a b c) = (c : Int) := by
  rw [shortL_eq]
  exact three_of [47] [47] a b c 2 (.inr ⟨47, [], rfl, by decide⟩) (.inr ⟨47, [], rfl, by decide⟩) (by decide) (by decide) (by decide) (by decide) (p2len ha) hb (p2len hc)
theorem base_num (n : Nat) (hn : n ≤ 99999999999) : num1 (decDigits n) = (n : Int) := by
  have h := num_padd [] [] n 1 (fun c hc => by cases hc) (.inl rfl) (by rw [padd_low]; exact dd11 hn)
  rw [List.nil_append, List.append_nil, padd_low] at h
  exact h.1
theorem std_num (y m k : Nat) (hy : y ≤ 9999) (hm : m < 100) (hk : k < 100) : num1 (longL [] y m k) = ((y * 10000 + m * 100 + k : Nat) : Int) := by
  have e : longL [] y m k = padd y 4 ++ ([dgt (m / 10), dgt m] ++ [dgt (k / 10), dgt k]) := by rw [longL_eq, padd_two (n := m) (by omega), padd_two (n := k) (by omega)]; rfl
  have d0 := decFrom_padd y 4
  have d1 := decFrom_snoc (m / 10) _ _ _ d0
  have d2 := decFrom_snoc m _ _ _ d1
  have d3 := decFrom_snoc (k / 10) _ _ _ d2
  have d4 := decFrom_snoc k _ _ _ d3
  have e2 : padd y 4 ++ [dgt (m / 10)] ++ [dgt m] ++ [dgt (k / 10)] ++ [dgt k] = longL [] y m k := by rw [e]; simp
  rw [e2] at d4
  have hv : (((y * 10 + m / 10 % 10) * 10 + m % 10) * 10 + k / 10 % 10) * 10 + k % 10 = y * 10000 + m * 100 + k := by omega
  rw [hv] at d4
  have hall : ∀ c ∈ longL [] y m k, isDg c = true := by
    rw [← e2]
    intro c hc
    simp only [List.mem_append, List.mem_singleton] at hc
    rcases hc with (((hc | rfl) | rfl) | rfl) | rfl
    · exact padd_all y 4 c hc
    all_goals exact dgt_isDg _
  have hlen : (longL [] y m k).length = 8 := by rw [e, List.length_append, padd_wlen (w := 3) (by omega)]; rfl
  have h := num_at [] (longL [] y m k) [] _ (fun c hc => by cases hc) hall (by intro q; rw [q] at hlen; cases hlen) (.inl rfl) (by omega) d4
  rw [List.nil_append, List.append_nil] at h
  exact h.1
theorem std_parts (v y m k : Nat) (hv : v = y * 10000 + m * 100 + k) (hm : m < 100) (hk : k < 100) : (v : Int).tdiv 10000 = (y : Int) ∧ ((v : Int).tdiv 100).tmod 100 = (m : Int) ∧ (v : Int).tmod 100 = (k : Int) := by
  rw [Int.tdiv_eq_ediv_of_nonneg (by omega), Int.tdiv_eq_ediv_of_nonneg (by omega), Int.tmod_eq_emod_of_nonneg (by omega), Int.tmod_eq_emod_of_nonneg (by omega)]
  omega
theorem fyR_of (y0 y : Nat) (h1 : y < y0 + 50) (h2 : y0 < y + 50) : fyR y0 ((y % 100 : Nat) : Int) = (y : Int) := by
  obtain ⟨g, hg⟩ : ∃ g, g = y0 / 100 * 100 := ⟨_, rfl⟩
  unfold fyR
  rw [← hg]
  have hg1 : g ≤ y0 := by omega
  have hg2 : y0 < g + 100 := by omega
  have hg3 : g % 100 = 0 := by omega
  have hc : y = g + y % 100 ∨ y = g + y % 100 + 100 ∨ y + 100 = g + y % 100 := by omega
  clear hg
  split
  · omega
  · split <;> omega
/- The name of a month in a format. -/
theorem occ_at {l S : List UInt8} {x : UInt8} {i : Nat} (h : occAt l (x :: S) i = true) : l[i]? = some x := by
  unfold occAt at h
  rw [List.isPrefixOf_iff_prefix] at h
  obtain ⟨t, ht⟩ := h
  have e := congrArg (fun z => z[0]?) ht
  simpa using e.symm
theorem occ_here (A B C : List UInt8) : occAt (A ++ (B ++ C)) B A.length = true := by
  unfold occAt
  rw [List.drop_left, List.isPrefixOf_iff_prefix]
  exact List.prefix_append _ _
theorem contains_of_occ {l S : List UInt8} {i : Nat} (hi : i ≤ l.length) (h : occAt l S i = true) : contains l S = true := by
  unfold contains
  rcases index_spec l S with ⟨_, q⟩ | ⟨j, q, _⟩
  · rw [q i hi] at h; cases h
  · rw [q]; exact decide_eq_true (by omega)
theorem occ_of_contains {l S : List UInt8} (h : contains l S = true) : ∃ i, occAt l S i = true := by
  unfold contains at h
  have h' := of_decide_eq_true h
  rcases index_spec l S with ⟨q, _⟩ | ⟨j, _, _, q, _⟩
  · omega
  · exact ⟨j, q⟩
theorem one_name (A C : List UInt8) (b0 b1 b2 x y z : UInt8) (hA : ∀ c ∈ A, c.toNat < 65) (hC : ∀ c ∈ C, c.toNat < 65) (h1 : 96 < b1.toNat) (h2 : 96 < b2.toNat) (hx : 64 < x.toNat) (hx9 : x.toNat < 91)
    (h : contains (A ++ ([b0, b1, b2] ++ C)) [x, y, z] = true) : [x, y, z] = [b0, b1, b2] := by
  obtain ⟨i, hi⟩ := occ_of_contains h
  have hxi := occ_at hi
  rcases Nat.lt_or_ge i A.length with q | q
  · rw [List.getElem?_append_left q] at hxi
    have := hA x (List.mem_of_getElem? hxi)
    omega
  · rw [List.getElem?_append_right q] at hxi
    obtain ⟨j, hj⟩ : ∃ j, j = i - A.length := ⟨_, rfl⟩
    rw [← hj] at hxi
    match j, hxi, hj with
    | 0, _, hj =>
      have ei : i = A.length := by omega
      unfold occAt at hi
      rw [ei, List.drop_left, List.isPrefixOf_iff_prefix] at hi
      obtain ⟨t, ht⟩ := hi
      have := congrArg (List.take 3) ht
      simpa using this
    | 1, hxi, _ => have e : b1 = x := by simpa using hxi
                   subst e; omega
    | 2, hxi, _ => have e : b2 = x := by simpa using hxi
                   subst e; omega
    | j + 3, hxi, _ =>
      have e : C[j]? = some x := by simpa using hxi
      have := hC x (List.mem_of_getElem? e)
      omega
theorem monA_at : ∀ q, q < 12 → ∃ b0 b1 b2 : UInt8, monA q = [b0, b1, b2] ∧ 64 < b0.toNat ∧ b0.toNat < 91 ∧ 96 < b1.toNat ∧ 96 < b2.toNat := by
  intro q h
  match q, h with
  | 0, _ | 1, _ | 2, _ | 3, _ | 4, _ | 5, _ | 6, _ | 7, _ | 8, _ | 9, _ | 10, _ | 11, _ => exact ⟨_, _, _, rfl, by decide, by decide, by decide, by decide⟩
theorem monA_inj : ∀ j, j < 12 → ∀ q, q < 12 → monA j = monA q → j = q := by decide
theorem monFrom_at (l : List UInt8) (q : Nat) (hq : contains l (monA q) = true) : ∀ k m, m ≤ q → q < m + k → (∀ j, m ≤ j → j < q → contains l (monA j) = false) → monFrom l k m = (q : Int)
  | 0, m, h1, h2, _ => by omega
  | k + 1, m, h1, h2, h3 => by
    unfold monFrom
    by_cases e : m = q
    · subst e
      rw [if_pos hq]
    · rw [if_neg (by rw [h3 m (Nat.le_refl _) (by omega)]; decide)]
      exact monFrom_at l q hq k (m + 1) (by omega) (by omega) (fun j a b => h3 j (by omega) b)
theorem dgt_lt65 (n : Nat) : (dgt n).toNat < 65 := by rw [dgt_nat]; omega
theorem dd_lt65 (n : Nat) : ∀ c ∈ decDigits n, c.toNat < 65 := by
  induction n using Nat.strongRecOn with
  | ind n ih =>
    intro c hc
    by_cases h : n < 10
    · rw [dd_small h, List.mem_singleton] at hc
      rw [hc]; exact dgt_lt65 n
    · rw [dd_big h, List.mem_append, List.mem_singleton] at hc
      rcases hc with hc | hc
      · exact ih _ (by omega) c hc
      · rw [hc]; exact dgt_lt65 n
theorem padd_lt65 (n w : Nat) : ∀ c ∈ padd n w, c.toNat < 65 := by
  intro c hc
  unfold padd at hc
  rw [List.mem_append] at hc
  rcases hc with hc | hc
  · rw [List.eq_of_mem_replicate hc]; decide
  · exact dd_lt65 n c hc
theorem normL_eq (y m k : Nat) (h1 : 1 ≤ m) : normL y m k = (decDigits k ++ [32]) ++ (monA (m - 1) ++ ([32] ++ padd y 4)) := by
  unfold normL monA monN
  simp
theorem norm_mon (y m k : Nat) (h1 : 1 ≤ m) (h12 : m ≤ 12) : 1 + monV (normL y m k) = (m : Int) := by
  obtain ⟨b0, b1, b2, e, b3, b4, b5, b6⟩ := monA_at (m - 1) (by omega)
  have hA : ∀ c ∈ decDigits k ++ [32], c.toNat < 65 := by
    intro c hc
    rw [List.mem_append, List.mem_singleton] at hc
    rcases hc with hc | hc
    · exact dd_lt65 k c hc
    · rw [hc]; decide
  have hC : ∀ c ∈ [32] ++ padd y 4, c.toNat < 65 := by
    intro c hc
    rw [List.mem_append, List.mem_singleton] at hc
    rcases hc with hc | hc
    · rw [hc]; decide
    · exact padd_lt65 y 4 c hc
  have hq : contains (normL y m k) (monA (m - 1)) = true := by
    rw [normL_eq y m k h1]
    exact contains_of_occ (by simp) (occ_here _ _ _)
  have hn : ∀ j, 0 ≤ j → j < m - 1 → contains (normL y m k) (monA j) = false := by
    intro j _ hj
    cases hc : contains (normL y m k) (monA j) with
    | false => rfl
    | true =>
      obtain ⟨x, y', z, ej, x1, x2, _, _⟩ := monA_at j (by omega)
      rw [normL_eq y m k h1, e, ej] at hc
      have := one_name _ _ b0 b1 b2 x y' z hA hC b5 b6 x1 x2 hc
      rw [← e, ← ej] at this
      have := monA_inj j (by omega) (m - 1) (by omega) this
      omega
  have := monFrom_at (normL y m k) (m - 1) hq 12 0 (by omega) (by omega) hn
  unfold monV
  rw [this]
  omega
theorem norm_nums (y m k : Nat) (hy : y ≤ 9999) (h1 : 1 ≤ m) (h12 : m ≤ 12) (hk : k ≤ 31) : num1 (normL y m k) = (k : Int) ∧ num2 (normL y m k) = (y : Int) := by
  obtain ⟨b0, b1, b2, e, b3, b4, b5, b6⟩ := monA_at (m - 1) (by omega)
  have hi : ∀ b : UInt8, 64 < b.toNat → isDg b = false := by
    intro b hb
    cases h : isDg b with
    | false => rfl
    | true =>
      exfalso
      unfold isDg digs at h
      simp only [List.contains_eq_mem, List.mem_cons, List.not_mem_nil, or_false, decide_eq_true_eq] at h
      rcases h with rfl | rfl | rfl | rfl | rfl | rfl | rfl | rfl | rfl | rfl <;> revert hb <;> decide
  have e1 := num_padd [] ([32] ++ (monA (m - 1) ++ ([32] ++ padd y 4))) k 1 (fun c hc => by cases hc) (.inr ⟨32, _, rfl, by decide⟩) (by rw [padd_low]; exact dd11 (by omega))
  have e2 := num_padd ([32] ++ (monA (m - 1) ++ [32])) [] y 4 (by
    rw [e]
    intro c hc
    simp only [List.mem_append, List.mem_cons, List.not_mem_nil, or_false] at hc
    rcases hc with rfl | (rfl | rfl | rfl) | rfl
    · decide
    · exact hi _ b3
    · exact hi _ (by omega)
    · exact hi _ (by omega)
    · decide) (.inl rfl) (p4len hy)
  rw [List.nil_append, padd_low] at e1
  rw [List.append_nil] at e2
  have en : normL y m k = decDigits k ++ ([32] ++ (monA (m - 1) ++ ([32] ++ padd y 4))) := by rw [normL_eq y m k h1, List.append_assoc]
  have en2 : [32] ++ (monA (m - 1) ++ ([32] ++ padd y 4)) = ([32] ++ (monA (m - 1) ++ [32])) ++ padd y 4 := by simp
  unfold num1 num2
  rw [en, e1.1, e1.2, en2, e2.1]
  exact ⟨rfl, rfl⟩
theorem days_eq {n y m k : Nat} (hd : IsDate n y m k) : bef (y - 1) ≤ n := by rw [hd.eq]; omega
end Tx
end Go.Proofs.YtmjifmlibgpjiaaGreatDoor
