/- TextWordy: the lists. -/
import Derived.Test.YtoilgjlbpimcpaaDoorZx
namespace Go.Proofs.YtoilgjlbpimcpaaDoor
open Go.RowKit Go.Shelf Tx
set_option linter.unusedVariables false
set_option maxRecDepth 100000

namespace Tx
/-- A word ends here, or there is none. -/
def Bk (l : List UInt8) (k : Nat) : Prop := ¬ (k < l.length ∧ l[k]? ≠ some 32)
theorem wst_bk {l : List UInt8} {k : Nat} (h : Bk l k) : wst l (k + 1) = ((if (wst l k).2 < k then (wst l k).1 ++ [((wst l k).2, k)] else (wst l k).1), k + 1) := by rw [wst, if_neg h]
theorem wst_app (a r : List UInt8) : ∀ k, k ≤ a.length → wst (a ++ r) k = wst a k
  | 0, _ => rfl
  | k + 1, h => by
    have hc : (k < (a ++ r).length ∧ (a ++ r)[k]? ≠ some 32) ↔ (k < a.length ∧ a[k]? ≠ some 32) := by
      rw [List.getElem?_append_left (by omega), List.length_append]
      constructor <;> (rintro ⟨_, h⟩; exact ⟨by omega, h⟩)
    rw [wst, wst, wst_app a r k (by omega)]
    simp only [hc]
def sh (n : Nat) (p : Nat × Nat) : Nat × Nat := (p.1 + n, p.2 + n)
theorem bk_len {l : List UInt8} {k : Nat} (h : l.length ≤ k) : Bk l k := fun hh => by omega
theorem bk_32 {l : List UInt8} {k : Nat} (h : l[k]? = some 32) : Bk l k := fun hh => hh.2 h
theorem wst_head (a b : List UInt8) : wst (a ++ 32 :: b) (a.length + 1) = wst a (a.length + 1) := by
  rw [wst_bk (bk_32 (by simp)), wst_bk (bk_len (Nat.le_refl _)), wst_app a _ _ (Nat.le_refl _)]
theorem wst_shift (a b : List UInt8) : ∀ j, j ≤ b.length + 1 → wst (a ++ 32 :: b) (a.length + 1 + j) = (spans a ++ (wst b j).1.map (sh (a.length + 1)), (wst b j).2 + (a.length + 1))
  | 0, _ => by
    rw [Nat.add_zero, wst_head]
    have h := wst_bk (l := a) (bk_len (Nat.le_refl a.length))
    show wst a (a.length + 1) = ((wst a (a.length + 1)).1 ++ [], 0 + (a.length + 1))
    rw [List.append_nil, Nat.zero_add]
    rw [h]
  | j + 1, h => by
    have e : (a ++ 32 :: b)[a.length + 1 + j]? = b[j]? := by
      rw [List.getElem?_append_right (by omega), show a.length + 1 + j - a.length = j + 1 by omega, List.getElem?_cons_succ]
    have hc : (a.length + 1 + j < (a ++ 32 :: b).length ∧ (a ++ 32 :: b)[a.length + 1 + j]? ≠ some 32) ↔ (j < b.length ∧ b[j]? ≠ some 32) := by
      rw [e, List.length_append, List.length_cons]
      constructor <;> (rintro ⟨_, h⟩; exact ⟨by omega, h⟩)
    rw [← Nat.add_assoc, wst, wst, wst_shift a b j (by omega)]
    simp only [hc]
    by_cases hb : j < b.length ∧ b[j]? ≠ some 32
    · rw [if_pos hb, if_pos hb]
    · rw [if_neg hb, if_neg hb]
      by_cases hf : (wst b j).2 < j
      · rw [if_pos (by omega), if_pos hf, List.map_append, List.append_assoc]
        simp only [List.map_cons, List.map_nil, sh]
        congr 1
        · congr 4; omega
        · omega
      · rw [if_neg (by omega), if_neg hf]
        congr 1
        omega
theorem spans_cat (a b : List UInt8) : spans (a ++ 32 :: b) = spans a ++ (spans b).map (sh (a.length + 1)) := by
  have := wst_shift a b (b.length + 1) (Nat.le_refl _)
  unfold spans at *
  rw [show (a ++ 32 :: b).length + 1 = a.length + 1 + (b.length + 1) by simp; omega, this]
theorem words_cat (a b : List UInt8) : wordsL (a ++ 32 :: b) = wordsL a ++ wordsL b := by
  unfold wordsL
  rw [spans_cat, List.map_append, List.map_map]
  congr 1
  · apply List.map_congr_left
    intro p hp
    have := (spans_inv a).1 p hp
    unfold wordL
    rw [List.take_append_of_le_length this.2]
  · apply List.map_congr_left
    intro q _
    show wordL _ (sh (a.length + 1) q) = wordL b q
    unfold wordL sh
    have e : a ++ 32 :: b = (a ++ [32]) ++ b := by simp
    rw [e, show q.2 + (a.length + 1) = (a ++ [(32 : UInt8)]).length + q.2 by simp; omega, List.take_length_add_append, show q.1 + (a.length + 1) = (a ++ [(32 : UInt8)]).length + q.1 by simp; omega, List.drop_length_add_append]
theorem words_nil : wordsL [] = [] := rfl
theorem words_lead (b : List UInt8) : wordsL (32 :: b) = wordsL b := by
  have := words_cat [] b
  rwa [words_nil, List.nil_append, List.nil_append] at this
/-- It ends with a blank, or is nothing. -/
def EndB (a : List UInt8) : Prop := a = [] ∨ ∃ a', a = a' ++ [32]
def BegB (b : List UInt8) : Prop := b = [] ∨ ∃ b', b = 32 :: b'
theorem words_endB {a : List UInt8} (h : EndB a) (z : List UInt8) : wordsL (a ++ z) = wordsL a ++ wordsL z := by
  rcases h with rfl | ⟨a', rfl⟩
  · rw [words_nil]; rfl
  · rw [List.append_assoc, show [32] ++ z = 32 :: z from rfl, words_cat, words_cat a' [], words_nil, List.append_nil]
theorem words_begB {b : List UInt8} (h : BegB b) (z : List UInt8) : wordsL (z ++ b) = wordsL z ++ wordsL b := by
  rcases h with rfl | ⟨b', rfl⟩
  · rw [words_nil, List.append_nil, List.append_nil]
  · rw [words_cat, words_lead]
theorem words_trim : ∀ (b : List UInt8), wordsL (Lib.trimLeftB b 32) = wordsL b
  | [] => rfl
  | c :: b => by
    unfold Lib.trimLeftB
    by_cases hc : c = 32
    · subst hc
      rw [words_lead, ← words_trim b]
      rfl
    · rw [List.dropWhile_cons_of_neg (by simpa using hc)]
/-- Words, each with a byte, without blanks. -/
def Wds (ws : List (List UInt8)) : Prop := ∀ w ∈ ws, w ≠ [] ∧ ∀ c ∈ w, c ≠ 32
theorem wst_plain {l : List UInt8} (h : ∀ c ∈ l, c ≠ 32) : ∀ k, k ≤ l.length → wst l k = ([], 0)
  | 0, _ => rfl
  | k + 1, hk => by
    rw [wst_go (by omega) (by
      intro e
      exact h 32 (List.mem_of_getElem? e) rfl), wst_plain h k (by omega)]
theorem words_one {w : List UInt8} (h0 : w ≠ []) (h : ∀ c ∈ w, c ≠ 32) : wordsL w = [w] := by
  have hl : 0 < w.length := by cases w with | nil => exact absurd rfl h0 | cons _ _ => simp
  unfold wordsL spans
  rw [wst_end (bk_len (Nat.le_refl _)) (by rw [wst_plain h _ (Nat.le_refl _)]; exact hl), wst_plain h _ (Nat.le_refl _)]
  simp [wordL]
theorem words_join : ∀ (ws : List (List UInt8)), Wds ws → wordsL (Lib.join ws [32]) = ws
  | [], _ => rfl
  | [w], h => by
    have := h w (by simp)
    rw [Lib.join_one, words_one this.1 this.2]
  | w :: v :: r, h => by
    have hw := h w (by simp)
    have e : Lib.join (w :: v :: r) [32] = w ++ 32 :: Lib.join (v :: r) [32] := by rw [Lib.join_cons, Lib.join_cons]; simp [Lib.joinTail]
    rw [e, words_cat, words_one hw.1 hw.2, words_join (v :: r) (fun x hx => h x (List.mem_cons_of_mem _ hx))]
    rfl
/-- What stands in a word is no blank. -/
theorem wst_in (l : List UInt8) : ∀ k, (∀ p ∈ (wst l k).1, ∀ j, p.1 ≤ j → j < p.2 → l[j]? ≠ some 32) ∧ ∀ j, (wst l k).2 ≤ j → j < k → l[j]? ≠ some 32
  | 0 => ⟨fun p hp => (by cases hp), fun j _ h => (by omega)⟩
  | k + 1 => by
    obtain ⟨h1, h2⟩ := wst_in l k
    by_cases h : k < l.length ∧ l[k]? ≠ some 32
    · rw [wst_go h.1 h.2]
      refine ⟨h1, fun j hj hk => ?_⟩
      by_cases e : j = k
      · subst e; exact h.2
      · exact h2 j hj (by omega)
    · by_cases hf : (wst l k).2 < k
      · rw [wst_end h hf]
        refine ⟨fun p hp => ?_, fun j hj hk => by simp only at hj; omega⟩
        rcases List.mem_append.1 hp with hp | hp
        · exact h1 p hp
        · rw [List.mem_singleton.1 hp]; exact h2
      · rw [wst_no h hf]
        exact ⟨h1, fun j hj hk => by simp only at hj; omega⟩
theorem words_are (l : List UInt8) : Wds (wordsL l) := by
  intro w hw
  unfold wordsL at hw
  obtain ⟨p, hp, rfl⟩ := List.mem_map.1 hw
  have h1 := (spans_inv l).1 p hp
  have h2 := (wst_in l (l.length + 1)).1 p hp
  constructor
  · intro e
    have := congrArg List.length e
    simp [wordL] at this
    omega
  · intro c hc e
    subst e
    unfold wordL at hc
    obtain ⟨i, hi⟩ := List.mem_iff_getElem?.1 hc
    rw [List.getElem?_drop, List.getElem?_take] at hi
    split at hi
    · exact h2 (p.1 + i) (by omega) (by omega) hi
    · cases hi
theorem wst_self (l : List UInt8) : ∀ k, wst l ((wst l k).2) = wst l k ∧ (wst l k).2 ≤ k ∧ ((wst l k).2 = 0 ∨ ∃ j, (wst l k).2 = j + 1 ∧ Bk l j)
  | 0 => ⟨rfl, Nat.le_refl _, .inl rfl⟩
  | k + 1 => by
    obtain ⟨h1, h2, h3⟩ := wst_self l k
    by_cases h : k < l.length ∧ l[k]? ≠ some 32
    · rw [wst_go h.1 h.2]; exact ⟨h1, by omega, h3⟩
    · have e := wst_bk (l := l) h
      have e2 : (wst l (k + 1)).2 = k + 1 := by rw [e]
      rw [e2]
      exact ⟨rfl, Nat.le_refl _, .inr ⟨k, rfl, h⟩⟩
/-- The i-th word, in the scan. -/
theorem wst_nth (l : List UInt8) : ∀ (k i : Nat) (p : Nat × Nat), (wst l k).1[i]? = some p → p.2 < k ∧ Bk l p.2 ∧ (wst l p.2).1 = (wst l k).1.take i ∧ (wst l p.2).2 = p.1 ∧ p.1 < p.2
  | 0, i, p, h => by cases h
  | k + 1, i, p, h => by
    by_cases hc : k < l.length ∧ l[k]? ≠ some 32
    · rw [wst_go hc.1 hc.2] at h ⊢
      obtain ⟨h1, h2⟩ := wst_nth l k i p h
      exact ⟨by omega, h2⟩
    · by_cases hf : (wst l k).2 < k
      · rw [wst_end hc hf] at h ⊢
        simp only at h ⊢
        by_cases hi : i < (wst l k).1.length
        · rw [List.getElem?_append_left hi] at h
          obtain ⟨h1, h2, h3, h4⟩ := wst_nth l k i p h
          exact ⟨by omega, h2, by rw [h3, List.take_append_of_le_length (by omega)], h4⟩
        · rw [List.getElem?_append_right (by omega)] at h
          have hie : i = (wst l k).1.length := by
            have := (List.getElem?_eq_some_iff.1 h).1
            simp at this; omega
          subst hie
          rw [Nat.sub_self] at h
          simp at h
          subst h
          exact ⟨by simp, hc, by simp, rfl, hf⟩
      · rw [wst_no hc hf] at h ⊢
        simp only at h ⊢
        obtain ⟨h1, h2⟩ := wst_nth l k i p h
        exact ⟨by omega, h2⟩
theorem spans_cut {l : List UInt8} {t : Nat} (ht : t ≤ l.length) (h : Bk l t) : spans (l.take t) = (wst l (t + 1)).1 := by
  have hl : (l.take t).length = t := by rw [List.length_take]; omega
  unfold spans
  have e := wst_app (l.take t) (l.drop t) t (by omega)
  rw [List.take_append_drop] at e
  rw [hl, wst_bk (bk_len (by omega)), wst_bk h, e]
theorem spans_cut0 {l : List UInt8} {f : Nat} (hf : f ≤ l.length) (h : (wst l f).2 = f) : spans (l.take f) = (wst l f).1 := by
  have hl : (l.take f).length = f := by rw [List.length_take]; omega
  unfold spans
  have e := wst_app (l.take f) (l.drop f) f (by omega)
  rw [List.take_append_drop] at e
  rw [hl, wst_bk (bk_len (by omega)), ← e, if_neg (by omega)]
theorem words_cut {l : List UInt8} {t i : Nat} (h : spans (l.take t) = (spans l).take i) : wordsL (l.take t) = (wordsL l).take i := by
  unfold wordsL
  rw [h, List.map_take]
  have hp : ∀ p ∈ (spans l).take i, wordL (l.take t) p = wordL l p := by
    intro p hp
    rw [← h] at hp
    have := ((spans_inv (l.take t)).1 p hp).2
    rw [List.length_take] at this
    unfold wordL
    rw [List.take_take, Nat.min_eq_left (by omega)]
  rw [← List.map_take, ← List.map_take]
  exact List.map_congr_left hp
/-- Words taken out of a string. -/
theorem words_part {l : List UInt8} {i j : Nat} {p q : Nat × Nat} (hij : i ≤ j) (hp : (spans l)[i]? = some p) (hq : (spans l)[j]? = some q) :
    p.1 < q.2 ∧ q.2 ≤ l.length ∧ wordsL ((l.drop p.1).take (q.2 - p.1)) = ((wordsL l).take (j + 1)).drop i ∧ wordsL (l.take p.1 ++ Lib.trimLeftB (l.drop q.2) 32) = (wordsL l).take i ++ (wordsL l).drop (j + 1) := by
  have hp1 := (spans_inv l).1 p (List.mem_of_getElem? hp)
  have hq1 := (spans_inv l).1 q (List.mem_of_getElem? hq)
  have hjl := (List.getElem?_eq_some_iff.1 hq).1
  have hil := (List.getElem?_eq_some_iff.1 hp).1
  have hord := spans_order l hij hjl
  rw [List.getD_eq_getElem?_getD, List.getD_eq_getElem?_getD, hp, hq] at hord
  simp only [Option.getD_some] at hord
  obtain ⟨a1, a2, a3, a4, a5⟩ := wst_nth l _ i p hp
  obtain ⟨b1, b2, b3, b4, b5⟩ := wst_nth l _ j q hq
  -- ahead of the first word
  obtain ⟨s1, s2, s3⟩ := wst_self l p.2
  rw [a4] at s1 s2 s3
  have hA : wordsL (l.take p.1) = (wordsL l).take i := words_cut (by rw [spans_cut0 (by omega) (by rw [s1, a4]), s1, a3]; rfl)
  have hAe : EndB (l.take p.1) := by
    rcases s3 with h | ⟨k, h, hb⟩
    · exact .inl (by rw [h]; rfl)
    · refine .inr ⟨l.take k, ?_⟩
      have hk : k < l.length := by omega
      have : l[k]? = some 32 := Decidable.byContradiction (fun e => hb ⟨hk, e⟩)
      rw [h, List.take_add_one, this]; rfl
  -- up to the last word
  have hT : wordsL (l.take q.2) = (wordsL l).take (j + 1) := words_cut (by
    rw [spans_cut hq1.2 b2, wst_bk b2, b4, if_pos b5, b3]
    show ((spans l).take j) ++ [(q.1, q.2)] = (spans l).take (j + 1)
    rw [List.take_add_one, hq]; rfl)
  have hBb : BegB (l.drop q.2) := by
    by_cases h : q.2 < l.length
    · have : l[q.2]? = some 32 := Decidable.byContradiction (fun e => b2 ⟨h, e⟩)
      refine .inr ⟨l.drop (q.2 + 1), ?_⟩
      rw [List.drop_eq_getElem_cons h]
      rw [List.getElem?_eq_getElem h] at this
      rw [Option.some.inj this]
    · exact .inl (List.drop_of_length_le (by omega))
  have hx : l.take q.2 = l.take p.1 ++ (l.drop p.1).take (q.2 - p.1) := by
    have := (List.take_append_drop p.1 (l.take q.2)).symm
    rwa [List.take_take, Nat.min_eq_left (by omega), List.drop_take] at this
  refine ⟨hord.1, hq1.2, ?_, ?_⟩
  · have e := words_endB hAe ((l.drop p.1).take (q.2 - p.1))
    rw [← hx, hT, hA] at e
    rw [e]
    exact (List.drop_left' (by rw [List.length_take, wordsL_length]; omega)).symm
  · rw [words_endB hAe, hA, words_trim]
    congr 1
    have e := words_begB hBb (l.take q.2)
    rw [List.take_append_drop, hT] at e
    rw [e]
    exact (List.drop_left' (by rw [List.length_take, wordsL_length]; omega)).symm
theorem lens_count (l : List UInt8) : ∀ k, Lib.lens ((wst l k).1.map (wordL l)) + (wst l k).1.length ≤ (wst l k).2
  | 0 => by simp [wst, Lib.lens]
  | k + 1 => by
    have h1 := lens_count l k
    have h3 := wst_le l k
    by_cases h : k < l.length ∧ l[k]? ≠ some 32
    · rw [wst_go h.1 h.2]; exact h1
    · by_cases hf : (wst l k).2 < k
      · rw [wst_end h hf]
        have e : Lib.lens (((wst l k).1 ++ [((wst l k).2, k)]).map (wordL l)) ≤ Lib.lens ((wst l k).1.map (wordL l)) + (k - (wst l k).2) := by
          unfold Lib.lens
          simp [wordL]
          omega
        simp only [List.length_append, List.length_cons, List.length_nil]
        omega
      · rw [wst_no h hf]
        simp only
        omega
theorem join_le (l : List UInt8) (h : wordsL l ≠ []) : (Lib.join (wordsL l) [32]).length ≤ l.length ∧ Lib.lens (wordsL l) + ((wordsL l).length - 1) ≤ l.length := by
  have h0 : 0 < (wordsL l).length := by cases hh : wordsL l with | nil => exact absurd hh h | cons _ _ => simp
  have h1 := lens_count l (l.length + 1)
  have h2 := wst_le l (l.length + 1)
  have h3 : Lib.lens (wordsL l) + (wordsL l).length ≤ l.length + 1 := by
    unfold wordsL
    rw [List.length_map]
    exact Nat.le_trans h1 h2
  rw [join_len _ h0]
  simp only [List.length_cons, List.length_nil]
  omega
end Tx
end Go.Proofs.YtoilgjlbpimcpaaDoor
