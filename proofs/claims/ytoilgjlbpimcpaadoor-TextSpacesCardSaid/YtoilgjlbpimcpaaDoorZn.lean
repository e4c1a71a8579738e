/- The other program's Space: what it computes. No program is walked here. -/
import Derived.Test.YtoilgjlbpimcpaaDoorZm
import Derived.Test.YtoilgjlbpimcpaaDoorVl
namespace Go.Proofs.YtoilgjlbpimcpaaDoor
open Go.RowKit Go.Shelf Tx
set_option linter.unusedVariables false

namespace Tx
/-- The first i words, put together. -/
def jn (l : List UInt8) (m : Nat) (c : UInt8) (i : Nat) : List UInt8 := Lib.join ((wordsL l).take i) (List.replicate m c)
theorem jn_one {l : List UInt8} {m : Nat} {c : UInt8} {p : Nat × Nat} (h : (spans l)[0]? = some p) : jn l m c 1 = wordL l p := by
  unfold jn wordsL
  rw [List.take_add_one, List.take_zero, List.getElem?_map, h]
  exact Lib.join_one _ _
theorem jn_next {l : List UInt8} {m i : Nat} {c : UInt8} {p : Nat × Nat} (hi : 0 < i) (h : (spans l)[i]? = some p) : jn l m c (i + 1) = jn l m c i ++ List.replicate m c ++ wordL l p := by
  obtain ⟨j, rfl⟩ : ∃ j, i = j + 1 := ⟨i - 1, by omega⟩
  have hw : (wordsL l)[j + 1]? = some (wordL l p) := by unfold wordsL; rw [List.getElem?_map, h]; rfl
  unfold jn
  cases hx : wordsL l with
  | nil => rw [hx] at hw; simp at hw
  | cons x r =>
    rw [hx] at hw
    rw [List.take_succ_cons, List.take_succ_cons, Lib.join_cons, Lib.join_cons, Lib.joinTail_take_succ _ r j (wordL l p) (by simpa using hw)]
    simp [List.append_assoc]
theorem jn_all (l : List UInt8) (m : Nat) (c : UInt8) : jn l m c (spans l).length = Lib.join (wordsL l) (List.replicate m c) := by
  unfold jn
  rw [List.take_of_length_le (by rw [wordsL_length]; exact Nat.le_refl _)]
theorem jn_le {l : List UInt8} {m i : Nat} {c : UInt8} : (jn l m c i).length ≤ (Lib.join (wordsL l) (List.replicate m c)).length := by
  unfold jn
  cases hx : wordsL l with
  | nil => simp
  | cons x r =>
    cases i with
    | zero => simp [Lib.join_nil]
    | succ i =>
      rw [List.take_succ_cons, Lib.join_cons, Lib.join_cons, List.length_append, List.length_append]
      have := Lib.joinTail_take_le (List.replicate m c) r i
      omega
theorem jn_bd {l : List UInt8} {m i : Nat} {c : UInt8} : (jn l m c i).length ≤ m * (spans l).length + l.length := by
  refine Nat.le_trans jn_le ?_
  by_cases hk : (spans l).length = 0
  · have : wordsL l = [] := List.eq_nil_of_length_eq_zero (by rw [wordsL_length]; exact hk)
    rw [this]
    simp [Lib.join_nil]
  · rw [join_len _ (by rw [wordsL_length]; omega), wordsL_length, List.length_replicate]
    have h1 := lens_words l
    have h2 : m * ((spans l).length - 1) ≤ m * (spans l).length := Nat.mul_le_mul_left _ (by omega)
    omega
theorem word_clean {l : List UInt8} (h : cleanL l = true) (p : Nat × Nat) : cleanL (wordL l p) = true := cleanL_drop (cleanL_take h _) _
theorem jn_clean {l : List UInt8} {m : Nat} {c : UInt8} (h : cleanL l = true) (hc : padI (c.toNat : Int) = true) : cleanL (Lib.join (wordsL l) (List.replicate m c)) = true := by
  have key : ∀ L : List (Nat × Nat), cleanL (Lib.joinTail (List.replicate m c) (L.map (wordL l))) = true := by
    intro L
    induction L with
    | nil => rfl
    | cons p L ih =>
      have e : Lib.joinTail (List.replicate m c) ((p :: L).map (wordL l)) = List.replicate m c ++ wordL l p ++ Lib.joinTail (List.replicate m c) (L.map (wordL l)) := by
        unfold Lib.joinTail; simp [List.append_assoc]
      rw [e, cleanL_append, cleanL_append, clean_rep hc, word_clean h, ih]; rfl
  unfold wordsL
  cases hs : spans l with
  | nil => rfl
  | cons p L => rw [List.map_cons, Lib.join_cons, cleanL_append, word_clean h, key]; rfl
/-- Too long with the pads cut off exactly if it is too long. -/
theorem space_long {S n k : Nat} : (1000 < (S : Int) + timesS (n : Int) (k : Int)) ↔ 1000 < min n 1001 * k + S := by
  have h := (timesS_spec (n := (n : Int)) (len := (k : Int)) (by omega) (by omega))
  have hm : ((n * k : Nat) : Int) = (n : Int) * (k : Int) := Int.natCast_mul n k
  by_cases hk : k = 0
  · subst hk
    have h0 : timesS (n : Int) ((0 : Nat) : Int) = 0 := by
      unfold timesS
      rw [if_neg (by rintro ⟨h, _⟩; exact absurd h (by decide))]; simp
    rw [h0]; omega
  · by_cases hn : n ≤ 1001
    · rw [Nat.min_eq_left hn]
      by_cases hc : 0 < (k : Int) ∧ 1000 / (k : Int) < (n : Int)
      · have e : timesS (n : Int) (k : Int) = 1001 := by unfold timesS; rw [if_pos hc]
        rw [e] at h ⊢
        have := h.1.1 (by omega)
        omega
      · have e : timesS (n : Int) (k : Int) = (n : Int) * (k : Int) := by unfold timesS; rw [if_neg hc]
        rw [e]
        omega
    · have h1 : min n 1001 = 1001 := by omega
      have h2 : 1001 * 1 ≤ n * k := Nat.mul_le_mul (by omega) (by omega)
      have h3 : 1001 * 1 ≤ 1001 * k := Nat.mul_le_mul_left _ (by omega)
      have := h.1.2 (by omega)
      rw [h1]
      omega
theorem pb_c (c : UInt8) : pb (c.toNat : Int) = c := by unfold pb; simp [Nat.toUInt8]
theorem space_out {l : List UInt8} {n : Nat} {c : UInt8} (hv : validL l = true) (hp : padI (c.toNat : Int) = true) : outR (jn l (min n 1001) c (spans l).length) = spaceR l (n : Int) (c.toNat : Int) := by
  rw [jn_all]
  have hcl := jn_clean (m := min n 1001) (valid_clean hv) hp
  unfold spaceR guardR
  rw [hv, hp, decide_eq_true (Int.natCast_nonneg n), pb_c, Int.toNat_natCast]
  simp only [Bool.and_self, if_true]
  by_cases hk : (spans l).length = 0
  · rw [if_pos hk]
    have : wordsL l = [] := List.eq_nil_of_length_eq_zero (by rw [wordsL_length]; exact hk)
    rw [this]
    rfl
  · rw [if_neg hk]
    have hlen := join_len (xs := wordsL l) (List.replicate (min n 1001) c) (by rw [wordsL_length]; omega)
    rw [wordsL_length, List.length_replicate] at hlen
    by_cases h : 1000 < (Lib.lens (wordsL l) : Int) + timesS (n : Int) (((spans l).length - 1 : Nat) : Int)
    · rw [if_pos h, outR_long (by rw [hlen]; exact space_long.1 h)]
    · rw [if_neg h]
      have h2 : ¬ 1000 < min n 1001 * ((spans l).length - 1) + Lib.lens (wordsL l) := fun e => h (space_long.2 e)
      rw [outR_ok hcl (by rw [hlen]; omega)]
      congr 1
      by_cases hk1 : (spans l).length - 1 = 0
      · cases hs : wordsL l with
        | nil => rfl
        | cons x r =>
          have : r = [] := List.eq_nil_of_length_eq_zero (by have := wordsL_length l; rw [hs] at this; simp at this; omega)
          rw [this, Lib.join_one, Lib.join_one]
      · have h3 : min n 1001 * 1 ≤ min n 1001 * ((spans l).length - 1) := Nat.mul_le_mul_left _ (by omega)
        rw [show min n 1001 = n by omega]
theorem space_early {l : List UInt8} {n i : Nat} {c : UInt8} (hv : validL l = true) (hp : padI (c.toNat : Int) = true) (h : 1000 < (jn l (min n 1001) c i).length) : outR (jn l (min n 1001) c i) = spaceR l (n : Int) (c.toNat : Int) := by
  rw [← space_out hv hp, outR_long h, outR_long]
  rw [jn_all]
  exact Nat.lt_of_lt_of_le h jn_le
end Tx
end Go.Proofs.YtoilgjlbpimcpaaDoor
