/- TextSplits: its lists. -/
import Derived.Test.YtoilgjlbpimcpaaDoorUc
import Derived.Test.YtoilgjlbpimcpaaDoorTh
namespace Go.Proofs.YtoilgjlbpimcpaaDoor
open Go.RowKit Go.Shelf Tx
set_option linter.unusedVariables false
set_option maxRecDepth 100000

theorem valid_iff {l : List UInt8} : validL l = true ↔ l.length ≤ 1000 ∧ ∀ c ∈ l, padI (c.toNat : Int) = true := by
  unfold validL cleanL
  simp [List.all_eq_true]
theorem valid_sub {l m : List UInt8} (h : validL l = true) (hm : m.length ≤ 1000) (hs : ∀ c ∈ m, c ∈ l) : validL m = true :=
  valid_iff.2 ⟨hm, fun c hc => (valid_iff.1 h).2 c (hs c hc)⟩
theorem valid_reverse {l : List UInt8} (h : validL l = true) : validL l.reverse = true :=
  valid_sub h (by simpa using (valid_iff.1 h).1) (fun c hc => by simpa using hc)
theorem left_take {l : List UInt8} {k : Nat} (h : validL l = true) (hk : k ≤ l.length) : resR shL l k 42 = (l.take k, 0) := by
  have hl := (valid_iff.1 h).1
  unfold resR
  rw [h, show (padI 42) = true by decide]
  simp only [Bool.true_and, show decide ((0 : Int) ≤ (k : Int)) = true by simp, if_true, if_neg (show ¬ (1000 : Int) < (k : Int) by omega), Int.toNat_natCast]
  unfold resL shL
  split
  · simp
  · have : k = l.length := by omega
    subst this
    simp
theorem substr_drop {l : List UInt8} {k : Nat} (h : validL l = true) : substrR l ((k : Int) + 1) (-1) 42 = (l.drop k, 0) := by
  unfold substrR guardR
  rw [h, show (padI 42) = true by decide, show ((k : Int) + 1 - 1).toNat = k by omega]
  simp
  omega
theorem reverse_twice {l : List UInt8} (h : validL l = true) : reverseR l.reverse = (l, 0) := by
  unfold reverseR; rw [valid_reverse h]; simp
theorem reverse_once {l : List UInt8} (h : validL l = true) : reverseR l = (l.reverse, 0) := by
  unfold reverseR; rw [h]; simp
/-- Left of the reversed string, as a list. -/
def splX (l : List UInt8) (m : Nat) : List UInt8 := resL shL l.reverse m 42
def splY (l : List UInt8) (m : Nat) : List UInt8 := resL shR l m 42
theorem left_x {l : List UInt8} {m : Nat} (h : validL l = true) (hm : m ≤ 255) : resR shL l.reverse m 42 = (splX l m, 0) := by
  unfold resR
  rw [valid_reverse h, show (padI 42) = true by decide]
  simp only [Bool.true_and, show decide ((0 : Int) ≤ (m : Int)) = true by simp, if_true, if_neg (show ¬ (1000 : Int) < (m : Int) by omega), Int.toNat_natCast]
  rfl
theorem right_y {l : List UInt8} {m : Nat} (h : validL l = true) (hm : m ≤ 255) : resR shR l m 42 = (splY l m, 0) := by
  unfold resR
  rw [h, show (padI 42) = true by decide]
  simp only [Bool.true_and, show decide ((0 : Int) ≤ (m : Int)) = true by simp, if_true, if_neg (show ¬ (1000 : Int) < (m : Int) by omega), Int.toNat_natCast]
  rfl
theorem spl_rev (l : List UInt8) (m : Nat) : (splY l m).reverse = splX l m := by
  unfold splX splY resL shL shR
  rw [List.length_reverse]
  by_cases h : m < l.length
  · rw [if_pos h, if_pos h, List.drop_zero, List.take_of_length_le (by rw [List.length_drop]; omega), List.take_reverse]
  · rw [if_neg h, if_neg h]
    simp
theorem valid_y {l : List UInt8} {m : Nat} (h : validL l = true) (hm : m ≤ 255) : validL (splY l m) = true := by
  have hl := valid_iff.1 h
  unfold splY resL shR
  split
  · exact valid_sub h (by simp; omega) (fun c hc => List.mem_of_mem_drop (List.mem_of_mem_take hc))
  · refine valid_iff.2 ⟨by simp; omega, fun c hc => ?_⟩
    simp only [Nat.sub_self, List.replicate_zero, List.append_nil, List.mem_append, List.mem_replicate] at hc
    rcases hc with ⟨_, rfl⟩ | hc
    · decide
    · exact hl.2 c hc
/-- What DelStr leaves, and what Substr takes. -/
def splP (l : List UInt8) (n m : Nat) : List UInt8 := l.take n ++ l.drop (n + m)
def splQ (l : List UInt8) (n m : Nat) : List UInt8 := (l.drop n).take m
theorem del_p {l : List UInt8} {n m : Nat} (h : validL l = true) : delStrR l ((n : Int) + 1) m = (splP l n m, 0) := by
  unfold delStrR guardR splP
  rw [h, show ((n : Int) + 1 - 1).toNat = n by omega]
  simp [List.drop_drop]
  omega
theorem sub_q {l : List UInt8} {n m : Nat} (h : validL l = true) (hm : m ≤ 255) (hl : n + m ≤ l.length) : substrR l ((n : Int) + 1) m 42 = (splQ l n m, 0) := by
  unfold substrR guardR splQ
  rw [h, show ((n : Int) + 1 - 1).toNat = n by omega, show (padI 42) = true by decide]
  rw [if_neg (show ¬ (m : Int) = -1 by omega), if_neg (show ¬ (1000 : Int) < (m : Int) by omega), Int.toNat_natCast]
  unfold fitL
  rw [show m - (l.drop n).length = 0 by rw [List.length_drop]; omega]
  simp
  omega
theorem splP_length {l : List UInt8} {n m : Nat} (hl : n + m ≤ l.length) : (splP l n m).length = l.length - m := by unfold splP; simp; omega
theorem splQ_length {l : List UInt8} {n m : Nat} (hl : n + m ≤ l.length) : (splQ l n m).length = m := by unfold splQ; simp; omega
theorem spl_ins {l : List UInt8} {n m : Nat} (h : validL l = true) (hm : m ≤ 255) (hl : n + m ≤ l.length) : insertR (splQ l n m) (splP l n m) n (-1) 42 = (l, 0) := by
  have hv := valid_iff.1 h
  have hp := splP_length hl
  have hq := splQ_length hl
  have vp : validL (splP l n m) = true := valid_sub h (by omega) (fun c hc => by
    unfold splP at hc
    rcases List.mem_append.1 hc with hc | hc
    · exact List.mem_of_mem_take hc
    · exact List.mem_of_mem_drop hc)
  have vq : validL (splQ l n m) = true := valid_sub h (by omega) (fun c hc => List.mem_of_mem_drop (List.mem_of_mem_take hc))
  unfold insertR guardR
  rw [vp, vq, show (padI 42) = true by decide, Int.toNat_natCast, hq]
  rw [if_pos (by simp), if_pos rfl]
  unfold insertB
  rw [hp, if_neg (by omega)]
  unfold fitL
  rw [hp, hq, show n - (l.length - m) = 0 by omega, show m - m = 0 by omega]
  unfold splP splQ
  simp only [List.replicate_zero, List.append_nil]
  rw [List.take_append_of_le_length (by simp; omega), List.take_take, Nat.min_self, List.take_take, Nat.min_self, List.drop_append_of_le_length (by simp; omega)]
  rw [List.drop_eq_nil_of_le (by simp; omega : (l.take n).length ≤ n), List.nil_append]
  have e : (l.drop n).take m ++ l.drop (n + m) = l.drop n := by rw [← List.drop_drop, List.take_append_drop]
  rw [List.append_assoc, e, List.take_append_drop]
end Go.Proofs.YtoilgjlbpimcpaaDoor
