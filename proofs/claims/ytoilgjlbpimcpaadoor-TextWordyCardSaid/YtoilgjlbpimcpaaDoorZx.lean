/- Where the words of a phrase stand: the lists. -/
import Derived.Test.YtoilgjlbpimcpaaDoorZm
import Derived.Test.YtoilgjlbpimcpaaDoorTl
namespace Go.Proofs.YtoilgjlbpimcpaaDoor
open Go.RowKit Go.Shelf Tx
set_option linter.unusedVariables false
set_option maxRecDepth 100000

namespace Tx
/-- The words of a phrase stand at a place. -/
def occW (P L : List (List UInt8)) (x : Int) : Bool := decide ((L.drop x.toNat).take P.length = P)
def firstW (P L : List (List UInt8)) (R : List Int) : Int := if P = [] then -1 else (R.find? (occW P L)).getD (-1)
/-- From a place on. -/
def fromW (P L : List (List UInt8)) (i : Int) : Int := firstW P L (run i 1 ((L.length : Int) - P.length + 1 - i).toNat)
def wordPosR (p l : List UInt8) (n : Int) : Int × Int := guardN (validL p && validL l && decide (1 ≤ n)) (fromW (wordsL p) (wordsL l) (n - 1) + 1, 0)
theorem runW_up (a : Nat) (k : Nat) : run (a : Int) 1 (k + 1) = (a : Int) :: run ((a : Int) + 1) 1 k := by
  unfold run
  rw [List.range_succ_eq_map, List.map_cons, List.map_map]
  have e : (List.range k).map ((fun (i : Nat) => (a : Int) + 1 * (i : Int)) ∘ Nat.succ) = (List.range k).map (fun (i : Nat) => (a : Int) + 1 + 1 * (i : Int)) := by
    apply List.map_congr_left
    intro i _
    show (a : Int) + 1 * ((i + 1 : Nat) : Int) = (a : Int) + 1 + 1 * (i : Int)
    omega
  rw [e]
  simp
theorem fromW_stop {P L : List (List UInt8)} {i : Int} (h : (L.length : Int) - P.length < i) : fromW P L i = -1 := by
  unfold fromW
  rw [show ((L.length : Int) - P.length + 1 - i).toNat = 0 by omega]
  unfold firstW run
  split <;> rfl
theorem fromW_nil {P L : List (List UInt8)} {i : Int} (h : P = []) : fromW P L i = -1 := by unfold fromW firstW; rw [if_pos h]
theorem fromW_step {P L : List (List UInt8)} {i : Nat} (hp : P ≠ []) (h : (i : Int) ≤ (L.length : Int) - P.length) : fromW P L (i : Int) = if occW P L (i : Int) then (i : Int) else fromW P L ((i + 1 : Nat) : Int) := by
  unfold fromW firstW
  rw [if_neg hp, if_neg hp, show ((L.length : Int) - P.length + 1 - (i : Int)).toNat = ((L.length : Int) - P.length + 1 - ((i + 1 : Nat) : Int)).toNat + 1 by omega, runW_up, List.find?_cons]
  by_cases hb : occW P L (i : Int) = true
  · rw [hb]; rfl
  · rw [Bool.not_eq_true] at hb
    rw [hb]
    simp only [Bool.false_eq_true, if_false]
    rw [show (i : Int) + 1 = ((i + 1 : Nat) : Int) by omega]
theorem fromW_ge (P L : List (List UInt8)) (i : Int) (h : 0 ≤ i) : -1 ≤ fromW P L i ∧ fromW P L i ≤ L.length := by
  unfold fromW firstW
  split
  · omega
  · cases e : (run i 1 ((L.length : Int) - P.length + 1 - i).toNat).find? (occW P L) with
    | none => first | (simp; done) | (simp; omega)
    | some x =>
      obtain ⟨j, hj, rfl⟩ := mem_run (List.mem_of_find?_eq_some e)
      simp
      omega
theorem take_step {A B : List (List UInt8)} {k : Nat} {a b : List UInt8} (ha : A[k]? = some a) (hb : B[k]? = some b) : A.take (k + 1) = B.take (k + 1) ↔ (A.take k = B.take k ∧ a = b) := by
  rw [List.take_add_one, List.take_add_one, ha, hb]
  constructor
  · intro h
    have h2 := List.append_inj' h rfl
    exact ⟨h2.1, by simpa using h2.2⟩
  · rintro ⟨h1, rfl⟩
    rw [h1]
/-- So many words are the same. -/
def sameW (P L : List (List UInt8)) (i k : Nat) : Bool := decide ((L.drop i).take k = P.take k)
theorem sameW_zero (P L : List (List UInt8)) (i : Nat) : sameW P L i 0 = true := by unfold sameW; simp
theorem sameW_all (P L : List (List UInt8)) (i : Nat) : sameW P L i P.length = occW P L (i : Int) := by unfold sameW occW; rw [List.take_length, Int.toNat_natCast]
theorem sameW_step {P L : List (List UInt8)} {i k : Nat} {a b : List UInt8} (ha : L[i + k]? = some a) (hb : P[k]? = some b) : sameW P L i (k + 1) = (sameW P L i k && decide (a = b)) := by
  unfold sameW
  rw [Bool.eq_iff_iff, Bool.and_eq_true, decide_eq_true_eq, decide_eq_true_eq, decide_eq_true_eq]
  exact take_step (by rw [List.getElem?_drop]; exact ha) hb
theorem wordsL_get {l : List UInt8} {i : Nat} {p : Nat × Nat} (h : (spans l)[i]? = some p) : (wordsL l)[i]? = some (wordL l p) := by
  unfold wordsL; rw [List.getElem?_map, h]; rfl
theorem wordsL_nil {l : List UInt8} (h : (spans l).length = 0) : wordsL l = [] := List.eq_nil_of_length_eq_zero (by rw [wordsL_length]; exact h)
end Tx
end Go.Proofs.YtoilgjlbpimcpaaDoor
