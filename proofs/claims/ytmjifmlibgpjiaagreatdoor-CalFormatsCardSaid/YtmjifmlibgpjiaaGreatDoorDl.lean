/- Numbers in a text: plain lemmas. -/
import Derived.Test.YtmjifmlibgpjiaaGreatDoorFa
import Derived.Lib.Atoi
import Derived.Lib.IndexAny
import Derived.Lib.SlTrimSet
namespace Go.Proofs.YtmjifmlibgpjiaaGreatDoor
open Go.Lib
namespace Tx
def digs : List UInt8 := [48, 49, 50, 51, 52, 53, 54, 55, 56, 57]
def isDg (c : UInt8) : Bool := digs.contains c
def nSkip (l : List UInt8) : List UInt8 := l.dropWhile (fun c => !isDg c)
def nHead (l : List UInt8) : List UInt8 := l.takeWhile (fun c => !isDg c)
def nTake (l : List UInt8) : List UInt8 := (nSkip l).takeWhile isDg
def nRest (l : List UInt8) : List UInt8 := (nSkip l).dropWhile isDg
/-- The next number of a text; what is left of it. -/
def numV (l : List UInt8) : Int := if 11 < (nTake l).length then -1 else match decNat (nTake l) with | some n => (n : Int) | none => -1
def numR (l : List UInt8) : List UInt8 := if nTake l = [] then l else nRest l
theorem nParts (l : List UInt8) : l = nHead l ++ (nTake l ++ nRest l) := by
  unfold nTake nRest
  rw [List.takeWhile_append_dropWhile]
  unfold nHead nSkip
  rw [List.takeWhile_append_dropWhile]
theorem nDrop (l : List UInt8) : l.drop (nHead l).length = nSkip l := by
  have h : l = nHead l ++ nSkip l := by unfold nHead nSkip; rw [List.takeWhile_append_dropWhile]
  conv => lhs; rw [h]
  rw [List.drop_append_of_le_length (by rw [show nHead (nHead l ++ nSkip l) = nHead l by rw [← h]]; exact Nat.le_refl _), show nHead (nHead l ++ nSkip l) = nHead l by rw [← h], List.drop_length, List.nil_append]
theorem idx_some : ∀ l : List UInt8, nTake l ≠ [] → indexAny l digs = ((nHead l).length : Int)
  | [], h => absurd rfl h
  | c :: l, h => by
    cases hc : isDg c with
    | true =>
      have h1 : nHead (c :: l) = [] := by unfold nHead; simp [hc]
      rw [h1, indexAny, if_pos (show digs.contains c = true from hc)]; rfl
    | false =>
      have h1 : nHead (c :: l) = c :: nHead l := by unfold nHead; simp [hc]
      have h2 : nTake (c :: l) = nTake l := by unfold nTake nSkip; simp [hc]
      have ih := idx_some l (by rw [← h2]; exact h)
      rw [indexAny, if_neg (show ¬ digs.contains c = true by rw [show digs.contains c = false from hc]; simp), ih, h1]
      have : ((((nHead l).length : Int)) == -1) = false := beq_eq_false_iff_ne.2 (by omega)
      rw [this]; simp
theorem idx_none : ∀ l : List UInt8, nTake l = [] → indexAny l digs = -1
  | [], _ => rfl
  | c :: l, h => by
    cases hc : isDg c with
    | true => exfalso; unfold nTake nSkip at h; simp [hc] at h
    | false =>
      have h2 : nTake (c :: l) = nTake l := by unfold nTake nSkip; simp [hc]
      have ih := idx_none l (by rw [← h2]; exact h)
      rw [indexAny, if_neg (show ¬ digs.contains c = true by rw [show digs.contains c = false from hc]; simp), ih]
      rfl
theorem nTake_all (l : List UInt8) : ∀ c ∈ nTake l, isDg c = true := by
  intro c hc
  unfold nTake at hc
  have := List.all_takeWhile (p := isDg) (l := nSkip l)
  exact List.all_eq_true.1 this c hc
theorem decFrom_digs : ∀ (l : List UInt8) (a : Nat), (∀ c ∈ l, isDg c = true) → ∃ n, decFrom a l = some n
  | [], a, _ => ⟨a, rfl⟩
  | c :: l, a, h => by
    have hc := h c (by simp)
    have : ∃ d, digitVal c = some d := by
      unfold isDg digs at hc
      simp only [List.contains_eq_mem, List.mem_cons, List.not_mem_nil, or_false, decide_eq_true_eq] at hc
      rcases hc with rfl | rfl | rfl | rfl | rfl | rfl | rfl | rfl | rfl | rfl <;> exact ⟨_, rfl⟩
    obtain ⟨d, hd⟩ := this
    obtain ⟨n, hn⟩ := decFrom_digs l (a * 10 + d) (fun x hx => h x (List.mem_cons_of_mem _ hx))
    first
      | exact ⟨n, by unfold decFrom; rw [hd]; exact hn⟩
      | exact ⟨n, by simp only [decFrom, hd]; exact hn⟩
theorem atoi_digs (l : List UInt8) (h : ∀ c ∈ l, isDg c = true) (hne : l ≠ []) : ∃ n, decNat l = some n ∧ atoi l = some (n : Int) := by
  obtain ⟨n, hn⟩ := decFrom_digs l 0 h
  cases l with
  | nil => exact absurd rfl hne
  | cons c l =>
    have hc := h c (by simp)
    have h1 : decNat (c :: l) = some n := by unfold decNat; simp [hn]
    refine ⟨n, h1, ?_⟩
    unfold atoi
    have e1 : (c == 45) = false := by
      rw [beq_eq_false_iff_ne]; rintro rfl; revert hc; decide
    have e2 : (c == 43) = false := by
      rw [beq_eq_false_iff_ne]; rintro rfl; revert hc; decide
    simp only [e1, e2, h1, Bool.false_eq_true, if_false, Option.map_some]
end Tx
end Go.Proofs.YtmjifmlibgpjiaaGreatDoor
