/- TextOccurs: the lists. -/
import Derived.Test.YtoilgjlbpimcpaaDoorRe
import Derived.Test.YtoilgjlbpimcpaaDoorZt
namespace Go.Proofs.YtoilgjlbpimcpaaDoor
open Go.RowKit Go.Shelf Tx
set_option linter.unusedVariables false
set_option maxRecDepth 100000

namespace Tx
theorem at_no {l p : List UInt8} {i : Nat} (h : l.length < i + p.length) : atB l p i = false := by
  unfold atB
  rw [decide_eq_false (by omega)]; rfl
/-- What searching from a place on finds. -/
theorem from_spec (p l : List UInt8) : ∀ (k a : Nat), l.length + 1 ≤ a + k →
    (fromB p l (a : Int) = -1 ∧ (p ≠ [] → ∀ i, a ≤ i → atB l p i = false)) ∨ (∃ z : Nat, fromB p l (a : Int) = (z : Int) ∧ a ≤ z ∧ p ≠ [] ∧ atB l p z = true ∧ ∀ i, a ≤ i → i < z → atB l p i = false)
  | 0, a, h => .inl ⟨by
      by_cases hp : p = []
      · exact from_nil hp
      · exact from_stop (by have := pos_len hp; omega), fun hp i hi => at_no (by have := pos_len hp; omega)⟩
  | k + 1, a, h => by
    by_cases hp : p = []
    · exact .inl ⟨from_nil hp, fun h => absurd hp h⟩
    · by_cases hs : (a : Int) ≤ (l.length : Int) - p.length
      · rw [from_step hp hs]
        by_cases hb : atB l p a = true
        · rw [if_pos hb]
          exact .inr ⟨a, rfl, Nat.le_refl _, hp, hb, fun i h1 h2 => by omega⟩
        · rw [if_neg hb]
          have hb' : atB l p a = false := by simpa using hb
          rcases from_spec p l k (a + 1) (by omega) with ⟨h1, h2⟩ | ⟨z, h1, h2, h3, h4, h5⟩
          · refine .inl ⟨h1, fun hp i hi => ?_⟩
            by_cases e : i = a
            · subst e; exact hb'
            · exact h2 hp i (by omega)
          · refine .inr ⟨z, h1, by omega, h3, h4, fun i hi hz => ?_⟩
            by_cases e : i = a
            · subst e; exact hb'
            · exact h5 i (by omega) hz
      · refine .inl ⟨from_stop (by omega), fun hp i hi => at_no (by omega)⟩
theorem from_specs (p l : List UInt8) (a : Nat) :
    (fromB p l (a : Int) = -1 ∧ (p ≠ [] → ∀ i, a ≤ i → atB l p i = false)) ∨ (∃ z : Nat, fromB p l (a : Int) = (z : Int) ∧ a ≤ z ∧ p ≠ [] ∧ atB l p z = true ∧ ∀ i, a ≤ i → i < z → atB l p i = false) :=
  from_spec p l (l.length + 1) a (by omega)
theorem at_le {l p : List UInt8} {i : Nat} (h : atB l p i = true) : i + p.length ≤ l.length ∧ (l.drop i).take p.length = p := by
  unfold atB at h
  rw [Bool.and_eq_true, decide_eq_true_eq, decide_eq_true_eq] at h
  exact h
/-- The same in the reversed strings. -/
theorem occB_rev {p l : List UInt8} {i : Nat} (h : i + p.length ≤ l.length) : occB p.reverse l.reverse (i : Int) = occB p l ((l.length : Int) - p.length - i) := by
  unfold occB
  have e : ((l.length : Int) - p.length - i).toNat = l.length - i - p.length := by omega
  rw [Int.toNat_natCast, e, List.length_reverse, List.drop_reverse, List.take_reverse, List.length_take, Nat.min_eq_left (by omega), List.drop_take, show l.length - i - (l.length - i - p.length) = p.length by omega]
  rw [Bool.eq_iff_iff, beq_iff_eq, beq_iff_eq, List.reverse_inj]
theorem run_down (a : Int) (k : Nat) : run a (-1) k = (run 0 1 k).map (fun x => a - x) := by
  unfold run
  rw [List.map_map]
  apply List.map_congr_left
  intro i _
  show a + -1 * (i : Int) = a - (0 + 1 * (i : Int))
  omega
theorem find_congr {α : Type} {P Q : α → Bool} : ∀ {L : List α}, (∀ x ∈ L, P x = Q x) → L.find? P = L.find? Q
  | [], _ => rfl
  | x :: L, h => by
    rw [List.find?_cons, List.find?_cons, h x (List.mem_cons_self ..), find_congr (fun y hy => h y (List.mem_cons_of_mem _ hy))]
theorem last_rev (p l : List UInt8) : lastB p l = if posB p.reverse l.reverse 1 = 0 then 0 else (l.length : Int) - p.length + 2 - posB p.reverse l.reverse 1 := by
  unfold lastB posB firstIn
  rw [List.length_reverse, List.length_reverse, show (1 : Int) - 1 = 0 from rfl]
  by_cases hp : p = []
  · subst hp; simp
  · have hpr : ¬ p.reverse = [] := by simpa using hp
    rw [if_neg hp, if_neg hpr, run_down, List.find?_map]
    have hc : (run 0 1 ((l.length : Int) - p.length + 1 - 0).toNat).find? (occB p l ∘ fun x => (l.length : Int) - p.length - x) = (run 0 1 ((l.length : Int) - p.length + 1 - 0).toNat).find? (occB p.reverse l.reverse) := by
      refine find_congr (fun x hx => ?_)
      obtain ⟨i, hi, rfl⟩ := mem_run hx
      rw [show (0 : Int) + 1 * (i : Int) = (i : Int) by omega, occB_rev (by omega)]
      rfl
    rw [hc]
    cases e : (run 0 1 ((l.length : Int) - p.length + 1 - 0).toNat).find? (occB p.reverse l.reverse) with
    | none => simp
    | some x =>
      obtain ⟨i, hi, rfl⟩ := mem_run (List.mem_of_find?_eq_some e)
      simp only [Option.map_some, Option.getD_some]
      rw [if_neg (by omega)]
      omega
theorem chg_len {p l w : List UInt8} : ∀ (k f : Nat) (z : Int), f ≤ l.length → (z = -1 ∨ ((f : Int) ≤ z ∧ z + p.length ≤ l.length)) →
    ((chgZ p l w k f z).length : Int) = (l.length : Int) - f + (occZ p l k z).length * ((w.length : Int) - p.length)
  | 0, f, z, hf, h => by
    show ((l.drop f).length : Int) = _ + ((0 : Nat) : Int) * _
    rw [List.length_drop]; simp; omega
  | k + 1, f, z, hf, h => by
    by_cases hz : z < 0
    · rw [chgZ_end hz]; unfold occZ; rw [if_pos hz, List.length_drop]; simp; omega
    · rcases h with h | ⟨h1, h2⟩
      · omega
      obtain ⟨a, rfl⟩ := Int.eq_ofNat_of_zero_le (show 0 ≤ z by omega)
      have hb := from_bds p l (a + p.length)
      have ih := chg_len (p := p) (l := l) (w := w) k (a + p.length) (fromB p l ((a + p.length : Nat) : Int)) (by omega) (by
        rcases hb with h | ⟨h3, h4, _⟩
        · exact .inl h
        · exact .inr ⟨by omega, h4⟩)
      rw [Int.natCast_add] at ih
      rw [chgZ_step, occZ_step hz, List.length_append, List.length_append, List.length_cons, List.length_take, List.length_drop, Int.natCast_add, Int.natCast_add, ih, Int.natCast_add, Int.add_mul, Nat.min_eq_left (by omega)]
      simp only [Int.natCast_one, Int.one_mul]
      omega
theorem changed_len (p l w : List UInt8) : ((changedL p l w).length : Int) = (l.length : Int) + (occs p l).length * ((w.length : Int) - p.length) := by
  have hb := from_bds p l 0
  have := chg_len (p := p) (l := l) (w := w) (l.length + 1) 0 (fromB p l 0) (Nat.zero_le _) (by
    rcases hb with h | ⟨h1, h2, _⟩
    · exact .inl h
    · exact .inr ⟨h1, h2⟩)
  unfold changedL occs
  rw [this]
  simp
theorem chg_same {p l : List UInt8} : ∀ (k f : Nat) (z : Int), (z = -1 ∨ ∃ a : Nat, z = (a : Int) ∧ f ≤ a ∧ atB l p a = true) → chgZ p l p k f z = l.drop f
  | 0, f, z, h => rfl
  | k + 1, f, z, h => by
    rcases h with rfl | ⟨a, rfl, h1, h2⟩
    · exact chgZ_end (by omega)
    · obtain ⟨h3, h4⟩ := at_le h2
      have hz := from_specs p l (a + p.length)
      rw [chgZ_step, ← Int.natCast_add, chg_same k (a + p.length) _ (by
        rcases hz with ⟨h, _⟩ | ⟨z, h5, h6, _, h7, _⟩
        · exact .inl h
        · exact .inr ⟨z, h5, h6, h7⟩)]
      have e1 : l.drop f = (l.drop f).take (a - f) ++ l.drop a := by
        have := (List.take_append_drop (a - f) (l.drop f)).symm
        rwa [List.drop_drop, show f + (a - f) = a by omega] at this
      have e2 : l.drop a = p ++ l.drop (a + p.length) := by
        have := (List.take_append_drop p.length (l.drop a)).symm
        rwa [List.drop_drop, h4] at this
      rw [List.append_assoc, ← e2, ← e1]
theorem changed_same (p l : List UInt8) : changedL p l p = l := by
  unfold changedL
  rw [chg_same _ _ _ (by
    rcases from_specs p l 0 with ⟨h, _⟩ | ⟨z, h5, h6, _, h7, _⟩
    · exact .inl h
    · exact .inr ⟨z, h5, h6, h7⟩)]
  rfl
/-- Not more than fit in. -/
theorem occs_bd (p l : List UInt8) : (occs p l).length * p.length ≤ l.length := by
  have h := changed_len p l []
  have h0 : (0 : Int) ≤ ((changedL p l []).length : Int) := Int.natCast_nonneg _
  rw [h] at h0
  simp only [List.length_nil] at h0
  have h1 : ((occs p l).length : Int) * (((0 : Nat) : Int) - (p.length : Int)) = -(((occs p l).length * p.length : Nat) : Int) := by
    rw [Int.natCast_mul, Int.natCast_zero, Int.zero_sub, Int.mul_neg]
  rw [h1] at h0
  omega
end Tx
end Go.Proofs.YtoilgjlbpimcpaaDoor
