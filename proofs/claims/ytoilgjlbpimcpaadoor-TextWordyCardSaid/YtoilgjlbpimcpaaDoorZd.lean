/- A region that draws its order, in a round of a range over a function: by the laws of a region outside of fences. No program is imported here. -/
import Derived.Test.YtoilgjlbpimcpaaDoorTr
import Derived.OrdersHeld
import Derived.Deep.RegionHeld
namespace Go.Proofs.YtoilgjlbpimcpaaDoor
open Go.RowKit
set_option linter.unusedVariables false

theorem rowsIn_wide {n : Nat} {P : Program} {row : String} {args : Array Value} {w : World} {R : Value → World → Prop} (h : Rows P row args w R) : RowsIn Fence.wide n P row args w R :=
  fun c cs _ => let ⟨v, w', r, s⟩ := h c cs; ⟨v, w', r, stepsIn_wide.2 s⟩
theorem uponIn_wide {n : Nat} {P : Program} {o : Oper} {a : Act} {K : Act → World → Prop} {Q : Exit → Act → World → Prop} {r : Result Next} (h : o.upon P a K Q r) : o.uponIn Fence.wide n P a K Q r := by
  cases r with
  | ok x w' =>
    cases x <;> simp only [Oper.upon, Oper.uponIn] at h ⊢ <;>
      first
        | exact h
        | exact ⟨fun e => by simp [Fence.wide] at e, callsIn_wide.2 h⟩
        | exact ⟨fun e => by simp [Fence.wide] at e, rowsIn_wide h⟩
  | halt x w' => cases x <;> exact h
section
variable {n : Nat} {P : Program} {ops : Array Oper} {Q : Exit → Act → World → Prop} {md : Region.Mode}
theorem wpIn_op_wide {o : Oper} {a : Act} {w : World} {K : Act → World → Prop} (hd : isDefer o = false) (h : o.wp P a w K Q) : o.wpIn Fence.wide n P a w K Q := by
  unfold Oper.wp at h
  unfold Oper.wpIn
  refine ⟨fun f _ => trivial, ?_⟩
  rw [Oper.semAt_eq _ _ _ (isDefer_no hd)]
  exact uponIn_wide h
theorem wpOpIn_wide (hQ : ¬ LetsOut Q) (hd : ∀ (i : Nat) (o : Oper), ops[i]? = some o → isDefer o = false) {i : Nat} {a : Act} {w : World} {K : Act → World → Prop} (h : wpOp P ops Q i K a w) : wpOpIn Fence.wide n P ops Q i K a w := by
  unfold wpOp at h
  unfold wpOpIn
  split
  · rename_i hi
    simpa [hi] using h
  · rename_i o ho
    simp only [ho] at h
    split
    · rename_i hw
      simp only [hw, if_true] at h
      rcases h with h | h
      · exact wpIn_op_wide (hd i o ho) h
      · exact absurd h.2 hQ
    · rename_i hw
      simp only [hw] at h
      exact ⟨fun f _ => trivial, h⟩
theorem wpAnyIn_wide (hQ : ¬ LetsOut Q) (hd : ∀ (i : Nat) (o : Oper), ops[i]? = some o → isDefer o = false) : ∀ (fuel : Nat) (listed : Array Bool) (a : Act) (w : World), wpAny P md ops Q fuel listed a w → wpAnyIn Fence.wide n P md ops Q fuel listed a w := by
  intro fuel
  induction fuel with
  | zero => intro listed a w h; exact h
  | succ fuel ih =>
    intro listed a w h
    exact ⟨h.1, fun i hi => wpOpIn_mono (fun a w => ih _ a w) (wpOpIn_wide hQ hd (h.2 i hi))⟩
/-- What the region leaves is said of its end alone: it doesn't panic. -/
def Calm (Q : Exit → Act → World → Prop) : Exit → Act → World → Prop := fun e a w => e = .normal ∧ Q .normal a w
theorem calm_panic {Q : Exit → Act → World → Prop} {c} {a b : Act} {w : World} (h : Calm Q (.panic c) a w) : Calm Q (.panic c) b w := by cases h.1
theorem calm_lets {Q : Exit → Act → World → Prop} : ¬ LetsOut (Calm Q) := by rintro ⟨a, w, h, _⟩; cases h
/-- A region in a round. -/
theorem wpIn_region_round_held (S : World → Prop) {id : Nat} {a : Act} {w : World} {l0 : Nat} (hm : P.follows .mixedOrders = true) (hd : ops.all (fun o => !isDefer o) = true)
    (h : wpAnyH P .any ops (Calm Q) S ops.size (Array.replicate ops.size false) a w.drew) : (Code.region id ops true).wpIn (Fence.wide.inRound l0) n P Q a w := by
  have hd' : ∀ (i : Nat) (o : Oper), ops[i]? = some o → isDefer o = false := by
    intro i o ho
    obtain ⟨hi, rfl⟩ := Array.getElem?_eq_some_iff.1 ho
    have := Array.all_eq_true.1 hd i hi
    simpa using this
  refine wpIn_mono (Q := Calm Q) (wpIn_region_any hm (wpAnyIn_round l0 rfl hd' _ _ _ _ (wpAnyIn_wide calm_lets hd' _ _ _ _ (wpAny_of_held _ _ _ _ h)))) ?_
  rintro e a w ⟨rfl, h⟩
  exact h
end
end Go.Proofs.YtoilgjlbpimcpaaDoor
