/- The comparison of two answers that are numbers. -/
import Derived.Test.YtoilgjlbpimcpaaDoorZf
import Derived.Test.YtoilgjlbpimcpaaDoorVs
import Derived.Test.YtoilgjlbpimcpaaDoorTl
namespace Go.Proofs.YtoilgjlbpimcpaaDoor
open Go.RowKit Go.Shelf Tx
set_option linter.unusedVariables false
set_option maxRecDepth 100000

theorem givesN_at {w : World} {r : Int × Int} {n k : Int} (hr : r = (n, k)) {e : Ending} {w' : World} (h : GivesN w r e w') : e = .returned (.tuple #[.int .i64 n, .int .i64 k]) ∧ Below w.heap.size w w' := by
  subst hr; exact h
theorem givesM_at {w : World} {r : Int × Int} {n k : Int} (hr : r = (n, k)) {e : Ending} {w' : World} (h : GivesM w r e w') : e = .returned (.agg #[.int .i64 n, .int .i64 k]) ∧ Below w.heap.size w w' := by
  subst hr; exact h
set_option maxHeartbeats 400000 in
theorem num_same (n k : Int) (w : World) :
    Calls Tryd.prog 45 #[.int .i64 n, .int .i64 k, .agg #[.int .i64 n, .int .i64 k]] w fun e w' => e = .returned (.bool true) ∧ Below w.heap.size w w' := by
  go_enter Tryd.func45, Tryd.ntmps45
  go_wp2
  go_ret
  exact ⟨ret_b (by simp), (Below.refl _ w).alloc (Nat.le_refl _) _⟩
end Go.Proofs.YtoilgjlbpimcpaaDoor
