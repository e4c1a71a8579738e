/- append onto a row of bytes, as a step of a region that draws its order. -/
import Derived.Test.YtoilgjlbpimcpaaDoorVb
import Derived.Deep.RegionLaw
namespace Go.Proofs.YtoilgjlbpimcpaaDoor
open Go.RowKit Go.Shelf Tx
set_option linter.unusedVariables false
set_option maxRecDepth 100000

/-- append onto a row of bytes, as a step of a region that draws its order. -/
theorem step_brs {ops : Array Oper} {o : Oper} {a : Act} {w : World} {K : Act → World → Prop} {Q : Exit → Act → World → Prop} {E : Prop} (hgd : o.guard = none) (s x : Operand) (tx : TypeId)
    (ho : o.op = .call { callee := .builtin .append, args := #[s, x], argTypes := #[89, tx] })
    (B : Nat) (v y : Value) (l m : List UInt8) (hv : a.eval s = v) (hx : a.eval x = y) (h : Br w B v l) (hs : Src Tryd.prog 1 tx y m.length (m.map u8v) w) (hl : l.length + m.length ≤ 1000000000) (hB : B ≤ w.heap.size)
    (hk : ∀ v' w', Br w' B v' (l ++ m) → w.grownBy w' v.ownBlock → K (a.put o.dst v') w') : if Region.wanted o (yielded ops a.tmps) = true then Oper.wp Tryd.prog o a w K Q else E := by
  have hw : Region.wanted o (yielded ops a.tmps) = true := by simp [Region.wanted, hgd]
  rw [if_pos hw]
  obtain ⟨v', w', hr, h2, h3⟩ := run_br h tx o.type y m hs hl hB
  unfold Oper.wp
  simp [execOp, ho, resolve, invoke, builtin, hv, hx, hr]
  exact hk v' w' h2 h3
end Go.Proofs.YtoilgjlbpimcpaaDoor
