/- Dates, compared. -/
import Derived.Test.YtmjifmlibgpjiaaGreatDoorCa
import Derived.ChangeKeysEq
import Derived.KernelRfl
namespace Go.Proofs.YtmjifmlibgpjiaaGreatDoor
open Go.RowKit Tx
set_option linter.unusedVariables false
set_option maxRecDepth 100000

theorem eqArr (d : Nat) (a b c x y z : Int) (w : World) : (Op.equalIn (d + 1 + 1) 68 (.agg #[.int .i64 a, .int .i64 b, .int .i64 c]) (.agg #[.int .i64 x, .int .i64 y, .int .i64 z])).run Tryz.prog w = .ok (a == x && (b == y && c == z)) w := by
  obtain ⟨i, hi⟩ : ∃ i, Tryz.prog.info? 3 = some i := Option.isSome_iff_exists.1 (by kernel_rfl)
  have hc : Tryz.prog.cellsOf 3 = 1 := by kernel_rfl
  have e := fun (u v : Int) => run_equalIn_int (P := Tryz.prog) w d 3 .i64 .i64 u v Tryz.underlying3
  have hp : ∀ (l : Array Value) (j : Nat) (v : Value), l[j]? = some v → (part 3 l j).run Tryz.prog w = .ok v w := by
    intro l j v h
    simp [part, go_sem, h]
  rw [run_equalIn_array w (d + 1) _ _ Tryz.underlying68 hi, hc]
  simp only [List.range_succ, List.range_zero, List.nil_append, List.cons_append, Op.eqItems, Sem.run_bind, Nat.mul_one]
  have p0 : (part 3 #[.int .i64 a, .int .i64 b, .int .i64 c] 0).run Tryz.prog w = .ok (.int .i64 a) w := hp _ 0 _ rfl
  have q0 : (part 3 #[.int .i64 x, .int .i64 y, .int .i64 z] 0).run Tryz.prog w = .ok (.int .i64 x) w := hp _ 0 _ rfl
  have p1 : (part 3 #[.int .i64 a, .int .i64 b, .int .i64 c] 1).run Tryz.prog w = .ok (.int .i64 b) w := hp _ 1 _ rfl
  have q1 : (part 3 #[.int .i64 x, .int .i64 y, .int .i64 z] 1).run Tryz.prog w = .ok (.int .i64 y) w := hp _ 1 _ rfl
  have p2 : (part 3 #[.int .i64 a, .int .i64 b, .int .i64 c] 2).run Tryz.prog w = .ok (.int .i64 c) w := hp _ 2 _ rfl
  have q2 : (part 3 #[.int .i64 x, .int .i64 y, .int .i64 z] 2).run Tryz.prog w = .ok (.int .i64 z) w := hp _ 2 _ rfl
  simp only [p0, q0, Result.andThen_ok, e]
  cases h1 : (a == x)
  · simp
  · simp only [Bool.not_true, Bool.false_eq_true, if_false, Sem.run_bind, p1, q1, Result.andThen_ok, e, Bool.true_and]
    cases h2 : (b == y)
    · simp
    · simp only [Bool.not_true, Bool.false_eq_true, if_false, Sem.run_bind, p2, q2, Result.andThen_ok, e, Bool.true_and]
      cases h3 : (c == z) <;> simp
theorem neq_date (a b c x y z : Int) (w : World) : (binOp .neq 70 (.agg #[.int .i64 a, .int .i64 b, .int .i64 c]) (.agg #[.int .i64 x, .int .i64 y, .int .i64 z])).run Tryz.prog w = .ok (.bool (!(a == x && (b == y && c == z)))) w := by
  obtain ⟨i, hi⟩ : ∃ i, Tryz.prog.info? 68 = some i := Option.isSome_iff_exists.1 (by kernel_rfl)
  have hsz : (Tryz.prog.info? 68).map (·.size) = some 3 := by kernel_rfl
  rw [run_neq_struct, show 10000 = 9999 + 1 from rfl, run_equalIn_struct w 9999 _ _ _ (by kernel_rfl) (by kernel_rfl)]
  have hf : ∃ f, (Tryz.prog.fieldsOf 70).toList = [f] ∧ f.type = 68 ∧ f.offset = 0 ∧ f.name ≠ "_" := by
    refine ⟨((Tryz.prog.fieldsOf 70).toList)[0]'(by decide +kernel), by kernel_rfl, by kernel_rfl, by kernel_rfl, by decide +kernel⟩
  obtain ⟨f, hf1, hf2, hf3, hf4⟩ := hf
  rw [hf1]
  have pa : ∀ (u v t : Int), (part 68 #[.int .i64 u, .int .i64 v, .int .i64 t] 0).run Tryz.prog w = .ok (.agg #[.int .i64 u, .int .i64 v, .int .i64 t]) w := by
    intro u v t
    rw [hi] at hsz
    simp [part, go_sem]
  simp only [Op.eqFields, ne_eq, hf4, not_false_eq_true, if_true, hf2, hf3, Sem.run_bind, pa, Result.andThen_ok]
  rw [show 9999 = 9997 + 1 + 1 from rfl, eqArr]
  simp only [Result.andThen_ok]
  cases (a == x && (b == y && c == z)) <;> simp
end Go.Proofs.YtmjifmlibgpjiaaGreatDoor
