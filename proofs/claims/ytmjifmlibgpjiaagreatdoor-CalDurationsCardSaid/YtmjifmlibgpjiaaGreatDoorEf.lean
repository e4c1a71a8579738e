/- Moments: After and Between, the program's and the reference's. -/
import Derived.Test.YtmjifmlibgpjiaaGreatDoorCj
import Derived.Test.YtmjifmlibgpjiaaGreatDoorCh
import Derived.Test.YtmjifmlibgpjiaaGreatDoorDi
import Derived.BigQuiet
namespace Go.Proofs.YtmjifmlibgpjiaaGreatDoor
open Go.RowKit Go.Shelf Tx Go.Maps
set_option linter.unusedVariables false
set_option maxRecDepth 100000

theorem BoxC.stayed {W W' : World} {B : Nat} {t : TypeId} {cs : Array Value} (h : BoxC W B t cs) (hb : Below W.heap.size W W') : BoxC W' B t cs := h.below hb h.lt
theorem eql_moment (a b x y : Int) (w : World) : (binOp .eql 55 (.agg #[.int .i64 a, .int .i64 b]) (.agg #[.int .i64 x, .int .i64 y])).run Tryz.prog w = .ok (.bool (a == x && b == y)) w := by
  have hm : ∀ w, (binOp .eql 55 (.agg #[.int .i64 a, .int .i64 b]) (.agg #[.int .i64 x, .int .i64 y])).run Tryz.prog w = ((Op.equalIn 10000 55 (.agg #[.int .i64 a, .int .i64 b]) (.agg #[.int .i64 x, .int .i64 y])).run Tryz.prog w).andThen fun b w' => .ok (.bool b) w' := fun w => run_eql_struct w _ _ _
  rw [hm, show 10000 = 9999 + 1 from rfl, run_equalIn_struct w 9999 _ _ _ (by kernel_rfl) (by kernel_rfl)]
  have hf : (Tryz.prog.fieldsOf 55).toList.map (fun f => (f.type, f.offset)) = [(3, 0), (3, 1)] ∧ (Tryz.prog.fieldsOf 55).toList.all (fun f => decide (f.name ≠ "_")) = true := ⟨by kernel_rfl, by decide +kernel⟩
  obtain ⟨l, hl⟩ : ∃ l, l = (Tryz.prog.fieldsOf 55).toList := ⟨_, rfl⟩
  rw [← hl] at hf ⊢
  clear hl
  have hl3 : l.length = 2 := by have := congrArg List.length hf.1; simpa using this
  obtain ⟨f0, l, rfl⟩ := List.exists_cons_of_length_eq_add_one hl3
  obtain ⟨f1, l, rfl⟩ := List.exists_cons_of_length_eq_add_one (show l.length = 0 + 1 by simpa using hl3)
  obtain rfl : l = [] := List.eq_nil_of_length_eq_zero (by simpa using hl3)
  obtain ⟨h1, h2⟩ := hf
  simp at h1 h2
  obtain ⟨⟨a1, a2⟩, b1, b2⟩ := h1
  obtain ⟨n0, n1⟩ := h2
  obtain ⟨i, hi⟩ : ∃ i, Tryz.prog.info? 3 = some i := Option.isSome_iff_exists.1 (by kernel_rfl)
  have e := fun (u v : Int) => run_equalIn_int (P := Tryz.prog) w 9998 3 .i64 .i64 u v Tryz.underlying3
  have hp : ∀ (l : Array Value) (j : Nat) (v : Value), l[j]? = some v → (part 3 l j).run Tryz.prog w = .ok v w := by
    intro l j v h
    simp [part, go_sem, h]
  have p0 : (part 3 #[.int .i64 a, .int .i64 b] 0).run Tryz.prog w = .ok (.int .i64 a) w := hp _ 0 _ rfl
  have p1 : (part 3 #[.int .i64 a, .int .i64 b] 1).run Tryz.prog w = .ok (.int .i64 b) w := hp _ 1 _ rfl
  have q0 : (part 3 #[.int .i64 x, .int .i64 y] 0).run Tryz.prog w = .ok (.int .i64 x) w := hp _ 0 _ rfl
  have q1 : (part 3 #[.int .i64 x, .int .i64 y] 1).run Tryz.prog w = .ok (.int .i64 y) w := hp _ 1 _ rfl
  simp only [Op.eqFields, ne_eq, n0, n1, not_false_eq_true, if_true, a1, a2, b1, b2, Sem.run_bind, p0, q0, Result.andThen_ok, e]
  cases h1 : (a == x)
  · simp
  · simp only [Bool.not_true, Bool.false_eq_true, if_false, Sem.run_bind, p1, q1, Result.andThen_ok, e, Bool.true_and]
    cases h2 : (b == y) <;> simp
namespace Tx
/-- A valid moment. -/
def IsMom (d u : Int) : Prop := (0 ≤ d ∧ d ≤ 3652058) ∧ (0 ≤ u ∧ u ≤ 86399999999)
end Tx
theorem RIn_okI (n : Int) (w : World) (h : 0 ≤ n ∧ n ≤ 3652058) : Calls Tryz.prog 22 #[.int .i64 n] w fun e w' => e = .returned (.bool true) ∧ w = w' := by
  obtain ⟨k, rfl⟩ : ∃ k : Nat, n = (k : Int) := ⟨n.toNat, by omega⟩
  exact RIn_ok k w (by omega)
set_option maxHeartbeats 1600000 in
theorem isMoment_t (d u : Int) (w : World) (hp : (0 ≤ d ∧ d ≤ 3652058) ∧ (0 ≤ u ∧ u ≤ 86399999999)) : Calls Tryz.prog 80 #[.agg #[.int .i64 d, .int .i64 u]] w fun e w' => e = .returned (.bool true) ∧ Below w.heap.size w w' := by
  have KD := fun W => Lib.hid (isDay_any d W)
  rw [inR_true (by omega) (by omega)] at KD
  have KT := fun W => Lib.hid (isTime_any u W)
  rw [inR_true (by omega) (by omega)] at KT
  clear hp
  have bb := BoxC.new w 55 #[.int .i64 d, .int .i64 u]
  have c0 := bb.cell (i := 0) rfl
  have c1 := bb.cell (i := 1) rfl
  clear bb
  go_enter Tryz.func80, Tryz.ntmps80
  go_wp2_with (first
    | (go_at_call 51; refine Calls.mono (KD _).out ?_; rintro e W1 ⟨rfl, hv⟩; subst W1)
    | (go_at_call 72; refine Calls.mono (KT _).out ?_; rintro e W2 ⟨rfl, hv⟩; subst W2))
  go_ret
  exact ⟨by first | rfl | simp [*], Bl.alloc (Below.refl _ w) _⟩
set_option maxHeartbeats 1600000 in
theorem isMoment_u (d u : Int) (w : World) (hp : (0 ≤ d ∧ d ≤ 3652058) ∧ ¬ (0 ≤ u ∧ u ≤ 86399999999)) : Calls Tryz.prog 80 #[.agg #[.int .i64 d, .int .i64 u]] w fun e w' => e = .returned (.bool false) ∧ Below w.heap.size w w' := by
  have KD := fun W => Lib.hid (isDay_any d W)
  rw [inR_true (by omega) (by omega)] at KD
  have KT := fun W => Lib.hid (isTime_any u W)
  rw [inR_false (by omega)] at KT
  clear hp
  have bb := BoxC.new w 55 #[.int .i64 d, .int .i64 u]
  have c0 := bb.cell (i := 0) rfl
  have c1 := bb.cell (i := 1) rfl
  clear bb
  go_enter Tryz.func80, Tryz.ntmps80
  go_wp2_with (first
    | (go_at_call 51; refine Calls.mono (KD _).out ?_; rintro e W1 ⟨rfl, hv⟩; subst W1)
    | (go_at_call 72; refine Calls.mono (KT _).out ?_; rintro e W2 ⟨rfl, hv⟩; subst W2))
  go_ret
  exact ⟨by first | rfl | simp [*], Bl.alloc (Below.refl _ w) _⟩
set_option maxHeartbeats 1600000 in
theorem isMoment_d (d u : Int) (w : World) (hp : ¬ (0 ≤ d ∧ d ≤ 3652058)) : Calls Tryz.prog 80 #[.agg #[.int .i64 d, .int .i64 u]] w fun e w' => e = .returned (.bool false) ∧ Below w.heap.size w w' := by
  have KD := fun W => Lib.hid (isDay_any d W)
  rw [inR_false (by omega)] at KD
  clear hp
  have bb := BoxC.new w 55 #[.int .i64 d, .int .i64 u]
  have c0 := bb.cell (i := 0) rfl
  have c1 := bb.cell (i := 1) rfl
  clear bb
  go_enter Tryz.func80, Tryz.ntmps80
  go_wp2_with (first
    | (go_at_call 51; refine Calls.mono (KD _).out ?_; rintro e W1 ⟨rfl, hv⟩; subst W1))
  go_ret
  exact ⟨by first | rfl | simp [*], Bl.alloc (Below.refl _ w) _⟩
set_option maxHeartbeats 1600000 in
theorem Valid_t (d u : Int) (w : World) (hp : (0 ≤ d ∧ d ≤ 3652058) ∧ (0 ≤ u ∧ u ≤ 86399999999)) : Calls Tryz.prog 81 #[.agg #[.int .i64 d, .int .i64 u]] w fun e w' => e = .returned (.bool true) ∧ Below w.heap.size w w' := by
  have KD := fun W => Lib.hid (RIn_okI d W (by omega))
  have u1 : ¬ u < 0 := by omega
  have u2 : u < 86400000000 := by omega
  have u3 : 0 ≤ u := by omega
  clear hp
  have bb := BoxC.new w 55 #[.int .i64 d, .int .i64 u]
  have c0 := bb.cell (i := 0) rfl
  have c1 := bb.cell (i := 1) rfl
  clear bb
  go_enter Tryz.func81, Tryz.ntmps81
  go_wp2_with (first
    | (go_at_call 22; refine Calls.mono (KD _).out ?_; rintro e W1 ⟨rfl, hv⟩; subst W1))
  go_ret
  exact ⟨by first | rfl | simp [*], Bl.alloc (Below.refl _ w) _⟩
set_option maxHeartbeats 1600000 in
theorem Valid_l (d u : Int) (w : World) (hp : (0 ≤ d ∧ d ≤ 3652058) ∧ u < 0) : Calls Tryz.prog 81 #[.agg #[.int .i64 d, .int .i64 u]] w fun e w' => e = .returned (.bool false) ∧ Below w.heap.size w w' := by
  have KD := fun W => Lib.hid (RIn_okI d W (by omega))
  have u1 : u < 0 := by omega
  have u3 : ¬ 0 ≤ u := by omega
  clear hp
  have bb := BoxC.new w 55 #[.int .i64 d, .int .i64 u]
  have c0 := bb.cell (i := 0) rfl
  have c1 := bb.cell (i := 1) rfl
  clear bb
  go_enter Tryz.func81, Tryz.ntmps81
  go_wp2_with (first
    | (go_at_call 22; refine Calls.mono (KD _).out ?_; rintro e W1 ⟨rfl, hv⟩; subst W1))
  go_ret
  exact ⟨by first | rfl | simp [*], Bl.alloc (Below.refl _ w) _⟩
set_option maxHeartbeats 1600000 in
theorem Valid_h (d u : Int) (w : World) (hp : (0 ≤ d ∧ d ≤ 3652058) ∧ 86399999999 < u) : Calls Tryz.prog 81 #[.agg #[.int .i64 d, .int .i64 u]] w fun e w' => e = .returned (.bool false) ∧ Below w.heap.size w w' := by
  have KD := fun W => Lib.hid (RIn_okI d W (by omega))
  have u1 : ¬ u < 0 := by omega
  have u2 : ¬ u < 86400000000 := by omega
  have u3 : 0 ≤ u := by omega
  clear hp
  have bb := BoxC.new w 55 #[.int .i64 d, .int .i64 u]
  have c0 := bb.cell (i := 0) rfl
  have c1 := bb.cell (i := 1) rfl
  clear bb
  go_enter Tryz.func81, Tryz.ntmps81
  go_wp2_with (first
    | (go_at_call 22; refine Calls.mono (KD _).out ?_; rintro e W1 ⟨rfl, hv⟩; subst W1))
  go_ret
  exact ⟨by first | rfl | simp [*], Bl.alloc (Below.refl _ w) _⟩
set_option maxHeartbeats 1600000 in
theorem Valid_d (d u : Int) (w : World) (hp : ¬ (0 ≤ d ∧ d ≤ 3652058)) : Calls Tryz.prog 81 #[.agg #[.int .i64 d, .int .i64 u]] w fun e w' => e = .returned (.bool false) ∧ Below w.heap.size w w' := by
  have KD := fun W => Lib.hid (RIn_bad d W (by omega))
  clear hp
  have bb := BoxC.new w 55 #[.int .i64 d, .int .i64 u]
  have c0 := bb.cell (i := 0) rfl
  have c1 := bb.cell (i := 1) rfl
  clear bb
  go_enter Tryz.func81, Tryz.ntmps81
  go_wp2_with (first
    | (go_at_call 22; refine Calls.mono (KD _).out ?_; rintro e W1 ⟨rfl, hv⟩; subst W1))
  go_ret
  exact ⟨by first | rfl | simp [*], Bl.alloc (Below.refl _ w) _⟩
theorem isMoment_f (d u : Int) (w : World) (h : ¬ IsMom d u) : Calls Tryz.prog 80 #[.agg #[.int .i64 d, .int .i64 u]] w fun e w' => e = .returned (.bool false) ∧ Below w.heap.size w w' := by
  by_cases hd : 0 ≤ d ∧ d ≤ 3652058
  · exact isMoment_u d u w ⟨hd, fun q => h ⟨hd, q⟩⟩
  · exact isMoment_d d u w hd
theorem Valid_f (d u : Int) (w : World) (h : ¬ IsMom d u) : Calls Tryz.prog 81 #[.agg #[.int .i64 d, .int .i64 u]] w fun e w' => e = .returned (.bool false) ∧ Below w.heap.size w w' := by
  by_cases hd : 0 ≤ d ∧ d ≤ 3652058
  · rcases Int.lt_or_le u 0 with q | q
    · exact Valid_l d u w ⟨hd, q⟩
    · exact Valid_h d u w ⟨hd, by unfold IsMom at h; omega⟩
  · exact Valid_d d u w hd
end Go.Proofs.YtmjifmlibgpjiaaGreatDoor
