/- Between: the program's and the reference's. -/
import Derived.Test.YtmjifmlibgpjiaaGreatDoorEf
import Derived.BigQuiet
namespace Go.Proofs.YtmjifmlibgpjiaaGreatDoor
open Go.RowKit Go.Shelf Tx Go.Maps
set_option linter.unusedVariables false
set_option maxRecDepth 100000

theorem bwFacts (D U E V : Int) (ha : IsMom D U) (hb : IsMom E V) : (IntKind.i64.wrap (E - D) = E - D ∧ wrap64 (E - D) = E - D) ∧ (IntKind.i64.wrap (V - U) = V - U ∧ wrap64 (V - U) = V - U) ∧ (IntKind.i64.wrap (E - D - 1) = E - D - 1 ∧ wrap64 (E - D - 1) = E - D - 1) ∧ (IntKind.i64.wrap (V - U + 86400000000) = V - U + 86400000000 ∧ wrap64 (V - U + 86400000000) = V - U + 86400000000) := by
  unfold IsMom at ha hb
  refine ⟨⟨?_, ?_⟩, ⟨?_, ?_⟩, ⟨?_, ?_⟩, ⟨?_, ?_⟩⟩
  all_goals first | exact i64i' (by omega) (by omega) | exact w64 (by omega) (by omega)
set_option maxHeartbeats 4000000 in
theorem Between_a (D U E V : Int) (w : World) (ha : ¬ IsMom D U) : Calls Tryz.prog 40 #[.agg #[.int .i64 D, .int .i64 U], .agg #[.int .i64 E, .int .i64 V]] w (Gives w #[.int .i64 0, .int .i64 0, .int .i64 1]) := by
  have K1 := fun W => Lib.hid (isMoment_f D U W ha)
  clear ha
  have xa := (BoxC.new w 55 #[.int .i64 D, .int .i64 U]).alloc (.cells #[.int .i64 E, .int .i64 V] 55)
  have x0 := xa.cell (i := 0) rfl
  have x1 := xa.cell (i := 1) rfl
  clear xa
  go_enter Tryz.func40, Tryz.ntmps40
  go_wp2_with (first
    | (go_at_call 80; refine Calls.mono (K1 _).out ?_; rintro e w1 ⟨rfl, hb⟩; clear K1; have B1 := Lib.hid (Bl.step (Bl.alloc (Bl.alloc (Below.refl _ w) _) _) hb); have X1 := Lib.hid (((BoxC.new w 55 #[.int .i64 D, .int .i64 U]).alloc _).stayed hb); have Y1 := Lib.hid ((BoxC.newAt (W := w.alloc (.cells #[.int .i64 D, .int .i64 U] 55)) (t := 55) (cs := #[.int .i64 E, .int .i64 V]) (n := w.heap.size + 1) (by simp)).stayed hb); have c0 := Y1.out.cell (i := 0) rfl; have c1 := Y1.out.cell (i := 1) rfl; clear hb))
  refine bodyPost_ret (v := .tuple #[.int .i64 0, .int .i64 0, .int .i64 1]) (by simp [results, Tryz.results40, go_sem]) rfl ?_
  exact ⟨rfl, B1.out⟩
set_option maxHeartbeats 4000000 in
theorem Between_b (D U E V : Int) (w : World) (ha : IsMom D U) (hb : ¬ IsMom E V) : Calls Tryz.prog 40 #[.agg #[.int .i64 D, .int .i64 U], .agg #[.int .i64 E, .int .i64 V]] w (Gives w #[.int .i64 0, .int .i64 0, .int .i64 1]) := by
  have K1 := fun W => Lib.hid (isMoment_t D U W ha)
  have K2 := fun W => Lib.hid (isMoment_f E V W hb)
  clear ha hb
  have xa := (BoxC.new w 55 #[.int .i64 D, .int .i64 U]).alloc (.cells #[.int .i64 E, .int .i64 V] 55)
  have x0 := xa.cell (i := 0) rfl
  have x1 := xa.cell (i := 1) rfl
  clear xa
  go_enter Tryz.func40, Tryz.ntmps40
  go_wp2_with (first
    | (go_at_call 80; refine Calls.mono (K1 _).out ?_; rintro e w1 ⟨rfl, hb⟩; clear K1; have B1 := Lib.hid (Bl.step (Bl.alloc (Bl.alloc (Below.refl _ w) _) _) hb); have X1 := Lib.hid (((BoxC.new w 55 #[.int .i64 D, .int .i64 U]).alloc _).stayed hb); have Y1 := Lib.hid ((BoxC.newAt (W := w.alloc (.cells #[.int .i64 D, .int .i64 U] 55)) (t := 55) (cs := #[.int .i64 E, .int .i64 V]) (n := w.heap.size + 1) (by simp)).stayed hb); have c0 := Y1.out.cell (i := 0) rfl; have c1 := Y1.out.cell (i := 1) rfl; clear hb)
    | (go_at_call 80; refine Calls.mono (K2 _).out ?_; rintro e w2 ⟨rfl, hb⟩; have B2 := Lib.hid (Bl.step B1.out hb); have X2 := X1.out.stayed hb; have Y2 := Y1.out.stayed hb; have a0 := X2.cell (i := 0) rfl; have a1 := X2.cell (i := 1) rfl; have e0 := Y2.cell (i := 0) rfl; have e1 := Y2.cell (i := 1) rfl; clear hb X2 Y2))
  refine bodyPost_ret (v := .tuple #[.int .i64 0, .int .i64 0, .int .i64 1]) (by simp [results, Tryz.results40, go_sem]) rfl ?_
  exact ⟨rfl, B2.out⟩
set_option maxHeartbeats 4000000 in
theorem Between_lo (D U E V : Int) (w : World) (ha : IsMom D U) (hb : IsMom E V) (q : V < U) : Calls Tryz.prog 40 #[.agg #[.int .i64 D, .int .i64 U], .agg #[.int .i64 E, .int .i64 V]] w (Gives w #[.int .i64 (E - D - 1), .int .i64 (V - U + 86400000000), .int .i64 0]) := by
  have K1 := fun W => Lib.hid (isMoment_t D U W ha)
  have K2 := fun W => Lib.hid (isMoment_t E V W hb)
  obtain ⟨⟨f1, f2⟩, ⟨f3, f4⟩, ⟨f5, f6⟩, f7, f8⟩ := bwFacts D U E V ha hb
  have q1 : V - U < 0 := by omega
  have q2 : ¬ U ≤ V := by omega
  clear ha hb
  clear q
  have xa := (BoxC.new w 55 #[.int .i64 D, .int .i64 U]).alloc (.cells #[.int .i64 E, .int .i64 V] 55)
  have x0 := xa.cell (i := 0) rfl
  have x1 := xa.cell (i := 1) rfl
  clear xa
  go_enter Tryz.func40, Tryz.ntmps40
  go_wp2_with (first
    | (go_at_call 80; refine Calls.mono (K1 _).out ?_; rintro e w1 ⟨rfl, hb⟩; clear K1; have B1 := Lib.hid (Bl.step (Bl.alloc (Bl.alloc (Below.refl _ w) _) _) hb); have X1 := Lib.hid (((BoxC.new w 55 #[.int .i64 D, .int .i64 U]).alloc _).stayed hb); have Y1 := Lib.hid ((BoxC.newAt (W := w.alloc (.cells #[.int .i64 D, .int .i64 U] 55)) (t := 55) (cs := #[.int .i64 E, .int .i64 V]) (n := w.heap.size + 1) (by simp)).stayed hb); have c0 := Y1.out.cell (i := 0) rfl; have c1 := Y1.out.cell (i := 1) rfl; clear hb)
    | (go_at_call 80; refine Calls.mono (K2 _).out ?_; rintro e w2 ⟨rfl, hb⟩; have B2 := Lib.hid (Bl.step B1.out hb); have X2 := X1.out.stayed hb; have Y2 := Y1.out.stayed hb; have a0 := X2.cell (i := 0) rfl; have a1 := X2.cell (i := 1) rfl; have e0 := Y2.cell (i := 0) rfl; have e1 := Y2.cell (i := 1) rfl; clear hb X2 Y2))
  go_quiet (fail)
  go_wp2
  refine bodyPost_ret (v := .tuple #[.int .i64 (E - D - 1), .int .i64 (V - U + 86400000000), .int .i64 0]) (by simp [results, Tryz.results40, go_sem]) rfl ?_
  exact ⟨rfl, below_drewN' B2.out _⟩
set_option maxHeartbeats 4000000 in
theorem Between_hi (D U E V : Int) (w : World) (ha : IsMom D U) (hb : IsMom E V) (q : U ≤ V) : Calls Tryz.prog 40 #[.agg #[.int .i64 D, .int .i64 U], .agg #[.int .i64 E, .int .i64 V]] w (Gives w #[.int .i64 (E - D), .int .i64 (V - U), .int .i64 0]) := by
  have K1 := fun W => Lib.hid (isMoment_t D U W ha)
  have K2 := fun W => Lib.hid (isMoment_t E V W hb)
  obtain ⟨⟨f1, f2⟩, ⟨f3, f4⟩, ⟨f5, f6⟩, f7, f8⟩ := bwFacts D U E V ha hb
  have q1 : ¬ V - U < 0 := by omega
  clear ha hb
  have xa := (BoxC.new w 55 #[.int .i64 D, .int .i64 U]).alloc (.cells #[.int .i64 E, .int .i64 V] 55)
  have x0 := xa.cell (i := 0) rfl
  have x1 := xa.cell (i := 1) rfl
  clear xa
  go_enter Tryz.func40, Tryz.ntmps40
  go_wp2_with (first
    | (go_at_call 80; refine Calls.mono (K1 _).out ?_; rintro e w1 ⟨rfl, hb⟩; clear K1; have B1 := Lib.hid (Bl.step (Bl.alloc (Bl.alloc (Below.refl _ w) _) _) hb); have X1 := Lib.hid (((BoxC.new w 55 #[.int .i64 D, .int .i64 U]).alloc _).stayed hb); have Y1 := Lib.hid ((BoxC.newAt (W := w.alloc (.cells #[.int .i64 D, .int .i64 U] 55)) (t := 55) (cs := #[.int .i64 E, .int .i64 V]) (n := w.heap.size + 1) (by simp)).stayed hb); have c0 := Y1.out.cell (i := 0) rfl; have c1 := Y1.out.cell (i := 1) rfl; clear hb)
    | (go_at_call 80; refine Calls.mono (K2 _).out ?_; rintro e w2 ⟨rfl, hb⟩; have B2 := Lib.hid (Bl.step B1.out hb); have X2 := X1.out.stayed hb; have Y2 := Y1.out.stayed hb; have a0 := X2.cell (i := 0) rfl; have a1 := X2.cell (i := 1) rfl; have e0 := Y2.cell (i := 0) rfl; have e1 := Y2.cell (i := 1) rfl; clear hb X2 Y2))
  go_quiet (fail)
  go_wp2
  refine bodyPost_ret (v := .tuple #[.int .i64 (E - D), .int .i64 (V - U), .int .i64 0]) (by simp [results, Tryz.results40, go_sem]) rfl ?_
  exact ⟨rfl, below_drewN' B2.out _⟩
set_option maxHeartbeats 4000000 in
theorem RBetween_a (D U E V : Int) (w : World) (ha : ¬ IsMom D U) : Calls Tryz.prog 41 #[.agg #[.int .i64 D, .int .i64 U], .agg #[.int .i64 E, .int .i64 V]] w (Gives w #[.int .i64 0, .int .i64 0, .int .i64 1]) := by
  have K1 := fun W => Lib.hid (Valid_f D U W ha)
  clear ha
  have xa := (BoxC.new w 55 #[.int .i64 D, .int .i64 U]).alloc (.cells #[.int .i64 E, .int .i64 V] 55)
  have x0 := xa.cell (i := 0) rfl
  have x1 := xa.cell (i := 1) rfl
  clear xa
  go_enter Tryz.func41, Tryz.ntmps41
  go_wp2_with (first
    | (go_at_call 81; refine Calls.mono (K1 _).out ?_; rintro e w1 ⟨rfl, hb⟩; clear K1; have B1 := Lib.hid (Bl.step (Bl.alloc (Bl.alloc (Below.refl _ w) _) _) hb); have X1 := Lib.hid (((BoxC.new w 55 #[.int .i64 D, .int .i64 U]).alloc _).stayed hb); have Y1 := Lib.hid ((BoxC.newAt (W := w.alloc (.cells #[.int .i64 D, .int .i64 U] 55)) (t := 55) (cs := #[.int .i64 E, .int .i64 V]) (n := w.heap.size + 1) (by simp)).stayed hb); have c0 := Y1.out.cell (i := 0) rfl; have c1 := Y1.out.cell (i := 1) rfl; clear hb))
  refine bodyPost_ret (v := .tuple #[.int .i64 0, .int .i64 0, .int .i64 1]) (by simp [results, Tryz.results41, go_sem]) rfl ?_
  exact ⟨rfl, B1.out⟩
set_option maxHeartbeats 4000000 in
theorem RBetween_b (D U E V : Int) (w : World) (ha : IsMom D U) (hb : ¬ IsMom E V) : Calls Tryz.prog 41 #[.agg #[.int .i64 D, .int .i64 U], .agg #[.int .i64 E, .int .i64 V]] w (Gives w #[.int .i64 0, .int .i64 0, .int .i64 1]) := by
  have K1 := fun W => Lib.hid (Valid_t D U W ha)
  have K2 := fun W => Lib.hid (Valid_f E V W hb)
  clear ha hb
  have xa := (BoxC.new w 55 #[.int .i64 D, .int .i64 U]).alloc (.cells #[.int .i64 E, .int .i64 V] 55)
  have x0 := xa.cell (i := 0) rfl
  have x1 := xa.cell (i := 1) rfl
  clear xa
  go_enter Tryz.func41, Tryz.ntmps41
  go_wp2_with (first
    | (go_at_call 81; refine Calls.mono (K1 _).out ?_; rintro e w1 ⟨rfl, hb⟩; clear K1; have B1 := Lib.hid (Bl.step (Bl.alloc (Bl.alloc (Below.refl _ w) _) _) hb); have X1 := Lib.hid (((BoxC.new w 55 #[.int .i64 D, .int .i64 U]).alloc _).stayed hb); have Y1 := Lib.hid ((BoxC.newAt (W := w.alloc (.cells #[.int .i64 D, .int .i64 U] 55)) (t := 55) (cs := #[.int .i64 E, .int .i64 V]) (n := w.heap.size + 1) (by simp)).stayed hb); have c0 := Y1.out.cell (i := 0) rfl; have c1 := Y1.out.cell (i := 1) rfl; clear hb)
    | (go_at_call 81; refine Calls.mono (K2 _).out ?_; rintro e w2 ⟨rfl, hb⟩; have B2 := Lib.hid (Bl.step B1.out hb); have X2 := X1.out.stayed hb; have Y2 := Y1.out.stayed hb; have a0 := X2.cell (i := 0) rfl; have a1 := X2.cell (i := 1) rfl; have e0 := Y2.cell (i := 0) rfl; have e1 := Y2.cell (i := 1) rfl; clear hb X2 Y2))
  refine bodyPost_ret (v := .tuple #[.int .i64 0, .int .i64 0, .int .i64 1]) (by simp [results, Tryz.results41, go_sem]) rfl ?_
  exact ⟨rfl, B2.out⟩
set_option maxHeartbeats 4000000 in
theorem RBetween_lo (D U E V : Int) (w : World) (ha : IsMom D U) (hb : IsMom E V) (q : V < U) : Calls Tryz.prog 41 #[.agg #[.int .i64 D, .int .i64 U], .agg #[.int .i64 E, .int .i64 V]] w (Gives w #[.int .i64 (E - D - 1), .int .i64 (V - U + 86400000000), .int .i64 0]) := by
  have K1 := fun W => Lib.hid (Valid_t D U W ha)
  have K2 := fun W => Lib.hid (Valid_t E V W hb)
  obtain ⟨⟨f1, f2⟩, ⟨f3, f4⟩, ⟨f5, f6⟩, f7, f8⟩ := bwFacts D U E V ha hb
  have q1 : V - U < 0 := by omega
  have q2 : ¬ U ≤ V := by omega
  clear ha hb
  clear q
  have xa := (BoxC.new w 55 #[.int .i64 D, .int .i64 U]).alloc (.cells #[.int .i64 E, .int .i64 V] 55)
  have x0 := xa.cell (i := 0) rfl
  have x1 := xa.cell (i := 1) rfl
  clear xa
  go_enter Tryz.func41, Tryz.ntmps41
  go_wp2_with (first
    | (go_at_call 81; refine Calls.mono (K1 _).out ?_; rintro e w1 ⟨rfl, hb⟩; clear K1; have B1 := Lib.hid (Bl.step (Bl.alloc (Bl.alloc (Below.refl _ w) _) _) hb); have X1 := Lib.hid (((BoxC.new w 55 #[.int .i64 D, .int .i64 U]).alloc _).stayed hb); have Y1 := Lib.hid ((BoxC.newAt (W := w.alloc (.cells #[.int .i64 D, .int .i64 U] 55)) (t := 55) (cs := #[.int .i64 E, .int .i64 V]) (n := w.heap.size + 1) (by simp)).stayed hb); have c0 := Y1.out.cell (i := 0) rfl; have c1 := Y1.out.cell (i := 1) rfl; clear hb)
    | (go_at_call 81; refine Calls.mono (K2 _).out ?_; rintro e w2 ⟨rfl, hb⟩; have B2 := Lib.hid (Bl.step B1.out hb); have X2 := X1.out.stayed hb; have Y2 := Y1.out.stayed hb; have a0 := X2.cell (i := 0) rfl; have a1 := X2.cell (i := 1) rfl; have e0 := Y2.cell (i := 0) rfl; have e1 := Y2.cell (i := 1) rfl; clear hb X2 Y2))
  go_quiet (fail)
  go_wp2
  refine bodyPost_ret (v := .tuple #[.int .i64 (E - D - 1), .int .i64 (V - U + 86400000000), .int .i64 0]) (by simp [results, Tryz.results41, go_sem]) rfl ?_
  exact ⟨rfl, below_drewN' B2.out _⟩
set_option maxHeartbeats 4000000 in
theorem RBetween_hi (D U E V : Int) (w : World) (ha : IsMom D U) (hb : IsMom E V) (q : U ≤ V) : Calls Tryz.prog 41 #[.agg #[.int .i64 D, .int .i64 U], .agg #[.int .i64 E, .int .i64 V]] w (Gives w #[.int .i64 (E - D), .int .i64 (V - U), .int .i64 0]) := by
  have K1 := fun W => Lib.hid (Valid_t D U W ha)
  have K2 := fun W => Lib.hid (Valid_t E V W hb)
  obtain ⟨⟨f1, f2⟩, ⟨f3, f4⟩, ⟨f5, f6⟩, f7, f8⟩ := bwFacts D U E V ha hb
  have q1 : ¬ V - U < 0 := by omega
  clear ha hb
  have xa := (BoxC.new w 55 #[.int .i64 D, .int .i64 U]).alloc (.cells #[.int .i64 E, .int .i64 V] 55)
  have x0 := xa.cell (i := 0) rfl
  have x1 := xa.cell (i := 1) rfl
  clear xa
  go_enter Tryz.func41, Tryz.ntmps41
  go_wp2_with (first
    | (go_at_call 81; refine Calls.mono (K1 _).out ?_; rintro e w1 ⟨rfl, hb⟩; clear K1; have B1 := Lib.hid (Bl.step (Bl.alloc (Bl.alloc (Below.refl _ w) _) _) hb); have X1 := Lib.hid (((BoxC.new w 55 #[.int .i64 D, .int .i64 U]).alloc _).stayed hb); have Y1 := Lib.hid ((BoxC.newAt (W := w.alloc (.cells #[.int .i64 D, .int .i64 U] 55)) (t := 55) (cs := #[.int .i64 E, .int .i64 V]) (n := w.heap.size + 1) (by simp)).stayed hb); have c0 := Y1.out.cell (i := 0) rfl; have c1 := Y1.out.cell (i := 1) rfl; clear hb)
    | (go_at_call 81; refine Calls.mono (K2 _).out ?_; rintro e w2 ⟨rfl, hb⟩; have B2 := Lib.hid (Bl.step B1.out hb); have X2 := X1.out.stayed hb; have Y2 := Y1.out.stayed hb; have a0 := X2.cell (i := 0) rfl; have a1 := X2.cell (i := 1) rfl; have e0 := Y2.cell (i := 0) rfl; have e1 := Y2.cell (i := 1) rfl; clear hb X2 Y2))
  go_quiet (fail)
  go_wp2
  refine bodyPost_ret (v := .tuple #[.int .i64 (E - D), .int .i64 (V - U), .int .i64 0]) (by simp [results, Tryz.results41, go_sem]) rfl ?_
  exact ⟨rfl, below_drewN' B2.out _⟩
theorem between_both (D U E V : Int) : ∃ x y e : Int, (∀ W, Calls Tryz.prog 40 #[.agg #[.int .i64 D, .int .i64 U], .agg #[.int .i64 E, .int .i64 V]] W (Gives W #[.int .i64 x, .int .i64 y, .int .i64 e])) ∧ (∀ W, Calls Tryz.prog 41 #[.agg #[.int .i64 D, .int .i64 U], .agg #[.int .i64 E, .int .i64 V]] W (Gives W #[.int .i64 x, .int .i64 y, .int .i64 e])) := by
  by_cases ha : IsMom D U
  · by_cases hb : IsMom E V
    · rcases Int.lt_or_le V U with q | q
      · exact ⟨_, _, _, fun W => Between_lo D U E V W ha hb q, fun W => RBetween_lo D U E V W ha hb q⟩
      · exact ⟨_, _, _, fun W => Between_hi D U E V W ha hb q, fun W => RBetween_hi D U E V W ha hb q⟩
    · exact ⟨_, _, _, fun W => Between_b D U E V W ha hb, fun W => RBetween_b D U E V W ha hb⟩
  · exact ⟨_, _, _, fun W => Between_a D U E V W ha, fun W => RBetween_a D U E V W ha⟩
end Go.Proofs.YtmjifmlibgpjiaaGreatDoor
