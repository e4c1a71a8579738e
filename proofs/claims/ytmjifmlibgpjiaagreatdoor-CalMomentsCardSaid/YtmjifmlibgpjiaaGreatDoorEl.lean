/- CalMoments, as a call. -/
import Derived.Test.YtmjifmlibgpjiaaGreatDoorDt
import Derived.Test.YtmjifmlibgpjiaaGreatDoorEh
import Derived.Test.YtmjifmlibgpjiaaGreatDoorEk
namespace Go.Proofs.YtmjifmlibgpjiaaGreatDoor
open Go.RowKit Go.Shelf Tx Go.Maps
set_option linter.unusedVariables false
set_option maxRecDepth 100000

set_option maxHeartbeats 4000000 in
theorem CalMoments_any (D U E V n t : Int) (w : World) (hE : Env w) : Calls Tryz.prog 7 #[.agg #[.int .i64 D, .int .i64 U], .agg #[.int .i64 E, .int .i64 V], .int .i64 n, .int .i64 t] w fun e w' => e = .returned (.bool true) ∧ Below w.heap.size w w' := by
  obtain ⟨x, y, e0, KA, KB⟩ := after_both D U n t
  obtain ⟨p, q, e1, KC, KD⟩ := between_both D U E V
  have K1 := fun W => Lib.hid (KA W)
  have K2 := fun W => Lib.hid (KB W)
  have K3 := fun W => Lib.hid (KC W)
  have K4 := fun W => Lib.hid (KD W)
  have K5 := fun W (hW : Env W) => Lib.hid (sane_any W hW)
  have HE := Lib.hid hE
  have hq := fun W => eql_moment x y x y W
  simp only [beq_self_eq_true, Bool.and_self] at hq
  clear KA KB KC KD hE
  have xa := (BoxC.new w 55 #[.int .i64 D, .int .i64 U]).alloc (.cells #[.int .i64 E, .int .i64 V] 55)
  have x0 := xa.cell (i := 0) rfl
  have x1 := xa.cell (i := 1) rfl
  clear xa
  go_enter Tryz.func7, Tryz.ntmps7
  go_wp2_with (first
    | (go_at_call 38; refine Calls.mono (K1 _).out ?_; rintro e w1 ⟨rfl, hb⟩; clear K1; have B1 := Lib.hid (Bl.step (Bl.alloc (Bl.alloc (Below.refl _ w) _) _) hb); have A1 := Lib.hid (((BoxC.new w 55 #[.int .i64 D, .int .i64 U]).alloc _).stayed hb); have X1 := Lib.hid ((BoxC.newAt (W := w.alloc (.cells #[.int .i64 D, .int .i64 U] 55)) (t := 55) (cs := #[.int .i64 E, .int .i64 V]) (n := w.heap.size + 1) (by simp)).stayed hb); have ya := A1.out.alloc (.cells #[.int .i64 x, .int .i64 y] 55); have y0 := ya.cell (i := 0) rfl; have y1 := ya.cell (i := 1) rfl; clear ya hb)
    | (go_at_call 39; refine Calls.mono (K2 _).out ?_; rintro e w2 ⟨rfl, hb⟩; clear K2; have B2 := Lib.hid (Bl.step (Bl.alloc B1.out _) hb); have A2 := Lib.hid ((A1.out.alloc _).stayed hb); have X2 := Lib.hid ((X1.out.alloc _).stayed hb); have M2 := Lib.hid ((BoxC.new w1 55 #[.int .i64 x, .int .i64 y]).stayed hb); have za := A2.out.alloc (.cells #[.int .i64 x, .int .i64 y, .int .i64 e0] 59); have zb := X2.out.alloc (.cells #[.int .i64 x, .int .i64 y, .int .i64 e0] 59); have z0 := za.cell (i := 0) rfl; have z1 := za.cell (i := 1) rfl; have zz0 := zb.cell (i := 0) rfl; have zz1 := zb.cell (i := 1) rfl; clear za zb hb)
    | (go_at_call 40; refine Calls.mono (K3 _).out ?_; rintro e w3 ⟨rfl, hb⟩; clear K3; have B3 := Lib.hid (Bl.step (Bl.alloc B2.out _) hb); have M3 := Lib.hid ((M2.out.alloc _).stayed hb); have T3 := Lib.hid ((BoxC.new w2 59 #[.int .i64 x, .int .i64 y, .int .i64 e0]).stayed hb); have ua := (A2.out.alloc _).stayed hb; have ub := (X2.out.alloc _).stayed hb; have u0 := ua.cell (i := 0) rfl; have u1 := ua.cell (i := 1) rfl; have uu0 := ub.cell (i := 0) rfl; have uu1 := ub.cell (i := 1) rfl; clear ua ub hb)
    | (go_at_call 41; refine Calls.mono (K4 _).out ?_; rintro e w4 ⟨rfl, hb⟩; clear K4; have B4 := Lib.hid (Bl.step B3.out hb); have M4 := Lib.hid (M3.out.stayed hb); have T4 := Lib.hid (T3.out.stayed hb); clear hb)
    | (go_at_call 23; refine Calls.mono (K5 _ (HE.out.below B4.out)).out ?_; rintro e w5 ⟨rfl, hb⟩; have B5 := Lib.hid (Bl.step B4.out hb); have M5 := M4.out.stayed hb; have T5 := T4.out.stayed hb; have m0 := M5.cell (i := 0) rfl; have m1 := M5.cell (i := 1) rfl; have tt0 := T5.cell (i := 0) rfl; have tt1 := T5.cell (i := 1) rfl; have tt2 := T5.cell (i := 2) rfl; clear hb M5 T5))
  go_ret
  exact ⟨by first | rfl | simp, B5.out⟩
end Go.Proofs.YtmjifmlibgpjiaaGreatDoor
