/- The reference's After; Between, the program's and the reference's. -/
import Derived.Test.YtmjifmlibgpjiaaGreatDoorEg
namespace Go.Proofs.YtmjifmlibgpjiaaGreatDoor
open Go.RowKit Go.Shelf Tx Go.Maps
set_option linter.unusedVariables false
set_option maxRecDepth 100000

set_option maxHeartbeats 4000000 in
theorem RAfter_ok (d u n t a v r z : Nat) (w : World) (hd : d ≤ 3652058) (hu : u ≤ 86399999999) (hn : n ≤ 100000) (ht : t ≤ 1000000000000) (ha : a = u + n * t) (hv : v = a / 86400000000) (hr : r = a % 86400000000) (hz : z = d + v) (hz9 : z ≤ 3652058) : Calls Tryz.prog 39 #[.agg #[.int .i64 (d : Int), .int .i64 (u : Int)], .int .i64 (n : Int), .int .i64 (t : Int)] w (GivesA w #[.int .i64 (z : Int), .int .i64 (r : Int), .int .i64 0]) := by
  have F := Lib.hid (afFacts d u n t a v r z hd hu hn ht ha hv hr hz)
  have KM := fun W => Lib.hid (Valid_t (d : Int) (u : Int) W ⟨by omega, by omega⟩)
  have q1 : ¬ (n : Int) < 0 := by omega
  have q2 : ¬ (100000 : Int) < (n : Int) := by omega
  have q3 : ¬ (t : Int) < 0 := by omega
  have q4 : ¬ (1000000000000 : Int) < (t : Int) := by omega
  have KD := fun W => Lib.hid (RIn_okI (z : Int) W (by omega))
  clear hd hu hn ht ha hv hr hz hz9
  obtain ⟨⟨q, f1, f2, f3, f4⟩, f5, f6, f7, f8, f9, f10, f11, f12⟩ := F.out
  clear F
  obtain ⟨D, hD⟩ : ∃ D : Int, D = (d : Int) := ⟨_, rfl⟩
  obtain ⟨U, hU⟩ : ∃ U : Int, U = (u : Int) := ⟨_, rfl⟩
  obtain ⟨N, hN⟩ : ∃ N : Int, N = (n : Int) := ⟨_, rfl⟩
  obtain ⟨TT, hT⟩ : ∃ TT : Int, TT = (t : Int) := ⟨_, rfl⟩
  rw [← hD, ← hU] at KM
  rw [← hN, ← hT] at f1 f2
  rw [← hU] at f3 f4
  rw [← hD] at f7 f8
  rw [← hN] at q1 q2
  rw [← hT] at q3 q4
  rw [← hD, ← hU, ← hN, ← hT]
  clear hD hU hN hT
  have b0 := (BoxC.new w 55 #[.int .i64 D, .int .i64 U]).alloc (.cells #[.int .i64 0, .int .i64 0, .int .i64 0] 59)
  have x0 := b0.cell (i := 0) rfl
  have x1 := b0.cell (i := 1) rfl
  clear b0
  go_enter Tryz.func39, Tryz.ntmps39
  go_wp2_with (first
    | (go_at_call 81; refine Calls.mono (KM _).out ?_; rintro e w1 ⟨rfl, hb⟩; have B1 := Lib.hid (Bl.step (Bl.alloc (Bl.alloc (Below.refl _ w) _) _) hb); have X1 := Lib.hid (((BoxC.new w 55 #[.int .i64 D, .int .i64 U]).alloc _).stayed hb); have Y1 := Lib.hid ((BoxC.newAt (W := w.alloc (.cells #[.int .i64 D, .int .i64 U] 55)) (t := 59) (cs := #[.int .i64 0, .int .i64 0, .int .i64 0]) (n := w.heap.size + 1) (by simp)).stayed hb); have c0 := X1.out.cell (i := 0) rfl; have c1 := X1.out.cell (i := 1) rfl; have y0 := Y1.out.cell (i := 0) rfl; have y1 := Y1.out.cell (i := 1) rfl; have y2 := Y1.out.cell (i := 2) rfl; have z0 := Y1.out.frozen 0; have z1 := Y1.out.frozen 1; have z2 := Y1.out.frozen 2; have o0 := X1.out.frozen 0; have o1 := X1.out.frozen 1; have s1 := Y1.out.lt; have s0 := X1.out.lt; have a0 := (X1.out.set 0 (.int .i64 (z : Int))).cell (i := 0) rfl; have a1 := ((X1.out.set 0 (.int .i64 (z : Int))).set 1 (.int .i64 (r : Int))).cell (i := 1) rfl; clear hb)
    | (go_at_call 22; refine Calls.mono (KD _).out ?_; rintro e w4 ⟨rfl, hv⟩; subst w4))
  have Y3 := ((Y1.out.other (B' := w.heap.size) (by omega) 0 (.int .i64 (z : Int))).other (B' := w.heap.size) (by omega) 1 (.int .i64 (r : Int)))
  have e0 := (Y3.set 0 (.int .i64 (z : Int))).cell (i := 0) rfl
  have e1 := ((Y3.set 0 (.int .i64 (z : Int))).set 1 (.int .i64 (r : Int))).cell (i := 1) rfl
  have e2 := (((Y3.set 0 (.int .i64 (z : Int))).set 1 (.int .i64 (r : Int))).set 2 (.int .i64 0)).cell (i := 2) rfl
  refine bodyPost_ret (v := .agg #[.int .i64 (z : Int), .int .i64 (r : Int), .int .i64 0]) (by simp [results, Tryz.results39, go_sem, e0, e1, e2]) rfl ?_
  exact ⟨rfl, ((((B1.out.setCell (p := ⟨w.heap.size, 0, none⟩) (by simp) _).setCell (p := ⟨w.heap.size, 1, none⟩) (by simp) _).setCell (p := ⟨w.heap.size + 1, 0, none⟩) (by simp) _).setCell (p := ⟨w.heap.size + 1, 1, none⟩) (by simp) _).setCell (p := ⟨w.heap.size + 1, 2, none⟩) (by simp) _⟩
set_option maxHeartbeats 4000000 in
theorem RAfter_rng (d u n t a v r z : Nat) (w : World) (hd : d ≤ 3652058) (hu : u ≤ 86399999999) (hn : n ≤ 100000) (ht : t ≤ 1000000000000) (ha : a = u + n * t) (hv : v = a / 86400000000) (hr : r = a % 86400000000) (hz : z = d + v) (hz9 : 3652058 < z) : Calls Tryz.prog 39 #[.agg #[.int .i64 (d : Int), .int .i64 (u : Int)], .int .i64 (n : Int), .int .i64 (t : Int)] w (GivesA w #[.int .i64 0, .int .i64 0, .int .i64 8]) := by
  have F := Lib.hid (afFacts d u n t a v r z hd hu hn ht ha hv hr hz)
  have KM := fun W => Lib.hid (Valid_t (d : Int) (u : Int) W ⟨by omega, by omega⟩)
  have q1 : ¬ (n : Int) < 0 := by omega
  have q2 : ¬ (100000 : Int) < (n : Int) := by omega
  have q3 : ¬ (t : Int) < 0 := by omega
  have q4 : ¬ (1000000000000 : Int) < (t : Int) := by omega
  have KD := fun W => Lib.hid (RIn_bad (z : Int) W (by omega))
  clear hd hu hn ht ha hv hr hz hz9
  obtain ⟨⟨q, f1, f2, f3, f4⟩, f5, f6, f7, f8, f9, f10, f11, f12⟩ := F.out
  clear F
  obtain ⟨D, hD⟩ : ∃ D : Int, D = (d : Int) := ⟨_, rfl⟩
  obtain ⟨U, hU⟩ : ∃ U : Int, U = (u : Int) := ⟨_, rfl⟩
  obtain ⟨N, hN⟩ : ∃ N : Int, N = (n : Int) := ⟨_, rfl⟩
  obtain ⟨TT, hT⟩ : ∃ TT : Int, TT = (t : Int) := ⟨_, rfl⟩
  rw [← hD, ← hU] at KM
  rw [← hN, ← hT] at f1 f2
  rw [← hU] at f3 f4
  rw [← hD] at f7 f8
  rw [← hN] at q1 q2
  rw [← hT] at q3 q4
  rw [← hD, ← hU, ← hN, ← hT]
  clear hD hU hN hT
  have b0 := (BoxC.new w 55 #[.int .i64 D, .int .i64 U]).alloc (.cells #[.int .i64 0, .int .i64 0, .int .i64 0] 59)
  have x0 := b0.cell (i := 0) rfl
  have x1 := b0.cell (i := 1) rfl
  clear b0
  go_enter Tryz.func39, Tryz.ntmps39
  go_wp2_with (first
    | (go_at_call 81; refine Calls.mono (KM _).out ?_; rintro e w1 ⟨rfl, hb⟩; have B1 := Lib.hid (Bl.step (Bl.alloc (Bl.alloc (Below.refl _ w) _) _) hb); have X1 := Lib.hid (((BoxC.new w 55 #[.int .i64 D, .int .i64 U]).alloc _).stayed hb); have Y1 := Lib.hid ((BoxC.newAt (W := w.alloc (.cells #[.int .i64 D, .int .i64 U] 55)) (t := 59) (cs := #[.int .i64 0, .int .i64 0, .int .i64 0]) (n := w.heap.size + 1) (by simp)).stayed hb); have c0 := X1.out.cell (i := 0) rfl; have c1 := X1.out.cell (i := 1) rfl; have y0 := Y1.out.cell (i := 0) rfl; have y1 := Y1.out.cell (i := 1) rfl; have y2 := Y1.out.cell (i := 2) rfl; have z0 := Y1.out.frozen 0; have z1 := Y1.out.frozen 1; have z2 := Y1.out.frozen 2; have o0 := X1.out.frozen 0; have o1 := X1.out.frozen 1; have s1 := Y1.out.lt; have s0 := X1.out.lt; have a0 := (X1.out.set 0 (.int .i64 (z : Int))).cell (i := 0) rfl; have a1 := ((X1.out.set 0 (.int .i64 (z : Int))).set 1 (.int .i64 (r : Int))).cell (i := 1) rfl; clear hb)
    | (go_at_call 22; refine Calls.mono (KD _).out ?_; rintro e w4 ⟨rfl, hv⟩; subst w4))
  have Y3 := ((Y1.out.other (B' := w.heap.size) (by omega) 0 (.int .i64 (z : Int))).other (B' := w.heap.size) (by omega) 1 (.int .i64 (r : Int)))
  have e0 := (Y3.set 0 (.int .i64 0)).cell (i := 0) rfl
  have e1 := ((Y3.set 0 (.int .i64 0)).set 1 (.int .i64 0)).cell (i := 1) rfl
  have e2 := (((Y3.set 0 (.int .i64 0)).set 1 (.int .i64 0)).set 2 (.int .i64 8)).cell (i := 2) rfl
  refine bodyPost_ret (v := .agg #[.int .i64 0, .int .i64 0, .int .i64 8]) (by simp [results, Tryz.results39, go_sem, e0, e1, e2]) rfl ?_
  exact ⟨rfl, ((((B1.out.setCell (p := ⟨w.heap.size, 0, none⟩) (by simp) _).setCell (p := ⟨w.heap.size, 1, none⟩) (by simp) _).setCell (p := ⟨w.heap.size + 1, 0, none⟩) (by simp) _).setCell (p := ⟨w.heap.size + 1, 1, none⟩) (by simp) _).setCell (p := ⟨w.heap.size + 1, 2, none⟩) (by simp) _⟩
set_option maxHeartbeats 4000000 in
theorem RAfter_bm (D U N TT : Int) (w : World) (h : ¬ IsMom D U) : Calls Tryz.prog 39 #[.agg #[.int .i64 D, .int .i64 U], .int .i64 N, .int .i64 TT] w (GivesA w #[.int .i64 0, .int .i64 0, .int .i64 1]) := by
  have KM := fun W => Lib.hid (Valid_f D U W h)
  clear h
  have b0 := (BoxC.new w 55 #[.int .i64 D, .int .i64 U]).alloc (.cells #[.int .i64 0, .int .i64 0, .int .i64 0] 59)
  have x0 := b0.cell (i := 0) rfl
  have x1 := b0.cell (i := 1) rfl
  clear b0
  go_enter Tryz.func39, Tryz.ntmps39
  go_wp2_with (first
    | (go_at_call 81; refine Calls.mono (KM _).out ?_; rintro e w1 ⟨rfl, hb⟩; have B1 := Lib.hid (Bl.step (Bl.alloc (Bl.alloc (Below.refl _ w) _) _) hb); have X1 := Lib.hid (((BoxC.new w 55 #[.int .i64 D, .int .i64 U]).alloc _).stayed hb); have Y1 := Lib.hid ((BoxC.newAt (W := w.alloc (.cells #[.int .i64 D, .int .i64 U] 55)) (t := 59) (cs := #[.int .i64 0, .int .i64 0, .int .i64 0]) (n := w.heap.size + 1) (by simp)).stayed hb); have c0 := X1.out.cell (i := 0) rfl; have c1 := X1.out.cell (i := 1) rfl; have y0 := Y1.out.cell (i := 0) rfl; have y1 := Y1.out.cell (i := 1) rfl; have y2 := Y1.out.cell (i := 2) rfl; have z0 := Y1.out.frozen 0; have z1 := Y1.out.frozen 1; have z2 := Y1.out.frozen 2; have o0 := X1.out.frozen 0; have o1 := X1.out.frozen 1; have s1 := Y1.out.lt; have s0 := X1.out.lt; clear hb))
  have Y3 := Y1.out
  have e0 := (Y3.set 0 (.int .i64 0)).cell (i := 0) rfl
  have e1 := ((Y3.set 0 (.int .i64 0)).set 1 (.int .i64 0)).cell (i := 1) rfl
  have e2 := (((Y3.set 0 (.int .i64 0)).set 1 (.int .i64 0)).set 2 (.int .i64 1)).cell (i := 2) rfl
  refine bodyPost_ret (v := .agg #[.int .i64 0, .int .i64 0, .int .i64 1]) (by simp [results, Tryz.results39, go_sem, e0, e1, e2]) rfl ?_
  exact ⟨rfl, (((B1.out).setCell (p := ⟨w.heap.size + 1, 0, none⟩) (by simp) _).setCell (p := ⟨w.heap.size + 1, 1, none⟩) (by simp) _).setCell (p := ⟨w.heap.size + 1, 2, none⟩) (by simp) _⟩
set_option maxHeartbeats 4000000 in
theorem RAfter_n0 (D U N TT : Int) (w : World) (h : IsMom D U) (q1 : N < 0) : Calls Tryz.prog 39 #[.agg #[.int .i64 D, .int .i64 U], .int .i64 N, .int .i64 TT] w (GivesA w #[.int .i64 0, .int .i64 0, .int .i64 1]) := by
  have KM := fun W => Lib.hid (Valid_t D U W h)
  clear h
  have b0 := (BoxC.new w 55 #[.int .i64 D, .int .i64 U]).alloc (.cells #[.int .i64 0, .int .i64 0, .int .i64 0] 59)
  have x0 := b0.cell (i := 0) rfl
  have x1 := b0.cell (i := 1) rfl
  clear b0
  go_enter Tryz.func39, Tryz.ntmps39
  go_wp2_with (first
    | (go_at_call 81; refine Calls.mono (KM _).out ?_; rintro e w1 ⟨rfl, hb⟩; have B1 := Lib.hid (Bl.step (Bl.alloc (Bl.alloc (Below.refl _ w) _) _) hb); have X1 := Lib.hid (((BoxC.new w 55 #[.int .i64 D, .int .i64 U]).alloc _).stayed hb); have Y1 := Lib.hid ((BoxC.newAt (W := w.alloc (.cells #[.int .i64 D, .int .i64 U] 55)) (t := 59) (cs := #[.int .i64 0, .int .i64 0, .int .i64 0]) (n := w.heap.size + 1) (by simp)).stayed hb); have c0 := X1.out.cell (i := 0) rfl; have c1 := X1.out.cell (i := 1) rfl; have y0 := Y1.out.cell (i := 0) rfl; have y1 := Y1.out.cell (i := 1) rfl; have y2 := Y1.out.cell (i := 2) rfl; have z0 := Y1.out.frozen 0; have z1 := Y1.out.frozen 1; have z2 := Y1.out.frozen 2; have o0 := X1.out.frozen 0; have o1 := X1.out.frozen 1; have s1 := Y1.out.lt; have s0 := X1.out.lt; clear hb))
  have Y3 := Y1.out
  have e0 := (Y3.set 0 (.int .i64 0)).cell (i := 0) rfl
  have e1 := ((Y3.set 0 (.int .i64 0)).set 1 (.int .i64 0)).cell (i := 1) rfl
  have e2 := (((Y3.set 0 (.int .i64 0)).set 1 (.int .i64 0)).set 2 (.int .i64 1)).cell (i := 2) rfl
  refine bodyPost_ret (v := .agg #[.int .i64 0, .int .i64 0, .int .i64 1]) (by simp [results, Tryz.results39, go_sem, e0, e1, e2]) rfl ?_
  exact ⟨rfl, (((B1.out).setCell (p := ⟨w.heap.size + 1, 0, none⟩) (by simp) _).setCell (p := ⟨w.heap.size + 1, 1, none⟩) (by simp) _).setCell (p := ⟨w.heap.size + 1, 2, none⟩) (by simp) _⟩
set_option maxHeartbeats 4000000 in
theorem RAfter_n1 (D U N TT : Int) (w : World) (h : IsMom D U) (q1 : ¬ N < 0) (q2 : 100000 < N) : Calls Tryz.prog 39 #[.agg #[.int .i64 D, .int .i64 U], .int .i64 N, .int .i64 TT] w (GivesA w #[.int .i64 0, .int .i64 0, .int .i64 1]) := by
  have KM := fun W => Lib.hid (Valid_t D U W h)
  clear h
  have b0 := (BoxC.new w 55 #[.int .i64 D, .int .i64 U]).alloc (.cells #[.int .i64 0, .int .i64 0, .int .i64 0] 59)
  have x0 := b0.cell (i := 0) rfl
  have x1 := b0.cell (i := 1) rfl
  clear b0
  go_enter Tryz.func39, Tryz.ntmps39
  go_wp2_with (first
    | (go_at_call 81; refine Calls.mono (KM _).out ?_; rintro e w1 ⟨rfl, hb⟩; have B1 := Lib.hid (Bl.step (Bl.alloc (Bl.alloc (Below.refl _ w) _) _) hb); have X1 := Lib.hid (((BoxC.new w 55 #[.int .i64 D, .int .i64 U]).alloc _).stayed hb); have Y1 := Lib.hid ((BoxC.newAt (W := w.alloc (.cells #[.int .i64 D, .int .i64 U] 55)) (t := 59) (cs := #[.int .i64 0, .int .i64 0, .int .i64 0]) (n := w.heap.size + 1) (by simp)).stayed hb); have c0 := X1.out.cell (i := 0) rfl; have c1 := X1.out.cell (i := 1) rfl; have y0 := Y1.out.cell (i := 0) rfl; have y1 := Y1.out.cell (i := 1) rfl; have y2 := Y1.out.cell (i := 2) rfl; have z0 := Y1.out.frozen 0; have z1 := Y1.out.frozen 1; have z2 := Y1.out.frozen 2; have o0 := X1.out.frozen 0; have o1 := X1.out.frozen 1; have s1 := Y1.out.lt; have s0 := X1.out.lt; clear hb))
  have Y3 := Y1.out
  have e0 := (Y3.set 0 (.int .i64 0)).cell (i := 0) rfl
  have e1 := ((Y3.set 0 (.int .i64 0)).set 1 (.int .i64 0)).cell (i := 1) rfl
  have e2 := (((Y3.set 0 (.int .i64 0)).set 1 (.int .i64 0)).set 2 (.int .i64 1)).cell (i := 2) rfl
  refine bodyPost_ret (v := .agg #[.int .i64 0, .int .i64 0, .int .i64 1]) (by simp [results, Tryz.results39, go_sem, e0, e1, e2]) rfl ?_
  exact ⟨rfl, (((B1.out).setCell (p := ⟨w.heap.size + 1, 0, none⟩) (by simp) _).setCell (p := ⟨w.heap.size + 1, 1, none⟩) (by simp) _).setCell (p := ⟨w.heap.size + 1, 2, none⟩) (by simp) _⟩
set_option maxHeartbeats 4000000 in
theorem RAfter_t0 (D U N TT : Int) (w : World) (h : IsMom D U) (q1 : ¬ N < 0) (q2 : ¬ 100000 < N) (q3 : TT < 0) : Calls Tryz.prog 39 #[.agg #[.int .i64 D, .int .i64 U], .int .i64 N, .int .i64 TT] w (GivesA w #[.int .i64 0, .int .i64 0, .int .i64 1]) := by
  have KM := fun W => Lib.hid (Valid_t D U W h)
  clear h
  have b0 := (BoxC.new w 55 #[.int .i64 D, .int .i64 U]).alloc (.cells #[.int .i64 0, .int .i64 0, .int .i64 0] 59)
  have x0 := b0.cell (i := 0) rfl
  have x1 := b0.cell (i := 1) rfl
  clear b0
  go_enter Tryz.func39, Tryz.ntmps39
  go_wp2_with (first
    | (go_at_call 81; refine Calls.mono (KM _).out ?_; rintro e w1 ⟨rfl, hb⟩; have B1 := Lib.hid (Bl.step (Bl.alloc (Bl.alloc (Below.refl _ w) _) _) hb); have X1 := Lib.hid (((BoxC.new w 55 #[.int .i64 D, .int .i64 U]).alloc _).stayed hb); have Y1 := Lib.hid ((BoxC.newAt (W := w.alloc (.cells #[.int .i64 D, .int .i64 U] 55)) (t := 59) (cs := #[.int .i64 0, .int .i64 0, .int .i64 0]) (n := w.heap.size + 1) (by simp)).stayed hb); have c0 := X1.out.cell (i := 0) rfl; have c1 := X1.out.cell (i := 1) rfl; have y0 := Y1.out.cell (i := 0) rfl; have y1 := Y1.out.cell (i := 1) rfl; have y2 := Y1.out.cell (i := 2) rfl; have z0 := Y1.out.frozen 0; have z1 := Y1.out.frozen 1; have z2 := Y1.out.frozen 2; have o0 := X1.out.frozen 0; have o1 := X1.out.frozen 1; have s1 := Y1.out.lt; have s0 := X1.out.lt; clear hb))
  have Y3 := Y1.out
  have e0 := (Y3.set 0 (.int .i64 0)).cell (i := 0) rfl
  have e1 := ((Y3.set 0 (.int .i64 0)).set 1 (.int .i64 0)).cell (i := 1) rfl
  have e2 := (((Y3.set 0 (.int .i64 0)).set 1 (.int .i64 0)).set 2 (.int .i64 1)).cell (i := 2) rfl
  refine bodyPost_ret (v := .agg #[.int .i64 0, .int .i64 0, .int .i64 1]) (by simp [results, Tryz.results39, go_sem, e0, e1, e2]) rfl ?_
  exact ⟨rfl, (((B1.out).setCell (p := ⟨w.heap.size + 1, 0, none⟩) (by simp) _).setCell (p := ⟨w.heap.size + 1, 1, none⟩) (by simp) _).setCell (p := ⟨w.heap.size + 1, 2, none⟩) (by simp) _⟩
set_option maxHeartbeats 4000000 in
theorem RAfter_t1 (D U N TT : Int) (w : World) (h : IsMom D U) (q1 : ¬ N < 0) (q2 : ¬ 100000 < N) (q3 : ¬ TT < 0) (q4 : 1000000000000 < TT) : Calls Tryz.prog 39 #[.agg #[.int .i64 D, .int .i64 U], .int .i64 N, .int .i64 TT] w (GivesA w #[.int .i64 0, .int .i64 0, .int .i64 1]) := by
  have KM := fun W => Lib.hid (Valid_t D U W h)
  clear h
  have b0 := (BoxC.new w 55 #[.int .i64 D, .int .i64 U]).alloc (.cells #[.int .i64 0, .int .i64 0, .int .i64 0] 59)
  have x0 := b0.cell (i := 0) rfl
  have x1 := b0.cell (i := 1) rfl
  clear b0
  go_enter Tryz.func39, Tryz.ntmps39
  go_wp2_with (first
    | (go_at_call 81; refine Calls.mono (KM _).out ?_; rintro e w1 ⟨rfl, hb⟩; have B1 := Lib.hid (Bl.step (Bl.alloc (Bl.alloc (Below.refl _ w) _) _) hb); have X1 := Lib.hid (((BoxC.new w 55 #[.int .i64 D, .int .i64 U]).alloc _).stayed hb); have Y1 := Lib.hid ((BoxC.newAt (W := w.alloc (.cells #[.int .i64 D, .int .i64 U] 55)) (t := 59) (cs := #[.int .i64 0, .int .i64 0, .int .i64 0]) (n := w.heap.size + 1) (by simp)).stayed hb); have c0 := X1.out.cell (i := 0) rfl; have c1 := X1.out.cell (i := 1) rfl; have y0 := Y1.out.cell (i := 0) rfl; have y1 := Y1.out.cell (i := 1) rfl; have y2 := Y1.out.cell (i := 2) rfl; have z0 := Y1.out.frozen 0; have z1 := Y1.out.frozen 1; have z2 := Y1.out.frozen 2; have o0 := X1.out.frozen 0; have o1 := X1.out.frozen 1; have s1 := Y1.out.lt; have s0 := X1.out.lt; clear hb))
  have Y3 := Y1.out
  have e0 := (Y3.set 0 (.int .i64 0)).cell (i := 0) rfl
  have e1 := ((Y3.set 0 (.int .i64 0)).set 1 (.int .i64 0)).cell (i := 1) rfl
  have e2 := (((Y3.set 0 (.int .i64 0)).set 1 (.int .i64 0)).set 2 (.int .i64 1)).cell (i := 2) rfl
  refine bodyPost_ret (v := .agg #[.int .i64 0, .int .i64 0, .int .i64 1]) (by simp [results, Tryz.results39, go_sem, e0, e1, e2]) rfl ?_
  exact ⟨rfl, (((B1.out).setCell (p := ⟨w.heap.size + 1, 0, none⟩) (by simp) _).setCell (p := ⟨w.heap.size + 1, 1, none⟩) (by simp) _).setCell (p := ⟨w.heap.size + 1, 2, none⟩) (by simp) _⟩
theorem after_both (D U N T : Int) : ∃ x y e : Int, (∀ W, Calls Tryz.prog 38 #[.agg #[.int .i64 D, .int .i64 U], .int .i64 N, .int .i64 T] W (GivesQ W x y e)) ∧ (∀ W, Calls Tryz.prog 39 #[.agg #[.int .i64 D, .int .i64 U], .int .i64 N, .int .i64 T] W (GivesA W #[.int .i64 x, .int .i64 y, .int .i64 e])) := by
  by_cases h : IsMom D U
  · by_cases h1 : 0 ≤ N ∧ N ≤ 100000
    · by_cases h2 : 0 ≤ T ∧ T ≤ 1000000000000
      · obtain ⟨⟨m1, m2⟩, m3, m4⟩ := h
        obtain ⟨d, rfl⟩ : ∃ k : Nat, D = (k : Int) := ⟨D.toNat, by omega⟩
        obtain ⟨u, rfl⟩ : ∃ k : Nat, U = (k : Int) := ⟨U.toNat, by omega⟩
        obtain ⟨n, rfl⟩ : ∃ k : Nat, N = (k : Int) := ⟨N.toNat, by omega⟩
        obtain ⟨t, rfl⟩ : ∃ k : Nat, T = (k : Int) := ⟨T.toNat, by omega⟩
        rcases Nat.lt_or_ge 3652058 (d + (u + n * t) / 86400000000) with q | q
        · exact ⟨0, 0, 8, fun W => After_rng d u n t _ _ _ _ W (by omega) (by omega) (by omega) (by omega) rfl rfl rfl rfl q, fun W => RAfter_rng d u n t _ _ _ _ W (by omega) (by omega) (by omega) (by omega) rfl rfl rfl rfl q⟩
        · exact ⟨_, _, 0, fun W => After_ok d u n t _ _ _ _ W (by omega) (by omega) (by omega) (by omega) rfl rfl rfl rfl q, fun W => RAfter_ok d u n t _ _ _ _ W (by omega) (by omega) (by omega) (by omega) rfl rfl rfl rfl q⟩
      · refine ⟨0, 0, 1, fun W => After_bt D U N T W h h1 h2, fun W => ?_⟩
        rcases Int.lt_or_le T 0 with q | q
        · exact RAfter_t0 D U N T W h (by omega) (by omega) q
        · exact RAfter_t1 D U N T W h (by omega) (by omega) (by omega) (by omega)
    · refine ⟨0, 0, 1, fun W => After_bn D U N T W h h1, fun W => ?_⟩
      rcases Int.lt_or_le N 0 with q | q
      · exact RAfter_n0 D U N T W h q
      · exact RAfter_n1 D U N T W h (by omega) (by omega)
  · exact ⟨0, 0, 1, fun W => After_bm D U N T W h, fun W => RAfter_bm D U N T W h⟩
end Go.Proofs.YtmjifmlibgpjiaaGreatDoor
