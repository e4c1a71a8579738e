/- After: the program's and the reference's. -/
import Derived.Test.YtmjifmlibgpjiaaGreatDoorEf
namespace Go.Proofs.YtmjifmlibgpjiaaGreatDoor
open Go.RowKit Go.Shelf Tx Go.Maps
set_option linter.unusedVariables false
set_option maxRecDepth 100000

/-- The arithmetic of After, of numbers that are not too large. -/
theorem afFacts (d u n t a v r z : Nat) (hd : d ≤ 3652058) (hu : u ≤ 86399999999) (hn : n ≤ 100000) (ht : t ≤ 1000000000000) (ha : a = u + n * t) (hv : v = a / 86400000000) (hr : r = a % 86400000000) (hz : z = d + v) :
    (∃ q : Nat, IntKind.i64.wrap ((n : Int) * (t : Int)) = (q : Int) ∧ wrap64 ((n : Int) * (t : Int)) = (q : Int) ∧ IntKind.i64.wrap ((u : Int) + (q : Int)) = (a : Int) ∧ wrap64 ((u : Int) + (q : Int)) = (a : Int)) ∧
    (a : Int).tdiv 86400000000 = (v : Int) ∧ (a : Int).tmod 86400000000 = (r : Int) ∧ IntKind.i64.wrap ((d : Int) + (v : Int)) = (z : Int) ∧ wrap64 ((d : Int) + (v : Int)) = (z : Int) ∧ wrap64 (v : Int) = (v : Int) ∧ wrap64 (r : Int) = (r : Int) ∧ IntKind.i64.wrap (v : Int) = (v : Int) ∧ IntKind.i64.wrap (r : Int) = (r : Int) := by
  have hq : n * t ≤ 100000 * 1000000000000 := Nat.mul_le_mul hn ht
  have hva : v ≤ a := by rw [hv]; exact Nat.div_le_self _ _
  have hra : r ≤ a := by rw [hr]; exact Nat.mod_le _ _
  have e1 : (a : Int).tdiv 86400000000 = (v : Int) := by rw [hv]; exact tdivN a 86400000000
  have e2 : (a : Int).tmod 86400000000 = (r : Int) := by rw [hr]; exact tmodN a 86400000000
  refine ⟨⟨n * t, ?_, ?_, ?_, ?_⟩, e1, e2, ?_, ?_, ?_, ?_, ?_, ?_⟩
  · rw [← Int.natCast_mul]; exact i64i' (by omega) (by omega)
  · rw [← Int.natCast_mul]; exact w64 (by omega) (by omega)
  · rw [← Int.natCast_add, ← ha]; exact i64i' (by omega) (by omega)
  · rw [← Int.natCast_add, ← ha]; exact w64 (by omega) (by omega)
  · rw [← Int.natCast_add, ← hz]; exact i64i' (by omega) (by omega)
  · rw [← Int.natCast_add, ← hz]; exact w64 (by omega) (by omega)
  · exact w64 (by omega) (by omega)
  · exact w64 (by omega) (by omega)
  · exact i64i' (by omega) (by omega)
  · exact i64i' (by omega) (by omega)
/-- A moment and an error. -/
def GivesQ (w : World) (d u e : Int) (en : Ending) (w' : World) : Prop := en = .returned (.tuple #[.agg #[.int .i64 d, .int .i64 u], .int .i64 e]) ∧ Below w.heap.size w w'
set_option maxHeartbeats 4000000 in
theorem After_ok (d u n t a v r z : Nat) (w : World) (hd : d ≤ 3652058) (hu : u ≤ 86399999999) (hn : n ≤ 100000) (ht : t ≤ 1000000000000) (ha : a = u + n * t) (hv : v = a / 86400000000) (hr : r = a % 86400000000) (hz : z = d + v) (hz9 : z ≤ 3652058) : Calls Tryz.prog 38 #[.agg #[.int .i64 (d : Int), .int .i64 (u : Int)], .int .i64 (n : Int), .int .i64 (t : Int)] w (GivesQ w (z : Int) (r : Int) 0) := by
  have F := Lib.hid (afFacts d u n t a v r z hd hu hn ht ha hv hr hz)
  have KM := fun W => Lib.hid (isMoment_t (d : Int) (u : Int) W ⟨by omega, by omega⟩)
  have K1 := fun W => Lib.hid (inRange_any (n : Int) 0 100000 W)
  rw [inR_true (by omega) (by omega)] at K1
  have K2 := fun W => Lib.hid (inRange_any (t : Int) 0 1000000000000 W)
  rw [inR_true (by omega) (by omega)] at K2
  have KD := fun W => Lib.hid (isDay_any (z : Int) W)
  rw [inR_true (by omega) (by omega)] at KD
  clear hd hu hn ht ha hv hr hz hz9
  obtain ⟨⟨q, f1, f2, f3, f4⟩, f5, f6, f7, f8, f9, f10, f11, f12⟩ := F.out
  clear F
  obtain ⟨D, hD⟩ : ∃ D : Int, D = (d : Int) := ⟨_, rfl⟩
  obtain ⟨U, hU⟩ : ∃ U : Int, U = (u : Int) := ⟨_, rfl⟩
  obtain ⟨N, hN⟩ : ∃ N : Int, N = (n : Int) := ⟨_, rfl⟩
  obtain ⟨TT, hT⟩ : ∃ TT : Int, TT = (t : Int) := ⟨_, rfl⟩
  rw [← hD, ← hU] at KM
  rw [← hN, ← hT] at f1 f2
  rw [← hU] at f3 f4
  rw [← hD] at f7 f8
  rw [← hN] at K1
  rw [← hT] at K2
  rw [← hD, ← hU, ← hN, ← hT]
  clear hD hU hN hT
  have b0 := BoxC.new w 55 #[.int .i64 D, .int .i64 U]
  have x0 := b0.cell (i := 0) rfl
  have x1 := b0.cell (i := 1) rfl
  clear b0
  go_enter Tryz.func38, Tryz.ntmps38
  go_wp2_with (first
    | (go_at_call 80; refine Calls.mono (KM _).out ?_; rintro e w1 ⟨rfl, hb⟩; have B1 := Lib.hid (Bl.step (Bl.alloc (Bl.alloc (Below.refl _ w) _) _) hb); have X1 := Lib.hid (((BoxC.new w 55 #[.int .i64 D, .int .i64 U]).alloc _).stayed hb); have Y1 := Lib.hid ((BoxC.newAt (W := w.alloc (.cells #[.int .i64 D, .int .i64 U] 55)) (t := 55) (cs := #[.int .i64 0, .int .i64 0]) (n := w.heap.size + 1) (by simp)).stayed hb); have c0 := X1.out.cell (i := 0) rfl; have c1 := X1.out.cell (i := 1) rfl; have y0 := Y1.out.cell (i := 0) rfl; have y1 := Y1.out.cell (i := 1) rfl; have z0 := Y1.out.frozen 0; have z1 := Y1.out.frozen 1; have s1 := Y1.out.lt; clear hb)
    | (go_at_call 58; refine Calls.mono (K1 _).out ?_; rintro e w2 ⟨rfl, hv⟩; subst w2; clear K1)
    | (go_at_call 58; refine Calls.mono (K2 _).out ?_; rintro e w3 ⟨rfl, hv⟩; subst w3)
    | (go_at_call 51; refine Calls.mono (KD _).out ?_; rintro e w4 ⟨rfl, hv⟩; subst w4))
  have a0 := (Y1.out.set 0 (.int .i64 (z : Int))).cell (i := 0) rfl
  have a1 := ((Y1.out.set 0 (.int .i64 (z : Int))).set 1 (.int .i64 (r : Int))).cell (i := 1) rfl
  refine bodyPost_ret (v := .tuple #[.agg #[.int .i64 (z : Int), .int .i64 (r : Int)], .int .i64 0]) (by simp [results, Tryz.results38, go_sem, a0, a1]) rfl ?_
  exact ⟨rfl, (B1.out.setCell (p := ⟨w.heap.size + 1, 0, none⟩) (by simp) _).setCell (p := ⟨w.heap.size + 1, 1, none⟩) (by simp) _⟩
set_option maxHeartbeats 4000000 in
theorem After_rng (d u n t a v r z : Nat) (w : World) (hd : d ≤ 3652058) (hu : u ≤ 86399999999) (hn : n ≤ 100000) (ht : t ≤ 1000000000000) (ha : a = u + n * t) (hv : v = a / 86400000000) (hr : r = a % 86400000000) (hz : z = d + v) (hz9 : 3652058 < z) : Calls Tryz.prog 38 #[.agg #[.int .i64 (d : Int), .int .i64 (u : Int)], .int .i64 (n : Int), .int .i64 (t : Int)] w (GivesQ w 0 0 8) := by
  have F := Lib.hid (afFacts d u n t a v r z hd hu hn ht ha hv hr hz)
  have KM := fun W => Lib.hid (isMoment_t (d : Int) (u : Int) W ⟨by omega, by omega⟩)
  have K1 := fun W => Lib.hid (inRange_any (n : Int) 0 100000 W)
  rw [inR_true (by omega) (by omega)] at K1
  have K2 := fun W => Lib.hid (inRange_any (t : Int) 0 1000000000000 W)
  rw [inR_true (by omega) (by omega)] at K2
  have KD := fun W => Lib.hid (isDay_any (z : Int) W)
  rw [inR_false (by omega)] at KD
  clear hd hu hn ht ha hv hr hz hz9
  obtain ⟨⟨q, f1, f2, f3, f4⟩, f5, f6, f7, f8, f9, f10, f11, f12⟩ := F.out
  clear F
  obtain ⟨D, hD⟩ : ∃ D : Int, D = (d : Int) := ⟨_, rfl⟩
  obtain ⟨U, hU⟩ : ∃ U : Int, U = (u : Int) := ⟨_, rfl⟩
  obtain ⟨N, hN⟩ : ∃ N : Int, N = (n : Int) := ⟨_, rfl⟩
  obtain ⟨TT, hT⟩ : ∃ TT : Int, TT = (t : Int) := ⟨_, rfl⟩
  rw [← hD, ← hU] at KM
  rw [← hN, ← hT] at f1 f2
  rw [← hU] at f3 f4
  rw [← hD] at f7 f8
  rw [← hN] at K1
  rw [← hT] at K2
  rw [← hD, ← hU, ← hN, ← hT]
  clear hD hU hN hT
  have b0 := BoxC.new w 55 #[.int .i64 D, .int .i64 U]
  have x0 := b0.cell (i := 0) rfl
  have x1 := b0.cell (i := 1) rfl
  clear b0
  go_enter Tryz.func38, Tryz.ntmps38
  go_wp2_with (first
    | (go_at_call 80; refine Calls.mono (KM _).out ?_; rintro e w1 ⟨rfl, hb⟩; have B1 := Lib.hid (Bl.step (Bl.alloc (Bl.alloc (Below.refl _ w) _) _) hb); have X1 := Lib.hid (((BoxC.new w 55 #[.int .i64 D, .int .i64 U]).alloc _).stayed hb); have Y1 := Lib.hid ((BoxC.newAt (W := w.alloc (.cells #[.int .i64 D, .int .i64 U] 55)) (t := 55) (cs := #[.int .i64 0, .int .i64 0]) (n := w.heap.size + 1) (by simp)).stayed hb); have c0 := X1.out.cell (i := 0) rfl; have c1 := X1.out.cell (i := 1) rfl; have y0 := Y1.out.cell (i := 0) rfl; have y1 := Y1.out.cell (i := 1) rfl; have z0 := Y1.out.frozen 0; have z1 := Y1.out.frozen 1; have s1 := Y1.out.lt; clear hb)
    | (go_at_call 58; refine Calls.mono (K1 _).out ?_; rintro e w2 ⟨rfl, hv⟩; subst w2; clear K1)
    | (go_at_call 58; refine Calls.mono (K2 _).out ?_; rintro e w3 ⟨rfl, hv⟩; subst w3)
    | (go_at_call 51; refine Calls.mono (KD _).out ?_; rintro e w4 ⟨rfl, hv⟩; subst w4))
  have a0 := (Y1.out.set 0 (.int .i64 0)).cell (i := 0) rfl
  have a1 := ((Y1.out.set 0 (.int .i64 0)).set 1 (.int .i64 0)).cell (i := 1) rfl
  refine bodyPost_ret (v := .tuple #[.agg #[.int .i64 0, .int .i64 0], .int .i64 8]) (by simp [results, Tryz.results38, go_sem, a0, a1]) rfl ?_
  exact ⟨rfl, (B1.out.setCell (p := ⟨w.heap.size + 1, 0, none⟩) (by simp) _).setCell (p := ⟨w.heap.size + 1, 1, none⟩) (by simp) _⟩
set_option maxHeartbeats 4000000 in
theorem After_bm (D U n t : Int) (w : World) (h : ¬ IsMom D U) : Calls Tryz.prog 38 #[.agg #[.int .i64 D, .int .i64 U], .int .i64 n, .int .i64 t] w (GivesQ w 0 0 1) := by
  have KM := fun W => Lib.hid (isMoment_f D U W h)
  clear h
  have b0 := BoxC.new w 55 #[.int .i64 D, .int .i64 U]
  have x0 := b0.cell (i := 0) rfl
  have x1 := b0.cell (i := 1) rfl
  clear b0
  go_enter Tryz.func38, Tryz.ntmps38
  go_wp2_with (first
    | (go_at_call 80; refine Calls.mono (KM _).out ?_; rintro e w1 ⟨rfl, hb⟩; have B1 := Lib.hid (Bl.step (Bl.alloc (Bl.alloc (Below.refl _ w) _) _) hb); have X1 := Lib.hid (((BoxC.new w 55 #[.int .i64 D, .int .i64 U]).alloc _).stayed hb); have Y1 := Lib.hid ((BoxC.newAt (W := w.alloc (.cells #[.int .i64 D, .int .i64 U] 55)) (t := 55) (cs := #[.int .i64 0, .int .i64 0]) (n := w.heap.size + 1) (by simp)).stayed hb); have c0 := X1.out.cell (i := 0) rfl; have c1 := X1.out.cell (i := 1) rfl; have y0 := Y1.out.cell (i := 0) rfl; have y1 := Y1.out.cell (i := 1) rfl; have z0 := Y1.out.frozen 0; have z1 := Y1.out.frozen 1; have s1 := Y1.out.lt; clear hb))
  have a0 := (Y1.out.set 0 (.int .i64 0)).cell (i := 0) rfl
  have a1 := ((Y1.out.set 0 (.int .i64 0)).set 1 (.int .i64 0)).cell (i := 1) rfl
  refine bodyPost_ret (v := .tuple #[.agg #[.int .i64 0, .int .i64 0], .int .i64 1]) (by simp [results, Tryz.results38, go_sem, a0, a1]) rfl ?_
  exact ⟨rfl, (B1.out.setCell (p := ⟨w.heap.size + 1, 0, none⟩) (by simp) _).setCell (p := ⟨w.heap.size + 1, 1, none⟩) (by simp) _⟩
set_option maxHeartbeats 4000000 in
theorem After_bn (D U n t : Int) (w : World) (h : IsMom D U) (h2 : ¬ (0 ≤ n ∧ n ≤ 100000)) : Calls Tryz.prog 38 #[.agg #[.int .i64 D, .int .i64 U], .int .i64 n, .int .i64 t] w (GivesQ w 0 0 1) := by
  have KM := fun W => Lib.hid (isMoment_t D U W h)
  have K1 := fun W => Lib.hid (inRange_any n 0 100000 W)
  rw [inR_false h2] at K1
  clear h h2
  have b0 := BoxC.new w 55 #[.int .i64 D, .int .i64 U]
  have x0 := b0.cell (i := 0) rfl
  have x1 := b0.cell (i := 1) rfl
  clear b0
  go_enter Tryz.func38, Tryz.ntmps38
  go_wp2_with (first
    | (go_at_call 80; refine Calls.mono (KM _).out ?_; rintro e w1 ⟨rfl, hb⟩; have B1 := Lib.hid (Bl.step (Bl.alloc (Bl.alloc (Below.refl _ w) _) _) hb); have X1 := Lib.hid (((BoxC.new w 55 #[.int .i64 D, .int .i64 U]).alloc _).stayed hb); have Y1 := Lib.hid ((BoxC.newAt (W := w.alloc (.cells #[.int .i64 D, .int .i64 U] 55)) (t := 55) (cs := #[.int .i64 0, .int .i64 0]) (n := w.heap.size + 1) (by simp)).stayed hb); have c0 := X1.out.cell (i := 0) rfl; have c1 := X1.out.cell (i := 1) rfl; have y0 := Y1.out.cell (i := 0) rfl; have y1 := Y1.out.cell (i := 1) rfl; have z0 := Y1.out.frozen 0; have z1 := Y1.out.frozen 1; have s1 := Y1.out.lt; clear hb)
    | (go_at_call 58; refine Calls.mono (K1 _).out ?_; rintro e w2 ⟨rfl, hv⟩; subst w2; clear K1))
  have a0 := (Y1.out.set 0 (.int .i64 0)).cell (i := 0) rfl
  have a1 := ((Y1.out.set 0 (.int .i64 0)).set 1 (.int .i64 0)).cell (i := 1) rfl
  refine bodyPost_ret (v := .tuple #[.agg #[.int .i64 0, .int .i64 0], .int .i64 1]) (by simp [results, Tryz.results38, go_sem, a0, a1]) rfl ?_
  exact ⟨rfl, (B1.out.setCell (p := ⟨w.heap.size + 1, 0, none⟩) (by simp) _).setCell (p := ⟨w.heap.size + 1, 1, none⟩) (by simp) _⟩
set_option maxHeartbeats 4000000 in
theorem After_bt (D U n t : Int) (w : World) (h : IsMom D U) (h2 : 0 ≤ n ∧ n ≤ 100000) (h3 : ¬ (0 ≤ t ∧ t ≤ 1000000000000)) : Calls Tryz.prog 38 #[.agg #[.int .i64 D, .int .i64 U], .int .i64 n, .int .i64 t] w (GivesQ w 0 0 1) := by
  have KM := fun W => Lib.hid (isMoment_t D U W h)
  have K1 := fun W => Lib.hid (inRange_any n 0 100000 W)
  rw [inR_true h2.1 h2.2] at K1
  have K2 := fun W => Lib.hid (inRange_any t 0 1000000000000 W)
  rw [inR_false h3] at K2
  clear h h2 h3
  have b0 := BoxC.new w 55 #[.int .i64 D, .int .i64 U]
  have x0 := b0.cell (i := 0) rfl
  have x1 := b0.cell (i := 1) rfl
  clear b0
  go_enter Tryz.func38, Tryz.ntmps38
  go_wp2_with (first
    | (go_at_call 80; refine Calls.mono (KM _).out ?_; rintro e w1 ⟨rfl, hb⟩; have B1 := Lib.hid (Bl.step (Bl.alloc (Bl.alloc (Below.refl _ w) _) _) hb); have X1 := Lib.hid (((BoxC.new w 55 #[.int .i64 D, .int .i64 U]).alloc _).stayed hb); have Y1 := Lib.hid ((BoxC.newAt (W := w.alloc (.cells #[.int .i64 D, .int .i64 U] 55)) (t := 55) (cs := #[.int .i64 0, .int .i64 0]) (n := w.heap.size + 1) (by simp)).stayed hb); have c0 := X1.out.cell (i := 0) rfl; have c1 := X1.out.cell (i := 1) rfl; have y0 := Y1.out.cell (i := 0) rfl; have y1 := Y1.out.cell (i := 1) rfl; have z0 := Y1.out.frozen 0; have z1 := Y1.out.frozen 1; have s1 := Y1.out.lt; clear hb)
    | (go_at_call 58; refine Calls.mono (K1 _).out ?_; rintro e w2 ⟨rfl, hv⟩; subst w2; clear K1)
    | (go_at_call 58; refine Calls.mono (K2 _).out ?_; rintro e w3 ⟨rfl, hv⟩; subst w3))
  have a0 := (Y1.out.set 0 (.int .i64 0)).cell (i := 0) rfl
  have a1 := ((Y1.out.set 0 (.int .i64 0)).set 1 (.int .i64 0)).cell (i := 1) rfl
  refine bodyPost_ret (v := .tuple #[.agg #[.int .i64 0, .int .i64 0], .int .i64 1]) (by simp [results, Tryz.results38, go_sem, a0, a1]) rfl ?_
  exact ⟨rfl, (B1.out.setCell (p := ⟨w.heap.size + 1, 0, none⟩) (by simp) _).setCell (p := ⟨w.heap.size + 1, 1, none⟩) (by simp) _⟩
end Go.Proofs.YtmjifmlibgpjiaaGreatDoor
