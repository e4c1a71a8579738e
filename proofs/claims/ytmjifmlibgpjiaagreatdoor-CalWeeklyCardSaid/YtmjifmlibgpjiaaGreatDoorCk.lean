/- The reference's functions on weeks. -/
import Derived.Test.YtmjifmlibgpjiaaGreatDoorCj
namespace Go.Proofs.YtmjifmlibgpjiaaGreatDoor
open Go.RowKit Tx
set_option linter.unusedVariables false
set_option maxRecDepth 100000

theorem i64i {x : Int} (h1 : -9223372036854775808 ≤ x) (h2 : x ≤ 9223372036854775807) : IntKind.i64.wrap x = x := IntWalk.i64_in _ ⟨h1, h2⟩
theorem wkFacts (n u g wk x : Nat) (hn : n ≤ 3652058) (hu : u ≤ n) (hg : g = (n - u) / 7) (hw : g + 1 = wk) (hx : x = 1 + n % 7) :
    wrap64 ((n : Int) - (u : Int)) = (n : Int) - (u : Int) ∧ IntKind.i64.wrap ((n : Int) - (u : Int)) = (n : Int) - (u : Int) ∧ ((n : Int) - (u : Int)) / 7 = (g : Int) ∧ ((n : Int) - (u : Int)).tdiv 7 = (g : Int) ∧ IntKind.i64.wrap ((g : Int) + 1) = (wk : Int) ∧
    wrap64 (wrap64 (g : Int) + 1) = (wk : Int) ∧ IntKind.i64.wrap ((n : Int) % 7 + 1) = (x : Int) ∧ wrap64 ((n : Int) % 7 + 1) = (x : Int) := by
  have e1 : (g : Int) + 1 = (wk : Int) := by omega
  have e2 : (n : Int) % 7 + 1 = (x : Int) := by omega
  refine ⟨w64 (by omega) (by omega), i64i (by omega) (by omega), by omega, by rw [Int.tdiv_eq_ediv_of_nonneg (by omega)]; omega, ?_, ?_, ?_, ?_⟩
  · rw [e1]; exact i64i (by omega) (by omega)
  · rw [w64 (x := (g : Int)) (by omega) (by omega), e1]; exact w64 (by omega) (by omega)
  · rw [e2]; exact i64i (by omega) (by omega)
  · rw [e2]; exact w64 (by omega) (by omega)
theorem yFacts (p : Nat) (h : p ≤ 20000) : IntKind.i64.wrap ((p : Int) + 1 + 1) = (p : Int) + 1 + 1 ∧ wrap64 ((p : Int) + 1 + 1) = (p : Int) + 1 + 1 ∧ IntKind.i64.wrap ((p : Int) + 1 - 1) = (p : Int) ∧ wrap64 ((p : Int) + 1 - 1) = (p : Int) := by
  have e : (p : Int) + 1 - 1 = (p : Int) := by omega
  refine ⟨i64i (by omega) (by omega), w64 (by omega) (by omega), ?_, ?_⟩
  · rw [e]; exact i64i (by omega) (by omega)
  · rw [e]; exact w64 (by omega) (by omega)
theorem field_civil (a b c d : Int) (w : World) : (Instr.field 34 (.agg #[.int .i64 a, .int .i64 b, .int .i64 c, .int .i64 d]) 0).run Tryz.prog w = .ok (.int .i64 a) w := by
  first | rfl | kernel_rfl
theorem y3Facts (q : Nat) (h : q ≤ 20000) : IntKind.i64.wrap ((q : Int) + 1 + 1 - 1) = (q : Int) + 1 ∧ wrap64 ((q : Int) + 1 + 1 - 1) = (q : Int) + 1 := by
  have e : (q : Int) + 1 + 1 - 1 = (q : Int) + 1 := by omega
  rw [e]
  exact ⟨i64i (by omega) (by omega), w64 (by omega) (by omega)⟩
set_option maxHeartbeats 1600000 in
theorem RWeek_up (n p m' k' wk x : Nat) (w : World) (hd : IsDate n (p + 1) m' k') (hn : n ≤ 3652058) (hc : p + 1 < 9999 ∧ mon (p + 1) ≤ n) (hw : (n - mon (p + 1)) / 7 + 1 = wk) (hx : x = 1 + n % 7) :
    Calls Tryz.prog 25 #[.int .i64 (n : Int)] w (GivesA w #[.int .i64 ((p : Int) + 1 + 1), .int .i64 (wk : Int), .int .i64 (x : Int), .int .i64 0]) := by
  have h9 := hd.isYear.le hn
  have KI := fun W => Lib.hid (RIn_ok n W hn)
  have KD := fun W => Lib.hid (RDateOf_ok n (p + 1) m' k' W hd h9)
  have KA := fun W => Lib.hid (Rfirst_any (p + 1) W (by omega))
  have KB := fun W => Lib.hid (Rfirst_any p W (by omega))
  have ep : ((p + 1 : Nat) : Int) = (p : Int) + 1 := by omega
  rw [ep] at KA KD
  obtain ⟨a0, ha0⟩ : ∃ a0 : Int, a0 = (p : Int) + 1 := ⟨_, rfl⟩
  obtain ⟨a1, ha1⟩ : ∃ a1 : Int, a1 = a0 + 1 := ⟨_, rfl⟩
  rw [← ha0] at KA KB KD
  rw [← ha1] at KA
  have Y : IntKind.i64.wrap (a0 + 1) = a1 ∧ wrap64 (a0 + 1) = a1 ∧ IntKind.i64.wrap (a0 - 1) = (p : Int) ∧ wrap64 (a0 - 1) = (p : Int) := by rw [ha1, ha0]; exact yFacts p (by omega)
  have H0 := Lib.hid ha0
  have H1 := Lib.hid ha1
  obtain ⟨u, hu⟩ : ∃ u, u = mon (p + 1) := ⟨_, rfl⟩
  obtain ⟨v, hv⟩ : ∃ v, v = mon p := ⟨_, rfl⟩
  rw [← hu] at KA hc hw
  rw [← hv] at KB
  obtain ⟨g, hg⟩ : ∃ g, g = (n - u) / 7 := ⟨_, rfl⟩
  rw [← hg] at hw
  have D := Lib.hid (wkFacts n u g wk x hn (by omega) hg hw hx)
  have Y := Lib.hid Y
  have t1 : a0 < 9999 := by omega
  have t2 : (u : Int) ≤ (n : Int) := by omega
  clear hd hn h9 hc hw hx hu hv hg ep ha0 ha1
  obtain ⟨d1, d1', d2, d2', d3, d3', d4, d4'⟩ := D.out
  obtain ⟨y1, y1', y2, y2'⟩ := Y.out
  have hfd := field_civil
  clear D Y
  go_enter Tryz.func25, Tryz.ntmps25
  go_wp2_with (first
    | (go_at_call 22; refine Calls.mono (KI _).out ?_; rintro e W1 ⟨rfl, rfl⟩)
    | (go_at_call 18; refine Calls.mono (KD _).out ?_; rintro e W2 ⟨rfl, hb2⟩; have bR := (BoxC.new w 34 #[.int .i64 0, .int .i64 0, .int .i64 0, .int .i64 0]).below hb2 (by simp); have B2 : Below w.heap.size w W2 := Bl.step (Bl.alloc (Below.refl _ w) _) hb2; have r0 := bR.cell (i := 0) rfl; have r1 := bR.cell (i := 1) rfl; have r2 := bR.cell (i := 2) rfl; have r3 := bR.cell (i := 3) rfl; have f0 := bR.frozen 0; have f1 := bR.frozen 1; have f2 := bR.frozen 2; have f3 := bR.frozen 3; have HBR := Lib.hid bR; clear bR hb2)
    | (go_at_call 57; first | ((with_reducible refine Calls.mono (KA _).out ?_); rintro e w3 ⟨rfl, rfl⟩)))
  have br3 := (((HBR.out.set 0 (.int .i64 a1)).set 1 (.int .i64 (wk : Int))).set 2 (.int .i64 (x : Int))).set 3 (.int .i64 0)
  have z0 := br3.cell (i := 0) rfl
  have z1 := br3.cell (i := 1) rfl
  have z2 := br3.cell (i := 2) rfl
  have z3 := br3.cell (i := 3) rfl
  refine bodyPost_ret (v := .agg #[.int .i64 a1, .int .i64 (wk : Int), .int .i64 (x : Int), .int .i64 0]) (by simp [results, Tryz.results25, go_sem, z0, z1, z2, z3]) rfl ?_
  exact ⟨by rw [H1.out, H0.out], (((B2.setCell (p := ⟨w.heap.size, 0, none⟩) (by simp) _).setCell (p := ⟨w.heap.size, 1, none⟩) (by simp) _).setCell (p := ⟨w.heap.size, 2, none⟩) (by simp) _).setCell (p := ⟨w.heap.size, 3, none⟩) (by simp) _⟩
set_option maxHeartbeats 1600000 in
theorem RWeek_mid (n p m' k' wk x : Nat) (w : World) (hd : IsDate n (p + 1) m' k') (hn : n ≤ 3652058) (hc : ¬ (p + 1 < 9999 ∧ mon (p + 1) ≤ n)) (hl : mon p ≤ n) (hw : (n - mon p) / 7 + 1 = wk) (hx : x = 1 + n % 7) :
    Calls Tryz.prog 25 #[.int .i64 (n : Int)] w (GivesA w #[.int .i64 ((p : Int) + 1), .int .i64 (wk : Int), .int .i64 (x : Int), .int .i64 0]) := by
  have h9 := hd.isYear.le hn
  have KI := fun W => Lib.hid (RIn_ok n W hn)
  have KD := fun W => Lib.hid (RDateOf_ok n (p + 1) m' k' W hd h9)
  have KA := fun W => Lib.hid (Rfirst_any (p + 1) W (by omega))
  have KB := fun W => Lib.hid (Rfirst_any p W (by omega))
  have ep : ((p + 1 : Nat) : Int) = (p : Int) + 1 := by omega
  rw [ep] at KA KD
  obtain ⟨a0, ha0⟩ : ∃ a0 : Int, a0 = (p : Int) + 1 := ⟨_, rfl⟩
  obtain ⟨a1, ha1⟩ : ∃ a1 : Int, a1 = a0 + 1 := ⟨_, rfl⟩
  rw [← ha0] at KA KB KD
  rw [← ha1] at KA
  have Y : IntKind.i64.wrap (a0 + 1) = a1 ∧ wrap64 (a0 + 1) = a1 ∧ IntKind.i64.wrap (a0 - 1) = (p : Int) ∧ wrap64 (a0 - 1) = (p : Int) := by rw [ha1, ha0]; exact yFacts p (by omega)
  have H0 := Lib.hid ha0
  have H1 := Lib.hid ha1
  obtain ⟨u, hu⟩ : ∃ u, u = mon (p + 1) := ⟨_, rfl⟩
  obtain ⟨v, hv⟩ : ∃ v, v = mon p := ⟨_, rfl⟩
  rw [← hu] at KA hc
  rw [← hv] at KB hl hw
  obtain ⟨g, hg⟩ : ∃ g, g = (n - v) / 7 := ⟨_, rfl⟩
  rw [← hg] at hw
  have D := Lib.hid (wkFacts n v g wk x hn (by omega) hg hw hx)
  have Y := Lib.hid Y
  have t3 : ¬ (n : Int) < (v : Int) := by omega
  by_cases t1 : p + 1 < 9999
  · have t1' : a0 < 9999 := by omega
    have t2 : ¬ (u : Int) ≤ (n : Int) := by have := fun e => hc ⟨t1, e⟩; omega
    clear hd hn h9 hc hw hx hu hv hg hl t1 ep ha0 ha1
    obtain ⟨d1, d1', d2, d2', d3, d3', d4, d4'⟩ := D.out
    obtain ⟨y1, y1', y2, y2'⟩ := Y.out
    have hfd := field_civil
    clear D Y
    go_enter Tryz.func25, Tryz.ntmps25
    go_wp2_with (first
      | (go_at_call 22; refine Calls.mono (KI _).out ?_; rintro e W1 ⟨rfl, rfl⟩)
      | (go_at_call 18; refine Calls.mono (KD _).out ?_; rintro e W2 ⟨rfl, hb2⟩; have bR := (BoxC.new w 34 #[.int .i64 0, .int .i64 0, .int .i64 0, .int .i64 0]).below hb2 (by simp); have B2 : Below w.heap.size w W2 := Bl.step (Bl.alloc (Below.refl _ w) _) hb2; have r0 := bR.cell (i := 0) rfl; have r1 := bR.cell (i := 1) rfl; have r2 := bR.cell (i := 2) rfl; have r3 := bR.cell (i := 3) rfl; have f0 := bR.frozen 0; have f1 := bR.frozen 1; have f2 := bR.frozen 2; have f3 := bR.frozen 3; have HBR := Lib.hid bR; clear bR hb2)
      | (go_at_call 57; first | ((with_reducible refine Calls.mono (KA _).out ?_); rintro e w3 ⟨rfl, rfl⟩) | ((with_reducible refine Calls.mono (KB _).out ?_); rintro e w4 ⟨rfl, rfl⟩)))
    have br3 := (((HBR.out.set 0 (.int .i64 a0)).set 1 (.int .i64 (wk : Int))).set 2 (.int .i64 (x : Int))).set 3 (.int .i64 0)
    have z0 := br3.cell (i := 0) rfl
    have z1 := br3.cell (i := 1) rfl
    have z2 := br3.cell (i := 2) rfl
    have z3 := br3.cell (i := 3) rfl
    refine bodyPost_ret (v := .agg #[.int .i64 a0, .int .i64 (wk : Int), .int .i64 (x : Int), .int .i64 0]) (by simp [results, Tryz.results25, go_sem, z0, z1, z2, z3]) rfl ?_
    exact ⟨by rw [H0.out], (((B2.setCell (p := ⟨w.heap.size, 0, none⟩) (by simp) _).setCell (p := ⟨w.heap.size, 1, none⟩) (by simp) _).setCell (p := ⟨w.heap.size, 2, none⟩) (by simp) _).setCell (p := ⟨w.heap.size, 3, none⟩) (by simp) _⟩
  · have t1' : ¬ a0 < 9999 := by omega
    clear hd hn h9 hc hw hx hu hv hg hl t1 ep ha0 ha1
    obtain ⟨d1, d1', d2, d2', d3, d3', d4, d4'⟩ := D.out
    obtain ⟨y1, y1', y2, y2'⟩ := Y.out
    have hfd := field_civil
    clear D Y
    go_enter Tryz.func25, Tryz.ntmps25
    go_wp2_with (first
      | (go_at_call 22; refine Calls.mono (KI _).out ?_; rintro e W1 ⟨rfl, rfl⟩)
      | (go_at_call 18; refine Calls.mono (KD _).out ?_; rintro e W2 ⟨rfl, hb2⟩; have bR := (BoxC.new w 34 #[.int .i64 0, .int .i64 0, .int .i64 0, .int .i64 0]).below hb2 (by simp); have B2 : Below w.heap.size w W2 := Bl.step (Bl.alloc (Below.refl _ w) _) hb2; have r0 := bR.cell (i := 0) rfl; have r1 := bR.cell (i := 1) rfl; have r2 := bR.cell (i := 2) rfl; have r3 := bR.cell (i := 3) rfl; have f0 := bR.frozen 0; have f1 := bR.frozen 1; have f2 := bR.frozen 2; have f3 := bR.frozen 3; have HBR := Lib.hid bR; clear bR hb2)
      | (go_at_call 57; first | ((with_reducible refine Calls.mono (KA _).out ?_); rintro e w3 ⟨rfl, rfl⟩) | ((with_reducible refine Calls.mono (KB _).out ?_); rintro e w4 ⟨rfl, rfl⟩)))
    have br3 := (((HBR.out.set 0 (.int .i64 a0)).set 1 (.int .i64 (wk : Int))).set 2 (.int .i64 (x : Int))).set 3 (.int .i64 0)
    have z0 := br3.cell (i := 0) rfl
    have z1 := br3.cell (i := 1) rfl
    have z2 := br3.cell (i := 2) rfl
    have z3 := br3.cell (i := 3) rfl
    refine bodyPost_ret (v := .agg #[.int .i64 a0, .int .i64 (wk : Int), .int .i64 (x : Int), .int .i64 0]) (by simp [results, Tryz.results25, go_sem, z0, z1, z2, z3]) rfl ?_
    exact ⟨by rw [H0.out], (((B2.setCell (p := ⟨w.heap.size, 0, none⟩) (by simp) _).setCell (p := ⟨w.heap.size, 1, none⟩) (by simp) _).setCell (p := ⟨w.heap.size, 2, none⟩) (by simp) _).setCell (p := ⟨w.heap.size, 3, none⟩) (by simp) _⟩
set_option maxHeartbeats 1600000 in
theorem RWeek_down (n p m' k' wk x : Nat) (w : World) (hd : IsDate n (p + 1) m' k') (hn : n ≤ 3652058) (hc : ¬ (p + 1 < 9999 ∧ mon (p + 1) ≤ n)) (hl : n < mon p) (q : Nat) (hq : p = q + 1) (hl2 : mon q ≤ n) (hw : (n - mon q) / 7 + 1 = wk) (hx : x = 1 + n % 7) :
    Calls Tryz.prog 25 #[.int .i64 (n : Int)] w (GivesA w #[.int .i64 (p : Int), .int .i64 (wk : Int), .int .i64 (x : Int), .int .i64 0]) := by
  have h9 := hd.isYear.le hn
  have KI := fun W => Lib.hid (RIn_ok n W hn)
  have KD := fun W => Lib.hid (RDateOf_ok n (p + 1) m' k' W hd h9)
  have KA := fun W => Lib.hid (Rfirst_any (p + 1) W (by omega))
  have KB := fun W => Lib.hid (Rfirst_any p W (by omega))
  have ep : ((p + 1 : Nat) : Int) = (p : Int) + 1 := by omega
  rw [ep] at KA KD
  have KQ := fun W => Lib.hid (Rfirst_any q W (by omega))
  have eq : (p : Int) = (q : Int) + 1 := by omega
  rw [← eq] at KQ
  obtain ⟨am, ham⟩ : ∃ am : Int, am = (p : Int) := ⟨_, rfl⟩
  have Hm := Lib.hid ham
  rw [← ham] at KQ
  obtain ⟨a0, ha0⟩ : ∃ a0 : Int, a0 = (p : Int) + 1 := ⟨_, rfl⟩
  obtain ⟨a1, ha1⟩ : ∃ a1 : Int, a1 = a0 + 1 := ⟨_, rfl⟩
  rw [← ha0] at KA KB KD
  rw [← ha1] at KA
  have Y : IntKind.i64.wrap (a0 + 1) = a1 ∧ wrap64 (a0 + 1) = a1 ∧ IntKind.i64.wrap (a0 - 1) = (p : Int) ∧ wrap64 (a0 - 1) = (p : Int) := by rw [ha1, ha0]; exact yFacts p (by omega)
  have H0 := Lib.hid ha0
  have H1 := Lib.hid ha1
  obtain ⟨u, hu⟩ : ∃ u, u = mon (p + 1) := ⟨_, rfl⟩
  obtain ⟨v, hv⟩ : ∃ v, v = mon p := ⟨_, rfl⟩
  rw [← ham] at Y
  obtain ⟨z, hz⟩ : ∃ z, z = mon q := ⟨_, rfl⟩
  rw [← hz] at KQ hl2 hw
  rw [← hu] at KA hc
  rw [← hv] at KB hl
  obtain ⟨g, hg⟩ : ∃ g, g = (n - z) / 7 := ⟨_, rfl⟩
  rw [← hg] at hw
  have D := Lib.hid (wkFacts n z g wk x hn (by omega) hg hw hx)
  have Y := Lib.hid Y
  have t3 : (n : Int) < (v : Int) := by omega
  by_cases t1 : p + 1 < 9999
  · have t1' : a0 < 9999 := by omega
    have t2 : ¬ (u : Int) ≤ (n : Int) := by have := fun e => hc ⟨t1, e⟩; omega
    clear hd hn h9 hc hw hx hu hv hg hl t1 ep ha0 ha1 eq ham hl2 hz hq
    obtain ⟨d1, d1', d2, d2', d3, d3', d4, d4'⟩ := D.out
    obtain ⟨y1, y1', y2, y2'⟩ := Y.out
    have hfd := field_civil
    clear D Y
    go_enter Tryz.func25, Tryz.ntmps25
    go_wp2_with (first
      | (go_at_call 22; refine Calls.mono (KI _).out ?_; rintro e W1 ⟨rfl, rfl⟩)
      | (go_at_call 18; refine Calls.mono (KD _).out ?_; rintro e W2 ⟨rfl, hb2⟩; have bR := (BoxC.new w 34 #[.int .i64 0, .int .i64 0, .int .i64 0, .int .i64 0]).below hb2 (by simp); have B2 : Below w.heap.size w W2 := Bl.step (Bl.alloc (Below.refl _ w) _) hb2; have r0 := bR.cell (i := 0) rfl; have r1 := bR.cell (i := 1) rfl; have r2 := bR.cell (i := 2) rfl; have r3 := bR.cell (i := 3) rfl; have f0 := bR.frozen 0; have f1 := bR.frozen 1; have f2 := bR.frozen 2; have f3 := bR.frozen 3; have HBR := Lib.hid bR; clear bR hb2)
      | (go_at_call 57; first | ((with_reducible refine Calls.mono (KA _).out ?_); rintro e w3 ⟨rfl, rfl⟩) | ((with_reducible refine Calls.mono (KB _).out ?_); rintro e w4 ⟨rfl, rfl⟩) | ((with_reducible refine Calls.mono (KQ _).out ?_); rintro e w5 ⟨rfl, rfl⟩)))
    have br3 := (((HBR.out.set 0 (.int .i64 am)).set 1 (.int .i64 (wk : Int))).set 2 (.int .i64 (x : Int))).set 3 (.int .i64 0)
    have z0 := br3.cell (i := 0) rfl
    have z1 := br3.cell (i := 1) rfl
    have z2 := br3.cell (i := 2) rfl
    have z3 := br3.cell (i := 3) rfl
    refine bodyPost_ret (v := .agg #[.int .i64 am, .int .i64 (wk : Int), .int .i64 (x : Int), .int .i64 0]) (by simp [results, Tryz.results25, go_sem, z0, z1, z2, z3]) rfl ?_
    exact ⟨by rw [Hm.out], (((B2.setCell (p := ⟨w.heap.size, 0, none⟩) (by simp) _).setCell (p := ⟨w.heap.size, 1, none⟩) (by simp) _).setCell (p := ⟨w.heap.size, 2, none⟩) (by simp) _).setCell (p := ⟨w.heap.size, 3, none⟩) (by simp) _⟩
  · have t1' : ¬ a0 < 9999 := by omega
    clear hd hn h9 hc hw hx hu hv hg hl t1 ep ha0 ha1 eq ham hl2 hz hq
    obtain ⟨d1, d1', d2, d2', d3, d3', d4, d4'⟩ := D.out
    obtain ⟨y1, y1', y2, y2'⟩ := Y.out
    have hfd := field_civil
    clear D Y
    go_enter Tryz.func25, Tryz.ntmps25
    go_wp2_with (first
      | (go_at_call 22; refine Calls.mono (KI _).out ?_; rintro e W1 ⟨rfl, rfl⟩)
      | (go_at_call 18; refine Calls.mono (KD _).out ?_; rintro e W2 ⟨rfl, hb2⟩; have bR := (BoxC.new w 34 #[.int .i64 0, .int .i64 0, .int .i64 0, .int .i64 0]).below hb2 (by simp); have B2 : Below w.heap.size w W2 := Bl.step (Bl.alloc (Below.refl _ w) _) hb2; have r0 := bR.cell (i := 0) rfl; have r1 := bR.cell (i := 1) rfl; have r2 := bR.cell (i := 2) rfl; have r3 := bR.cell (i := 3) rfl; have f0 := bR.frozen 0; have f1 := bR.frozen 1; have f2 := bR.frozen 2; have f3 := bR.frozen 3; have HBR := Lib.hid bR; clear bR hb2)
      | (go_at_call 57; first | ((with_reducible refine Calls.mono (KA _).out ?_); rintro e w3 ⟨rfl, rfl⟩) | ((with_reducible refine Calls.mono (KB _).out ?_); rintro e w4 ⟨rfl, rfl⟩) | ((with_reducible refine Calls.mono (KQ _).out ?_); rintro e w5 ⟨rfl, rfl⟩)))
    have br3 := (((HBR.out.set 0 (.int .i64 am)).set 1 (.int .i64 (wk : Int))).set 2 (.int .i64 (x : Int))).set 3 (.int .i64 0)
    have z0 := br3.cell (i := 0) rfl
    have z1 := br3.cell (i := 1) rfl
    have z2 := br3.cell (i := 2) rfl
    have z3 := br3.cell (i := 3) rfl
    refine bodyPost_ret (v := .agg #[.int .i64 am, .int .i64 (wk : Int), .int .i64 (x : Int), .int .i64 0]) (by simp [results, Tryz.results25, go_sem, z0, z1, z2, z3]) rfl ?_
    exact ⟨by rw [Hm.out], (((B2.setCell (p := ⟨w.heap.size, 0, none⟩) (by simp) _).setCell (p := ⟨w.heap.size, 1, none⟩) (by simp) _).setCell (p := ⟨w.heap.size, 2, none⟩) (by simp) _).setCell (p := ⟨w.heap.size, 3, none⟩) (by simp) _⟩
end Go.Proofs.YtmjifmlibgpjiaaGreatDoor
