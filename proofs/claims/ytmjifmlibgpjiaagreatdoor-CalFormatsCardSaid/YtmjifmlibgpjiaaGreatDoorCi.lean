/- Week dates in the calendar. -/
import Derived.Test.YtmjifmlibgpjiaaGreatDoorCh
namespace Go.Proofs.YtmjifmlibgpjiaaGreatDoor
open Go.RowKit Tx
set_option linter.unusedVariables false
set_option maxRecDepth 100000

set_option maxHeartbeats 4000000 in
theorem inCalW_ok (n p wk x : Nat) (w : World) (h9 : p + 1 ≤ 9999) (hw1 : 1 ≤ wk) (hw53 : wk ≤ 53) (hx1 : 1 ≤ x) (hx7 : x ≤ 7) (hn : n = mon p + 7 * (wk - 1) + (x - 1)) (hm : n ≤ 3652058) (hk : IsWeek n (p + 1) wk x) :
    Calls Tryz.prog 59 #[.agg #[.int .i64 ((p : Int) + 1), .int .i64 (wk : Int), .int .i64 (x : Int)]] w (GivesD w n true) := by
  have KF := fun W => Lib.hid (firstDay_any p W (by omega))
  have KW := fun W => Lib.hid (weekdayOf_any (bef p + 3) W)
  have KD := fun W => Lib.hid (isDay_any (n : Int) W)
  rw [inR_true (by omega) (by omega)] at KD
  have KO := fun W => Lib.hid (weekOf_any n (p + 1) wk x W hk hm)
  rw [show ((p + 1 : Nat) : Int) = (p : Int) + 1 by omega] at KO
  have hq := fun W => neq_week ((p : Int) + 1) wk x ((p : Int) + 1) wk x W
  simp only [beq_self_eq_true, Bool.and_self, Bool.not_true] at hq
  have hbl := bef_le366 p
  obtain ⟨f, hf⟩ : ∃ f, f = bef p := ⟨_, rfl⟩
  obtain ⟨r, hr⟩ : ∃ r, r = (f + 3) % 7 := ⟨_, rfl⟩
  have hmon : mon p = f + 3 - r ∧ r < 7 := by rw [hr, hf]; unfold mon; omega
  rw [← hf] at KF KW hbl
  rw [← hr] at KW
  have w1 : IntKind.i64.wrap ((f : Int) + 3) = ((f + 3 : Nat) : Int) := by rw [show (f : Int) + 3 = ((f + 3 : Nat) : Int) by omega]; exact IntWalk.i64_in _ (by omega)
  obtain ⟨g, hg⟩ : ∃ g, g = f + 3 := ⟨_, rfl⟩
  rw [← hg] at KW w1
  obtain ⟨mo, hmo⟩ : ∃ mo, mo = mon p := ⟨_, rfl⟩
  rw [← hmo] at hmon hn
  have w2 : IntKind.i64.wrap ((g : Int) - (r : Int)) = (mo : Int) := by rw [show (g : Int) - (r : Int) = (mo : Int) by omega]; exact IntWalk.i64_in _ (by omega)
  have w3 : IntKind.i64.wrap ((wk : Int) - 1) = (wk : Int) - 1 := IntWalk.i64_in _ (by omega)
  have w4 : IntKind.i64.wrap (7 * ((wk : Int) - 1)) = 7 * ((wk : Int) - 1) := IntWalk.i64_in _ (by omega)
  have w5 : IntKind.i64.wrap ((mo : Int) + 7 * ((wk : Int) - 1)) = (mo : Int) + 7 * ((wk : Int) - 1) := IntWalk.i64_in _ (by omega)
  have w6 : IntKind.i64.wrap ((mo : Int) + 7 * ((wk : Int) - 1) + (x : Int)) = (mo : Int) + 7 * ((wk : Int) - 1) + (x : Int) := IntWalk.i64_in _ (by omega)
  have w7 : IntKind.i64.wrap ((mo : Int) + 7 * ((wk : Int) - 1) + (x : Int) - 1) = (n : Int) := by rw [show (mo : Int) + 7 * ((wk : Int) - 1) + (x : Int) - 1 = (n : Int) by omega]; exact IntWalk.i64_in _ (by omega)
  have v3 : wrap64 ((wk : Int) - 1) = (wk : Int) - 1 := w64 (by omega) (by omega)
  have v7 : wrap64 (wrap64 (wrap64 ((mo : Int) + wrap64 (7 * wrap64 ((wk : Int) - 1))) + (x : Int)) - 1) = (n : Int) := by
    rw [v3, w64 (x := 7 * ((wk : Int) - 1)) (by omega) (by omega), w64 (x := (mo : Int) + 7 * ((wk : Int) - 1)) (by omega) (by omega), w64 (x := (mo : Int) + 7 * ((wk : Int) - 1) + (x : Int)) (by omega) (by omega), w64 (by omega) (by omega)]; omega
  clear h9 hw1 hw53 hx1 hx7 hn hm hk hbl hf hr hmon hg hmo
  go_enter Tryz.func59, Tryz.ntmps59
  go_wp2_with (first
    | (go_at_call 85; refine Calls.mono (KF _).out ?_; rintro e w1 ⟨rfl, rfl⟩)
    | (go_at_call 53; refine Calls.mono (KW _).out ?_; rintro e w2 ⟨rfl, rfl⟩))
  obtain ⟨W4, hW4⟩ : ∃ W4, W4 = w.alloc (.cells #[.int .i64 ((p : Int) + 1), .int .i64 (wk : Int), .int .i64 (x : Int)] 76) := ⟨_, rfl⟩
  have bF : BoxC W4 w.heap.size 76 #[.int .i64 ((p : Int) + 1), .int .i64 (wk : Int), .int .i64 (x : Int)] := by rw [hW4]; exact BoxC.new _ _ _
  have B4 : Below w.heap.size w W4 := by rw [hW4]; exact Bl.alloc (Below.refl _ w) _
  rw [← hW4]
  have hw5 : w.heap.size < W4.heap.size := bF.lt
  have c0 := bF.cell (i := 0) rfl
  have c1 := bF.cell (i := 1) rfl
  have c2 := bF.cell (i := 2) rfl
  have HBF := Lib.hid bF
  clear bF hW4
  go_region_held3 (fun w' => w'.cell? ⟨w.heap.size, 0, none⟩ = some (.int .i64 ((p : Int) + 1)) ∧ w'.cell? ⟨w.heap.size, 1, none⟩ = some (.int .i64 (wk : Int)) ∧ w'.cell? ⟨w.heap.size, 2, none⟩ = some (.int .i64 (x : Int)))
    (first | exact ⟨c0, c1, c2⟩ | exact ⟨d0, d1, d2⟩ | go_keep)
    (first
      | (go_at_call 51; refine Calls.mono (KD _).out ?_; rintro e w4 ⟨rfl, rfl⟩)
      | (go_at_call 56; refine Calls.mono (KO _).out ?_; rintro e w5 ⟨rfl, hb5⟩; have hb5' := Lib.hid ((Below.refl _ W4).drew.trans hb5); have bF5 := HBF.out.below hb5'.out hw5; have d0 := bF5.cell (i := 0) rfl; have d1 := bF5.cell (i := 1) rfl; have d2 := bF5.cell (i := 2) rfl; clear bF5 hb5))
  all_goals
    go_wp2
    go_ret2
    exact ⟨rfl, B4.trans (hb5'.out.mono B4.size)⟩
set_option maxHeartbeats 4000000 in
theorem inCalW_bad (n p wk x : Nat) (w : World) (h9 : p + 1 ≤ 9999) (hw1 : 1 ≤ wk) (hw53 : wk ≤ 53) (hx1 : 1 ≤ x) (hx7 : x ≤ 7) (hn : n = mon p + 7 * (wk - 1) + (x - 1)) (hm : n ≤ 3652058) (hk : ¬ IsWeek n (p + 1) wk x) :
    Calls Tryz.prog 59 #[.agg #[.int .i64 ((p : Int) + 1), .int .i64 (wk : Int), .int .i64 (x : Int)]] w (GivesD w 0 false) := by
  have KF := fun W => Lib.hid (firstDay_any p W (by omega))
  have KW := fun W => Lib.hid (weekdayOf_any (bef p + 3) W)
  have KD := fun W => Lib.hid (isDay_any (n : Int) W)
  rw [inR_true (by omega) (by omega)] at KD
  obtain ⟨y', wk', x', hk2⟩ := isWeek_ex n
  have KO := fun W => Lib.hid (weekOf_any n y' wk' x' W hk2 hm)
  have hne : (!(((y' : Int) == (p : Int) + 1) && (((wk' : Int) == (wk : Int)) && ((x' : Int) == (x : Int))))) = true := by
    rw [Bool.not_eq_true', Bool.and_eq_false_iff]
    by_cases e1 : (y' : Int) = (p : Int) + 1
    · right
      rw [Bool.and_eq_false_iff]
      by_cases e2 : (wk' : Int) = (wk : Int)
      · right
        refine beq_eq_false_iff_ne.2 (fun e3 => hk ?_)
        obtain rfl : y' = p + 1 := by omega
        obtain rfl : wk' = wk := by omega
        obtain rfl : x' = x := by omega
        exact hk2
      · left; exact beq_eq_false_iff_ne.2 e2
    · left; exact beq_eq_false_iff_ne.2 e1
  have hq := fun W => neq_week (y' : Int) wk' x' ((p : Int) + 1) wk x W
  simp only [hne] at hq
  have hbl := bef_le366 p
  obtain ⟨f, hf⟩ : ∃ f, f = bef p := ⟨_, rfl⟩
  obtain ⟨r, hr⟩ : ∃ r, r = (f + 3) % 7 := ⟨_, rfl⟩
  have hmon : mon p = f + 3 - r ∧ r < 7 := by rw [hr, hf]; unfold mon; omega
  rw [← hf] at KF KW hbl
  rw [← hr] at KW
  have w1 : IntKind.i64.wrap ((f : Int) + 3) = ((f + 3 : Nat) : Int) := by rw [show (f : Int) + 3 = ((f + 3 : Nat) : Int) by omega]; exact IntWalk.i64_in _ (by omega)
  obtain ⟨g, hg⟩ : ∃ g, g = f + 3 := ⟨_, rfl⟩
  rw [← hg] at KW w1
  obtain ⟨mo, hmo⟩ : ∃ mo, mo = mon p := ⟨_, rfl⟩
  rw [← hmo] at hmon hn
  have w2 : IntKind.i64.wrap ((g : Int) - (r : Int)) = (mo : Int) := by rw [show (g : Int) - (r : Int) = (mo : Int) by omega]; exact IntWalk.i64_in _ (by omega)
  have w3 : IntKind.i64.wrap ((wk : Int) - 1) = (wk : Int) - 1 := IntWalk.i64_in _ (by omega)
  have w4 : IntKind.i64.wrap (7 * ((wk : Int) - 1)) = 7 * ((wk : Int) - 1) := IntWalk.i64_in _ (by omega)
  have w5 : IntKind.i64.wrap ((mo : Int) + 7 * ((wk : Int) - 1)) = (mo : Int) + 7 * ((wk : Int) - 1) := IntWalk.i64_in _ (by omega)
  have w6 : IntKind.i64.wrap ((mo : Int) + 7 * ((wk : Int) - 1) + (x : Int)) = (mo : Int) + 7 * ((wk : Int) - 1) + (x : Int) := IntWalk.i64_in _ (by omega)
  have w7 : IntKind.i64.wrap ((mo : Int) + 7 * ((wk : Int) - 1) + (x : Int) - 1) = (n : Int) := by rw [show (mo : Int) + 7 * ((wk : Int) - 1) + (x : Int) - 1 = (n : Int) by omega]; exact IntWalk.i64_in _ (by omega)
  have v3 : wrap64 ((wk : Int) - 1) = (wk : Int) - 1 := w64 (by omega) (by omega)
  have v7 : wrap64 (wrap64 (wrap64 ((mo : Int) + wrap64 (7 * wrap64 ((wk : Int) - 1))) + (x : Int)) - 1) = (n : Int) := by
    rw [v3, w64 (x := 7 * ((wk : Int) - 1)) (by omega) (by omega), w64 (x := (mo : Int) + 7 * ((wk : Int) - 1)) (by omega) (by omega), w64 (x := (mo : Int) + 7 * ((wk : Int) - 1) + (x : Int)) (by omega) (by omega), w64 (by omega) (by omega)]; omega
  clear h9 hw1 hw53 hx1 hx7 hn hm hk hk2 hne hbl hf hr hmon hg hmo
  go_enter Tryz.func59, Tryz.ntmps59
  go_wp2_with (first
    | (go_at_call 85; refine Calls.mono (KF _).out ?_; rintro e w1 ⟨rfl, rfl⟩)
    | (go_at_call 53; refine Calls.mono (KW _).out ?_; rintro e w2 ⟨rfl, rfl⟩))
  obtain ⟨W4, hW4⟩ : ∃ W4, W4 = w.alloc (.cells #[.int .i64 ((p : Int) + 1), .int .i64 (wk : Int), .int .i64 (x : Int)] 76) := ⟨_, rfl⟩
  have bF : BoxC W4 w.heap.size 76 #[.int .i64 ((p : Int) + 1), .int .i64 (wk : Int), .int .i64 (x : Int)] := by rw [hW4]; exact BoxC.new _ _ _
  have B4 : Below w.heap.size w W4 := by rw [hW4]; exact Bl.alloc (Below.refl _ w) _
  rw [← hW4]
  have hw5 : w.heap.size < W4.heap.size := bF.lt
  have c0 := bF.cell (i := 0) rfl
  have c1 := bF.cell (i := 1) rfl
  have c2 := bF.cell (i := 2) rfl
  have HBF := Lib.hid bF
  clear bF hW4
  go_region_held3 (fun w' => w'.cell? ⟨w.heap.size, 0, none⟩ = some (.int .i64 ((p : Int) + 1)) ∧ w'.cell? ⟨w.heap.size, 1, none⟩ = some (.int .i64 (wk : Int)) ∧ w'.cell? ⟨w.heap.size, 2, none⟩ = some (.int .i64 (x : Int)))
    (first | exact ⟨c0, c1, c2⟩ | exact ⟨d0, d1, d2⟩ | go_keep)
    (first
      | (go_at_call 51; refine Calls.mono (KD _).out ?_; rintro e w4 ⟨rfl, rfl⟩)
      | (go_at_call 56; refine Calls.mono (KO _).out ?_; rintro e w5 ⟨rfl, hb5⟩; have hb5' := Lib.hid ((Below.refl _ W4).drew.trans hb5); have bF5 := HBF.out.below hb5'.out hw5; have d0 := bF5.cell (i := 0) rfl; have d1 := bF5.cell (i := 1) rfl; have d2 := bF5.cell (i := 2) rfl; clear bF5 hb5))
  all_goals
    go_wp2
    go_ret2
    exact ⟨rfl, B4.trans (hb5'.out.mono B4.size)⟩
set_option maxHeartbeats 4000000 in
theorem inCalW_out (n p wk x : Nat) (w : World) (h9 : p + 1 ≤ 9999) (hw1 : 1 ≤ wk) (hw53 : wk ≤ 53) (hx1 : 1 ≤ x) (hx7 : x ≤ 7) (hn : n = mon p + 7 * (wk - 1) + (x - 1)) (hm : 3652058 < n) :
    Calls Tryz.prog 59 #[.agg #[.int .i64 ((p : Int) + 1), .int .i64 (wk : Int), .int .i64 (x : Int)]] w (GivesD w 0 false) := by
  have KF := fun W => Lib.hid (firstDay_any p W (by omega))
  have KW := fun W => Lib.hid (weekdayOf_any (bef p + 3) W)
  have KD := fun W => Lib.hid (isDay_any (n : Int) W)
  rw [inR_false (by omega)] at KD
  have hbl := bef_le366 p
  obtain ⟨f, hf⟩ : ∃ f, f = bef p := ⟨_, rfl⟩
  obtain ⟨r, hr⟩ : ∃ r, r = (f + 3) % 7 := ⟨_, rfl⟩
  have hmon : mon p = f + 3 - r ∧ r < 7 := by rw [hr, hf]; unfold mon; omega
  rw [← hf] at KF KW hbl
  rw [← hr] at KW
  have w1 : IntKind.i64.wrap ((f : Int) + 3) = ((f + 3 : Nat) : Int) := by rw [show (f : Int) + 3 = ((f + 3 : Nat) : Int) by omega]; exact IntWalk.i64_in _ (by omega)
  obtain ⟨g, hg⟩ : ∃ g, g = f + 3 := ⟨_, rfl⟩
  rw [← hg] at KW w1
  obtain ⟨mo, hmo⟩ : ∃ mo, mo = mon p := ⟨_, rfl⟩
  rw [← hmo] at hmon hn
  have w2 : IntKind.i64.wrap ((g : Int) - (r : Int)) = (mo : Int) := by rw [show (g : Int) - (r : Int) = (mo : Int) by omega]; exact IntWalk.i64_in _ (by omega)
  have w3 : IntKind.i64.wrap ((wk : Int) - 1) = (wk : Int) - 1 := IntWalk.i64_in _ (by omega)
  have w4 : IntKind.i64.wrap (7 * ((wk : Int) - 1)) = 7 * ((wk : Int) - 1) := IntWalk.i64_in _ (by omega)
  have w5 : IntKind.i64.wrap ((mo : Int) + 7 * ((wk : Int) - 1)) = (mo : Int) + 7 * ((wk : Int) - 1) := IntWalk.i64_in _ (by omega)
  have w6 : IntKind.i64.wrap ((mo : Int) + 7 * ((wk : Int) - 1) + (x : Int)) = (mo : Int) + 7 * ((wk : Int) - 1) + (x : Int) := IntWalk.i64_in _ (by omega)
  have w7 : IntKind.i64.wrap ((mo : Int) + 7 * ((wk : Int) - 1) + (x : Int) - 1) = (n : Int) := by rw [show (mo : Int) + 7 * ((wk : Int) - 1) + (x : Int) - 1 = (n : Int) by omega]; exact IntWalk.i64_in _ (by omega)
  have v3 : wrap64 ((wk : Int) - 1) = (wk : Int) - 1 := w64 (by omega) (by omega)
  have v7 : wrap64 (wrap64 (wrap64 ((mo : Int) + wrap64 (7 * wrap64 ((wk : Int) - 1))) + (x : Int)) - 1) = (n : Int) := by
    rw [v3, w64 (x := 7 * ((wk : Int) - 1)) (by omega) (by omega), w64 (x := (mo : Int) + 7 * ((wk : Int) - 1)) (by omega) (by omega), w64 (x := (mo : Int) + 7 * ((wk : Int) - 1) + (x : Int)) (by omega) (by omega), w64 (by omega) (by omega)]; omega
  clear h9 hw1 hw53 hx1 hx7 hn hm  hbl hf hr hmon hg hmo
  go_enter Tryz.func59, Tryz.ntmps59
  go_wp2_with (first
    | (go_at_call 85; refine Calls.mono (KF _).out ?_; rintro e w1 ⟨rfl, rfl⟩)
    | (go_at_call 53; refine Calls.mono (KW _).out ?_; rintro e w2 ⟨rfl, rfl⟩))
  go_quiet ((go_at_call 51; exact quietS (KD _).out))
  go_wp2
  go_ret2
  exact ⟨rfl, below_drewN' (Bl.alloc (Below.refl _ w) _) _⟩
set_option maxHeartbeats 800000 in
theorem WeekDay_ok (n y wk x : Nat) (w : World) (h : IsWeek n y wk x) (hn : n ≤ 3652058) : Calls Tryz.prog 26 #[.int .i64 (y : Int), .int .i64 (wk : Int), .int .i64 (x : Int)] w (Gives w #[.int .i64 (n : Int), .int .i64 0]) := by
  have hy9 := h.yr.le (thu_le hn)
  have hy1 := h.yr.y1
  obtain ⟨e1, e2, e3, e4, e5, e6⟩ := weekOfBack h
  have KY := fun W => Lib.hid (isYear_any (y : Int) W)
  rw [inR_true (by omega) (by omega)] at KY
  have KA := fun W => Lib.hid (inRange_any (wk : Int) 1 53 W)
  rw [inR_true (by omega) (by omega)] at KA
  have KB := fun W => Lib.hid (inRange_any (x : Int) 1 7 W)
  rw [inR_true (by omega) (by omega)] at KB
  obtain ⟨p, rfl⟩ : ∃ p, y = p + 1 := ⟨y - 1, by omega⟩
  rw [show p + 1 - 1 = p by omega] at e1
  have KI := fun W => Lib.hid (inCalW_ok n p wk x W hy9 e3 e4 e5 e6 e1 hn h)
  rw [show ((p + 1 : Nat) : Int) = (p : Int) + 1 by omega] at KY ⊢
  clear h hn hy9 hy1 e1 e2 e3 e4 e5 e6
  go_enter Tryz.func26, Tryz.ntmps26
  go_wp2_with (first
    | (go_at_call 42; refine Calls.mono (KY _).out ?_; rintro e W1 ⟨rfl, rfl⟩)
    | (go_at_call 58; first | ((with_reducible refine Calls.mono (KA _).out ?_); rintro e w2 ⟨rfl, rfl⟩) | ((with_reducible refine Calls.mono (KB _).out ?_); rintro e w3 ⟨rfl, rfl⟩))
    | (go_at_call 59; refine Calls.mono (KI _).out ?_; rintro e w4 ⟨rfl, hb4⟩))
  go_ret2
  exact ⟨rfl, hb4⟩
set_option maxHeartbeats 800000 in
theorem WeekDay_rng (y wk x : Nat) (w : World) (hy1 : 1 ≤ y) (hy9 : y ≤ 9999) (e3 : 1 ≤ wk) (e4 : wk ≤ 53) (e5 : 1 ≤ x) (e6 : x ≤ 7) (h : ∀ n, n ≤ 3652058 → ¬ IsWeek n y wk x) : Calls Tryz.prog 26 #[.int .i64 (y : Int), .int .i64 (wk : Int), .int .i64 (x : Int)] w (Gives w #[.int .i64 0, .int .i64 8]) := by
  have KY := fun W => Lib.hid (isYear_any (y : Int) W)
  rw [inR_true (by omega) (by omega)] at KY
  have KA := fun W => Lib.hid (inRange_any (wk : Int) 1 53 W)
  rw [inR_true (by omega) (by omega)] at KA
  have KB := fun W => Lib.hid (inRange_any (x : Int) 1 7 W)
  rw [inR_true (by omega) (by omega)] at KB
  obtain ⟨p, rfl⟩ : ∃ p, y = p + 1 := ⟨y - 1, by omega⟩
  have KI : ∀ W, Hid (Calls Tryz.prog 59 #[.agg #[.int .i64 ((p : Int) + 1), .int .i64 (wk : Int), .int .i64 (x : Int)]] W (GivesD W 0 false)) := by
    intro W
    by_cases q : mon p + 7 * (wk - 1) + (x - 1) ≤ 3652058
    · exact Lib.hid (inCalW_bad _ p wk x W hy9 e3 e4 e5 e6 rfl q (h _ q))
    · exact Lib.hid (inCalW_out _ p wk x W hy9 e3 e4 e5 e6 rfl (by omega))
  rw [show ((p + 1 : Nat) : Int) = (p : Int) + 1 by omega] at KY ⊢
  clear h hy9 hy1 e3 e4 e5 e6
  go_enter Tryz.func26, Tryz.ntmps26
  go_wp2_with (first
    | (go_at_call 42; refine Calls.mono (KY _).out ?_; rintro e W1 ⟨rfl, rfl⟩)
    | (go_at_call 58; first | ((with_reducible refine Calls.mono (KA _).out ?_); rintro e w2 ⟨rfl, rfl⟩) | ((with_reducible refine Calls.mono (KB _).out ?_); rintro e w3 ⟨rfl, rfl⟩))
    | (go_at_call 59; refine Calls.mono (KI _).out ?_; rintro e w4 ⟨rfl, hb4⟩))
  go_ret2
  exact ⟨rfl, hb4⟩
set_option maxHeartbeats 800000 in
theorem WeekDay_arg (y wk x : Int) (w : World) (h : ¬ ((1 ≤ y ∧ y ≤ 9999) ∧ (1 ≤ wk ∧ wk ≤ 53) ∧ (1 ≤ x ∧ x ≤ 7))) : Calls Tryz.prog 26 #[.int .i64 y, .int .i64 wk, .int .i64 x] w (Gives w #[.int .i64 0, .int .i64 1]) := by
  have KY := fun W => Lib.hid (isYear_any y W)
  have KA := fun W => Lib.hid (inRange_any wk 1 53 W)
  have KB := fun W => Lib.hid (inRange_any x 1 7 W)
  by_cases hy : 1 ≤ y ∧ y ≤ 9999
  · rw [inR_true hy.1 hy.2] at KY
    by_cases hw : 1 ≤ wk ∧ wk ≤ 53
    · rw [inR_true hw.1 hw.2] at KA
      rw [inR_false (fun e => h ⟨hy, hw, e⟩)] at KB
      clear h hy hw
      go_enter Tryz.func26, Tryz.ntmps26
      go_wp2_with (first
        | (go_at_call 42; refine Calls.mono (KY _).out ?_; rintro e W1 ⟨rfl, rfl⟩)
        | (go_at_call 58; first | ((with_reducible refine Calls.mono (KA _).out ?_); rintro e w2 ⟨rfl, rfl⟩) | ((with_reducible refine Calls.mono (KB _).out ?_); rintro e w3 ⟨rfl, rfl⟩)))
      go_ret2
      exact ⟨rfl, Below.refl _ _⟩
    · rw [inR_false hw] at KA
      clear h hy hw KB
      go_enter Tryz.func26, Tryz.ntmps26
      go_wp2_with (first
        | (go_at_call 42; refine Calls.mono (KY _).out ?_; rintro e W1 ⟨rfl, rfl⟩)
        | (go_at_call 58; refine Calls.mono (KA _).out ?_; rintro e W2 ⟨rfl, rfl⟩))
      go_ret2
      exact ⟨rfl, Below.refl _ _⟩
  · rw [inR_false hy] at KY
    clear h hy KA KB
    go_enter Tryz.func26, Tryz.ntmps26
    go_wp2_with (first
      | (go_at_call 42; refine Calls.mono (KY _).out ?_; rintro e W1 ⟨rfl, rfl⟩))
    go_ret2
    exact ⟨rfl, Below.refl _ _⟩
end Go.Proofs.YtmjifmlibgpjiaaGreatDoor
