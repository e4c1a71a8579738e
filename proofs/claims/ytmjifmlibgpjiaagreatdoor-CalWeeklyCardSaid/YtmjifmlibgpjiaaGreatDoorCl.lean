/- The reference's day of a week date. -/
import Derived.Test.YtmjifmlibgpjiaaGreatDoorCk
namespace Go.Proofs.YtmjifmlibgpjiaaGreatDoor
open Go.RowKit Tx
set_option linter.unusedVariables false
set_option maxRecDepth 100000

set_option maxHeartbeats 800000 in
theorem RWeek_bad (n : Int) (w : World) (h : ¬ (0 ≤ n ∧ n ≤ 3652058)) : Calls Tryz.prog 25 #[.int .i64 n] w (GivesA w #[.int .i64 0, .int .i64 0, .int .i64 0, .int .i64 1]) := by
  have KI := fun W => Lib.hid (RIn_bad n W h)
  clear h
  go_enter Tryz.func25, Tryz.ntmps25
  go_wp2_with (first
    | (go_at_call 22; refine Calls.mono (KI _).out ?_; rintro e W1 ⟨rfl, rfl⟩))
  refine bodyPost_ret (v := .agg #[.int .i64 0, .int .i64 0, .int .i64 0, .int .i64 1]) (by simp [results, Tryz.results25, go_sem]) rfl ?_
  exact ⟨rfl, Bl.alloc (Below.refl _ w) _⟩
theorem wdFacts (n v wk x : Nat) (hv : v ≤ 4000000) (h1 : 1 ≤ wk) (h53 : wk ≤ 53) (hx1 : 1 ≤ x) (hx7 : x ≤ 7) (hn : n = v + 7 * (wk - 1) + (x - 1)) :
    IntKind.i64.wrap ((wk : Int) - 1) = (wk : Int) - 1 ∧ IntKind.i64.wrap (7 * ((wk : Int) - 1)) = 7 * ((wk : Int) - 1) ∧ IntKind.i64.wrap ((v : Int) + 7 * ((wk : Int) - 1)) = (v : Int) + 7 * ((wk : Int) - 1) ∧
    IntKind.i64.wrap ((v : Int) + 7 * ((wk : Int) - 1) + (x : Int)) = (v : Int) + 7 * ((wk : Int) - 1) + (x : Int) ∧ IntKind.i64.wrap ((v : Int) + 7 * ((wk : Int) - 1) + (x : Int) - 1) = (n : Int) ∧
    wrap64 ((wk : Int) - 1) = (wk : Int) - 1 ∧ wrap64 (wrap64 (wrap64 ((v : Int) + wrap64 (7 * wrap64 ((wk : Int) - 1))) + (x : Int)) - 1) = (n : Int) ∧
    wrap64 (7 * ((wk : Int) - 1)) = 7 * ((wk : Int) - 1) ∧ wrap64 ((v : Int) + 7 * ((wk : Int) - 1)) = (v : Int) + 7 * ((wk : Int) - 1) ∧ wrap64 ((v : Int) + 7 * ((wk : Int) - 1) + (x : Int)) = (v : Int) + 7 * ((wk : Int) - 1) + (x : Int) ∧
    wrap64 ((v : Int) + 7 * ((wk : Int) - 1) + (x : Int) - 1) = (n : Int) ∧
    IntKind.i64.wrap ((x : Int) - 1) = (x : Int) - 1 ∧ wrap64 ((x : Int) - 1) = (x : Int) - 1 ∧ IntKind.i64.wrap ((n : Int) - ((x : Int) - 1)) = (n : Int) - ((x : Int) - 1) ∧ wrap64 ((n : Int) - ((x : Int) - 1)) = (n : Int) - ((x : Int) - 1) := by
  have e : (v : Int) + 7 * ((wk : Int) - 1) + (x : Int) - 1 = (n : Int) := by omega
  have a1 : wrap64 ((wk : Int) - 1) = (wk : Int) - 1 := w64 (by omega) (by omega)
  have a2 : wrap64 (7 * ((wk : Int) - 1)) = 7 * ((wk : Int) - 1) := w64 (by omega) (by omega)
  have a3 : wrap64 ((v : Int) + 7 * ((wk : Int) - 1)) = (v : Int) + 7 * ((wk : Int) - 1) := w64 (by omega) (by omega)
  have a4 : wrap64 ((v : Int) + 7 * ((wk : Int) - 1) + (x : Int)) = (v : Int) + 7 * ((wk : Int) - 1) + (x : Int) := w64 (by omega) (by omega)
  refine ⟨i64i (by clear a1 a2 a3 a4; omega) (by clear a1 a2 a3 a4; omega), i64i (by clear a1 a2 a3 a4; omega) (by clear a1 a2 a3 a4; omega), i64i (by clear a1 a2 a3 a4; omega) (by clear a1 a2 a3 a4; omega), i64i (by clear a1 a2 a3 a4; omega) (by clear a1 a2 a3 a4; omega), ?_, a1, ?_, a2, a3, a4, ?_, i64i (by clear a1 a2 a3 a4; omega) (by clear a1 a2 a3 a4; omega), w64 (by clear a1 a2 a3 a4; omega) (by clear a1 a2 a3 a4; omega), i64i (by clear a1 a2 a3 a4; omega) (by clear a1 a2 a3 a4; omega), w64 (by clear a1 a2 a3 a4; omega) (by clear a1 a2 a3 a4; omega)⟩
  · rw [e]; exact i64i (by clear a1 a2 a3 a4; omega) (by clear a1 a2 a3 a4; omega)
  · rw [a1, a2, a3, a4, e]; exact w64 (by clear a1 a2 a3 a4; omega) (by clear a1 a2 a3 a4; omega)
  · rw [e]; exact w64 (by clear a1 a2 a3 a4; omega) (by clear a1 a2 a3 a4; omega)
set_option maxHeartbeats 1600000 in
theorem RWeekDay_okx (n p wk x : Nat) (w : World) (h9 : p + 1 ≤ 9999) (hw1 : 1 ≤ wk) (hw53 : wk ≤ 53) (hx1 : 1 ≤ x) (hx7 : x ≤ 7) (hn : n = mon p + 7 * (wk - 1) + (x - 1)) (hm : n ≤ 3652058) (hk : n - (x - 1) < mon (p + 1)) :
    Calls Tryz.prog 27 #[.int .i64 ((p : Int) + 1), .int .i64 (wk : Int), .int .i64 (x : Int)] w (GivesA w #[.int .i64 (n : Int), .int .i64 0]) := by
  have KY := fun W => Lib.hid (RinYears_any ((p : Int) + 1) W)
  rw [inR_true (by omega) (by omega)] at KY
  have KI := fun W => Lib.hid (RIn_any (n : Int) W)
  rw [inR_true (by omega) (by omega)] at KI
  have KA := fun W => Lib.hid (Rfirst_any (p + 1) W (by omega))
  have KB := fun W => Lib.hid (Rfirst_any p W (by omega))
  have ep : ((p + 1 : Nat) : Int) = (p : Int) + 1 := by omega
  rw [ep] at KA
  obtain ⟨a0, ha0⟩ : ∃ a0 : Int, a0 = (p : Int) + 1 := ⟨_, rfl⟩
  obtain ⟨a1, ha1⟩ : ∃ a1 : Int, a1 = a0 + 1 := ⟨_, rfl⟩
  rw [← ha0] at KA KB KY ⊢
  rw [← ha1] at KA
  have Y : IntKind.i64.wrap (a0 + 1) = a1 ∧ wrap64 (a0 + 1) = a1 ∧ IntKind.i64.wrap (a0 - 1) = (p : Int) ∧ wrap64 (a0 - 1) = (p : Int) := by rw [ha1, ha0]; exact yFacts p (by omega)
  have hmb : mon p ≤ 4000000 := by have h1 := (mon_th p).2.1; have h2 := bef_mono (show p ≤ 9999 by omega); rw [bef9999] at h2; omega
  obtain ⟨u, hu⟩ : ∃ u, u = mon (p + 1) := ⟨_, rfl⟩
  obtain ⟨v, hv⟩ : ∃ v, v = mon p := ⟨_, rfl⟩
  rw [← hu] at KA hk
  rw [← hv] at KB hn hmb
  have D := Lib.hid (wdFacts n v wk x hmb hw1 hw53 hx1 hx7 hn)
  have Y := Lib.hid Y
  have t1 : ¬ (wk : Int) < 1 := by omega
  have t2 : ¬ (53 : Int) < (wk : Int) := by omega
  have t3 : ¬ (x : Int) < 1 := by omega
  have t4 : ¬ (7 : Int) < (x : Int) := by omega
  have t5 : ¬ (u : Int) ≤ (n : Int) - ((x : Int) - 1) := by omega
  clear h9 hw1 hw53 hx1 hx7 hn hm ep ha0 ha1 hmb hu hv hk
  obtain ⟨d1, d2, d3, d4, d5, d6, d7, d8, d9, d10, d11, d12, d13, d14, d15⟩ := D.out
  obtain ⟨y1, y1', y2, y2'⟩ := Y.out
  clear D Y
  go_enter Tryz.func27, Tryz.ntmps27
  go_wp2_with (first
    | (go_at_call 48; refine Calls.mono (KY _).out ?_; rintro e W1 ⟨rfl, rfl⟩)
    | (go_at_call 22; refine Calls.mono (KI _).out ?_; rintro e W2 ⟨rfl, rfl⟩)
    | (go_at_call 57; first | ((with_reducible refine Calls.mono (KB _).out ?_); rintro e w4 ⟨rfl, rfl⟩) | ((with_reducible refine Calls.mono (KA _).out ?_); rintro e w3 ⟨rfl, rfl⟩)))
  refine bodyPost_ret (v := .agg #[.int .i64 (n : Int), .int .i64 0]) (by simp [results, Tryz.results27, go_sem]) rfl ?_
  exact ⟨rfl, Bl.alloc (Below.refl _ w) _⟩
set_option maxHeartbeats 1600000 in
theorem RWeekDay_badx (n p wk x : Nat) (w : World) (h9 : p + 1 ≤ 9999) (hw1 : 1 ≤ wk) (hw53 : wk ≤ 53) (hx1 : 1 ≤ x) (hx7 : x ≤ 7) (hn : n = mon p + 7 * (wk - 1) + (x - 1)) (hm : n ≤ 3652058) (hk : mon (p + 1) ≤ n - (x - 1)) :
    Calls Tryz.prog 27 #[.int .i64 ((p : Int) + 1), .int .i64 (wk : Int), .int .i64 (x : Int)] w (GivesA w #[.int .i64 0, .int .i64 8]) := by
  have KY := fun W => Lib.hid (RinYears_any ((p : Int) + 1) W)
  rw [inR_true (by omega) (by omega)] at KY
  have KI := fun W => Lib.hid (RIn_any (n : Int) W)
  rw [inR_true (by omega) (by omega)] at KI
  have KA := fun W => Lib.hid (Rfirst_any (p + 1) W (by omega))
  have KB := fun W => Lib.hid (Rfirst_any p W (by omega))
  have ep : ((p + 1 : Nat) : Int) = (p : Int) + 1 := by omega
  rw [ep] at KA
  obtain ⟨a0, ha0⟩ : ∃ a0 : Int, a0 = (p : Int) + 1 := ⟨_, rfl⟩
  obtain ⟨a1, ha1⟩ : ∃ a1 : Int, a1 = a0 + 1 := ⟨_, rfl⟩
  rw [← ha0] at KA KB KY ⊢
  rw [← ha1] at KA
  have Y : IntKind.i64.wrap (a0 + 1) = a1 ∧ wrap64 (a0 + 1) = a1 ∧ IntKind.i64.wrap (a0 - 1) = (p : Int) ∧ wrap64 (a0 - 1) = (p : Int) := by rw [ha1, ha0]; exact yFacts p (by omega)
  have hmb : mon p ≤ 4000000 := by have h1 := (mon_th p).2.1; have h2 := bef_mono (show p ≤ 9999 by omega); rw [bef9999] at h2; omega
  obtain ⟨u, hu⟩ : ∃ u, u = mon (p + 1) := ⟨_, rfl⟩
  obtain ⟨v, hv⟩ : ∃ v, v = mon p := ⟨_, rfl⟩
  rw [← hu] at KA hk
  rw [← hv] at KB hn hmb
  have D := Lib.hid (wdFacts n v wk x hmb hw1 hw53 hx1 hx7 hn)
  have Y := Lib.hid Y
  have t1 : ¬ (wk : Int) < 1 := by omega
  have t2 : ¬ (53 : Int) < (wk : Int) := by omega
  have t3 : ¬ (x : Int) < 1 := by omega
  have t4 : ¬ (7 : Int) < (x : Int) := by omega
  have t5 : (u : Int) ≤ (n : Int) - ((x : Int) - 1) := by omega
  clear h9 hw1 hw53 hx1 hx7 hn hm ep ha0 ha1 hmb hu hv hk
  obtain ⟨d1, d2, d3, d4, d5, d6, d7, d8, d9, d10, d11, d12, d13, d14, d15⟩ := D.out
  obtain ⟨y1, y1', y2, y2'⟩ := Y.out
  clear D Y
  go_enter Tryz.func27, Tryz.ntmps27
  go_wp2_with (first
    | (go_at_call 48; refine Calls.mono (KY _).out ?_; rintro e W1 ⟨rfl, rfl⟩)
    | (go_at_call 22; refine Calls.mono (KI _).out ?_; rintro e W2 ⟨rfl, rfl⟩)
    | (go_at_call 57; first | ((with_reducible refine Calls.mono (KB _).out ?_); rintro e w4 ⟨rfl, rfl⟩) | ((with_reducible refine Calls.mono (KA _).out ?_); rintro e w3 ⟨rfl, rfl⟩)))
  refine bodyPost_ret (v := .agg #[.int .i64 0, .int .i64 8]) (by simp [results, Tryz.results27, go_sem]) rfl ?_
  exact ⟨rfl, Bl.alloc (Below.refl _ w) _⟩
set_option maxHeartbeats 1600000 in
theorem RWeekDay_outx (n p wk x : Nat) (w : World) (h9 : p + 1 ≤ 9999) (hw1 : 1 ≤ wk) (hw53 : wk ≤ 53) (hx1 : 1 ≤ x) (hx7 : x ≤ 7) (hn : n = mon p + 7 * (wk - 1) + (x - 1)) (hm : 3652058 < n) :
    Calls Tryz.prog 27 #[.int .i64 ((p : Int) + 1), .int .i64 (wk : Int), .int .i64 (x : Int)] w (GivesA w #[.int .i64 0, .int .i64 8]) := by
  have KY := fun W => Lib.hid (RinYears_any ((p : Int) + 1) W)
  rw [inR_true (by omega) (by omega)] at KY
  have KI := fun W => Lib.hid (RIn_any (n : Int) W)
  rw [inR_false (by omega)] at KI
  have KA := fun W => Lib.hid (Rfirst_any (p + 1) W (by omega))
  have KB := fun W => Lib.hid (Rfirst_any p W (by omega))
  have ep : ((p + 1 : Nat) : Int) = (p : Int) + 1 := by omega
  rw [ep] at KA
  obtain ⟨a0, ha0⟩ : ∃ a0 : Int, a0 = (p : Int) + 1 := ⟨_, rfl⟩
  obtain ⟨a1, ha1⟩ : ∃ a1 : Int, a1 = a0 + 1 := ⟨_, rfl⟩
  rw [← ha0] at KA KB KY ⊢
  rw [← ha1] at KA
  have Y : IntKind.i64.wrap (a0 + 1) = a1 ∧ wrap64 (a0 + 1) = a1 ∧ IntKind.i64.wrap (a0 - 1) = (p : Int) ∧ wrap64 (a0 - 1) = (p : Int) := by rw [ha1, ha0]; exact yFacts p (by omega)
  have hmb : mon p ≤ 4000000 := by have h1 := (mon_th p).2.1; have h2 := bef_mono (show p ≤ 9999 by omega); rw [bef9999] at h2; omega
  obtain ⟨u, hu⟩ : ∃ u, u = mon (p + 1) := ⟨_, rfl⟩
  obtain ⟨v, hv⟩ : ∃ v, v = mon p := ⟨_, rfl⟩
  rw [← hu] at KA
  rw [← hv] at KB hn hmb
  have D := Lib.hid (wdFacts n v wk x hmb hw1 hw53 hx1 hx7 hn)
  have Y := Lib.hid Y
  have t1 : ¬ (wk : Int) < 1 := by omega
  have t2 : ¬ (53 : Int) < (wk : Int) := by omega
  have t3 : ¬ (x : Int) < 1 := by omega
  have t4 : ¬ (7 : Int) < (x : Int) := by omega
  clear h9 hw1 hw53 hx1 hx7 hn hm ep ha0 ha1 hmb hu hv
  obtain ⟨d1, d2, d3, d4, d5, d6, d7, d8, d9, d10, d11, d12, d13, d14, d15⟩ := D.out
  obtain ⟨y1, y1', y2, y2'⟩ := Y.out
  clear D Y
  go_enter Tryz.func27, Tryz.ntmps27
  go_wp2_with (first
    | (go_at_call 48; refine Calls.mono (KY _).out ?_; rintro e W1 ⟨rfl, rfl⟩)
    | (go_at_call 22; refine Calls.mono (KI _).out ?_; rintro e W2 ⟨rfl, rfl⟩)
    | (go_at_call 57; first | ((with_reducible refine Calls.mono (KB _).out ?_); rintro e w4 ⟨rfl, rfl⟩) | ((with_reducible refine Calls.mono (KA _).out ?_); rintro e w3 ⟨rfl, rfl⟩)))
  refine bodyPost_ret (v := .agg #[.int .i64 0, .int .i64 8]) (by simp [results, Tryz.results27, go_sem]) rfl ?_
  exact ⟨rfl, Bl.alloc (Below.refl _ w) _⟩
theorem RWeekDay_ok (n y wk x : Nat) (w : World) (h : IsWeek n y wk x) (hn : n ≤ 3652058) : Calls Tryz.prog 27 #[.int .i64 (y : Int), .int .i64 (wk : Int), .int .i64 (x : Int)] w (GivesA w #[.int .i64 (n : Int), .int .i64 0]) := by
  have hy9 := h.yr.le (thu_le hn)
  have hy1 := h.yr.y1
  obtain ⟨e1, e2, e3, e4, e5, e6⟩ := weekOfBack h
  obtain ⟨p, rfl⟩ : ∃ p, y = p + 1 := ⟨y - 1, by omega⟩
  rw [show ((p + 1 : Nat) : Int) = (p : Int) + 1 by omega]
  rw [show p + 1 - 1 = p by omega] at e1
  exact RWeekDay_okx n p wk x w hy9 e3 e4 e5 e6 e1 hn e2
theorem RWeekDay_rng (y wk x : Nat) (w : World) (hy1 : 1 ≤ y) (hy9 : y ≤ 9999) (e3 : 1 ≤ wk) (e4 : wk ≤ 53) (e5 : 1 ≤ x) (e6 : x ≤ 7) (h : ∀ n, n ≤ 3652058 → ¬ IsWeek n y wk x) :
    Calls Tryz.prog 27 #[.int .i64 (y : Int), .int .i64 (wk : Int), .int .i64 (x : Int)] w (GivesA w #[.int .i64 0, .int .i64 8]) := by
  obtain ⟨p, rfl⟩ : ∃ p, y = p + 1 := ⟨y - 1, by omega⟩
  rw [show ((p + 1 : Nat) : Int) = (p : Int) + 1 by omega]
  by_cases q : mon p + 7 * (wk - 1) + (x - 1) ≤ 3652058
  · have hb := (weekBack (y := p + 1) (n := mon p + 7 * (wk - 1) + (x - 1)) hy1 e3 e5 e6 rfl).1
    refine RWeekDay_badx _ p wk x w hy9 e3 e4 e5 e6 rfl q ?_
    rcases Nat.lt_or_ge (mon p + 7 * (wk - 1) + (x - 1) - (x - 1)) (mon (p + 1)) with a | a
    · exact absurd (hb a) (h _ q)
    · exact a
  · exact RWeekDay_outx _ p wk x w hy9 e3 e4 e5 e6 rfl (by omega)
set_option maxHeartbeats 1600000 in
theorem RWeekDay_arg (y wk x : Int) (w : World) (h : ¬ ((1 ≤ y ∧ y ≤ 9999) ∧ (1 ≤ wk ∧ wk ≤ 53) ∧ (1 ≤ x ∧ x ≤ 7))) : Calls Tryz.prog 27 #[.int .i64 y, .int .i64 wk, .int .i64 x] w (GivesA w #[.int .i64 0, .int .i64 1]) := by
  have KY := fun W => Lib.hid (RinYears_any y W)
  by_cases hy : 1 ≤ y ∧ y ≤ 9999
  · rw [inR_true hy.1 hy.2] at KY
    by_cases t0 : wk < 1
    · clear h hy
      go_enter Tryz.func27, Tryz.ntmps27
      go_wp2_with (first
        | (go_at_call 48; refine Calls.mono (KY _).out ?_; rintro e W1 ⟨rfl, rfl⟩))
      refine bodyPost_ret (v := .agg #[.int .i64 0, .int .i64 1]) (by simp [results, Tryz.results27, go_sem]) rfl ?_
      exact ⟨rfl, Bl.alloc (Below.refl _ w) _⟩
    by_cases t1 : 53 < wk
    · clear h hy
      go_enter Tryz.func27, Tryz.ntmps27
      go_wp2_with (first
        | (go_at_call 48; refine Calls.mono (KY _).out ?_; rintro e W1 ⟨rfl, rfl⟩))
      refine bodyPost_ret (v := .agg #[.int .i64 0, .int .i64 1]) (by simp [results, Tryz.results27, go_sem]) rfl ?_
      exact ⟨rfl, Bl.alloc (Below.refl _ w) _⟩
    by_cases t2 : x < 1
    · clear h hy
      go_enter Tryz.func27, Tryz.ntmps27
      go_wp2_with (first
        | (go_at_call 48; refine Calls.mono (KY _).out ?_; rintro e W1 ⟨rfl, rfl⟩))
      refine bodyPost_ret (v := .agg #[.int .i64 0, .int .i64 1]) (by simp [results, Tryz.results27, go_sem]) rfl ?_
      exact ⟨rfl, Bl.alloc (Below.refl _ w) _⟩
    by_cases t3 : 7 < x
    · clear h hy
      go_enter Tryz.func27, Tryz.ntmps27
      go_wp2_with (first
        | (go_at_call 48; refine Calls.mono (KY _).out ?_; rintro e W1 ⟨rfl, rfl⟩))
      refine bodyPost_ret (v := .agg #[.int .i64 0, .int .i64 1]) (by simp [results, Tryz.results27, go_sem]) rfl ?_
      exact ⟨rfl, Bl.alloc (Below.refl _ w) _⟩
    exact absurd ⟨hy, by omega, by omega⟩ h
  · rw [inR_false hy] at KY
    clear h hy
    go_enter Tryz.func27, Tryz.ntmps27
    go_wp2_with (first
      | (go_at_call 48; refine Calls.mono (KY _).out ?_; rintro e W1 ⟨rfl, rfl⟩))
    refine bodyPost_ret (v := .agg #[.int .i64 0, .int .i64 1]) (by simp [results, Tryz.results27, go_sem]) rfl ?_
    exact ⟨rfl, Bl.alloc (Below.refl _ w) _⟩
end Go.Proofs.YtmjifmlibgpjiaaGreatDoor
