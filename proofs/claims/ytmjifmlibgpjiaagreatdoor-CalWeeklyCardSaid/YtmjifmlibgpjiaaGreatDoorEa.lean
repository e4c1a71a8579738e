/- CalWeekly, as a call. -/
import Derived.Test.YtmjifmlibgpjiaaGreatDoorDv
import Derived.Test.YtmjifmlibgpjiaaGreatDoorTw
namespace Go.Proofs.YtmjifmlibgpjiaaGreatDoor
open Go.RowKit Go.Shelf Tx Go.Maps
set_option linter.unusedVariables false
set_option maxRecDepth 100000

theorem cwFacts (n y w d k : Int) (n0 : 0 ≤ n) (n9 : n ≤ 3652058) (y0 : 0 ≤ y) (y9 : y ≤ 10000) (w0 : 1 ≤ w) (w9 : w ≤ 53) (d0 : 1 ≤ d) (d9 : d ≤ 7) (hk : k + 1 = d) :
    (IntKind.i64.wrap (n + 1) = n + 1 ∧ wrap64 (n + 1) = n + 1) ∧ (IntKind.i64.wrap (k + 1) = d ∧ wrap64 (k + 1) = d) ∧ (IntKind.i64.wrap (d + 1) = d + 1 ∧ wrap64 (d + 1) = d + 1) ∧ (IntKind.i64.wrap (w + 1) = w + 1 ∧ wrap64 (w + 1) = w + 1) ∧ (IntKind.i64.wrap (y + 1) = y + 1 ∧ wrap64 (y + 1) = y + 1) ∧ ¬ w < 1 ∧ ¬ 53 < w ∧ (y + 1 == y) = false := by
  rw [hk]
  refine ⟨⟨?_, ?_⟩, ⟨?_, ?_⟩, ⟨?_, ?_⟩, ⟨?_, ?_⟩, ⟨?_, ?_⟩, ?_, ?_, ?_⟩
  all_goals first | exact i64i' (by omega) (by omega) | exact w64 (by omega) (by omega) | omega | (rw [beq_eq_false_iff_ne]; omega)
set_option maxHeartbeats 2000000 in
theorem cw_last (y w d k : Int) (W0 : World) (hE : Env W0) (n0 : 0 ≤ (3652058 : Int)) (n9 : (3652058 : Int) ≤ 3652058) (y0 : 0 ≤ y) (y9 : y ≤ 10000) (w0 : 1 ≤ w) (w9 : w ≤ 53) (d0 : 1 ≤ (d : Int)) (d9 : (d : Int) ≤ 7) (hk : (k : Int) + 1 = d) 
    (KA : ∀ W, Calls Tryz.prog 24 #[.int .i64 3652058] W (Gives W #[.int .i64 y, .int .i64 w, .int .i64 d, .int .i64 0])) (KB : ∀ W, Calls Tryz.prog 26 #[.int .i64 y, .int .i64 w, .int .i64 d] W (Gives W #[.int .i64 3652058, .int .i64 0])) (KC : ∀ W, Calls Tryz.prog 19 #[.int .i64 3652058] W (Gives W #[.int .i64 k, .int .i64 0])) (KN : ∀ W, Calls Tryz.prog 24 #[.int .i64 3652059] W (Gives W #[.int .i64 0, .int .i64 0, .int .i64 0, .int .i64 1])) :
    Calls Tryz.prog 9 #[.int .i64 3652058] W0 fun e w' => e = .returned (.bool true) ∧ Below W0.heap.size W0 w' := by
  have F := Lib.hid (cwFacts 3652058 y w d k n0 n9 y0 y9 w0 w9 d0 d9 hk)
  have K1 := fun W => Lib.hid (KA W)
  have K2 := fun W => Lib.hid (KB W)
  have K3 := fun W => Lib.hid (KC W)
  have K4 := fun W => Lib.hid (KN W)
  have K5 := fun W (hW : Env W) => Lib.hid (sane_any W hW)
  have HE := Lib.hid hE
  clear KA KB KC KN hE n0 n9 y0 y9 w0 w9 d0 d9 hk
  obtain ⟨⟨f1, f2⟩, ⟨f3, f4⟩, ⟨f5, f6⟩, ⟨f7, f8⟩, ⟨f9, f10⟩, f11, f12, f13⟩ := F.out
  clear F
  have B0 := Lib.hid (Below.refl W0.heap.size W0)
  go_enter Tryz.func9, Tryz.ntmps9
  go_wp2_with (first
    | (go_at_call 24; have hz := B0; refine Calls.mono (K1 _).out ?_; rintro e w1 ⟨rfl, hb⟩; have B1 := Lib.hid (Bl.step B0.out hb); clear hb hz B0)
    | (go_at_call 26; refine Calls.mono (K2 _).out ?_; rintro e w2 ⟨rfl, hb⟩; have B2 := Lib.hid (Bl.step B1.out hb); clear hb)
    | (go_at_call 19; refine Calls.mono (K3 _).out ?_; rintro e w3 ⟨rfl, hb⟩; have B3 := Lib.hid (Bl.step B2.out hb); clear hb)
    | (go_at_call 24; have hz := B3; refine Calls.mono (K4 _).out ?_; rintro e w4 ⟨rfl, hb⟩; have B4 := Lib.hid (Bl.step B3.out hb); clear hb hz)
    | (go_at_call 23; refine Calls.mono (K5 _ (HE.out.below B4.out)).out ?_; rintro e w5 ⟨rfl, hb⟩; have B5 := Lib.hid (Bl.step B4.out hb); clear hb))
  go_ret
  exact ⟨by first | rfl | simp, B5.out⟩
set_option maxHeartbeats 2000000 in
theorem cw_in (n y w d k : Int) (W0 : World) (hE : Env W0) (n0 : 0 ≤ (n : Int)) (n9 : (n : Int) ≤ 3652058) (y0 : 0 ≤ y) (y9 : y ≤ 10000) (w0 : 1 ≤ w) (w9 : w ≤ 53) (d0 : 1 ≤ (d : Int)) (d9 : (d : Int) ≤ 7) (hk : (k : Int) + 1 = d) (h7 : d < 7)
    (KA : ∀ W, Calls Tryz.prog 24 #[.int .i64 n] W (Gives W #[.int .i64 y, .int .i64 w, .int .i64 d, .int .i64 0])) (KB : ∀ W, Calls Tryz.prog 26 #[.int .i64 y, .int .i64 w, .int .i64 d] W (Gives W #[.int .i64 n, .int .i64 0])) (KC : ∀ W, Calls Tryz.prog 19 #[.int .i64 n] W (Gives W #[.int .i64 k, .int .i64 0])) (KN : ∀ W, Calls Tryz.prog 24 #[.int .i64 (n + 1)] W (Gives W #[.int .i64 y, .int .i64 w, .int .i64 (d + 1), .int .i64 0])) :
    Calls Tryz.prog 9 #[.int .i64 n] W0 fun e w' => e = .returned (.bool true) ∧ Below W0.heap.size W0 w' := by
  have F := Lib.hid (cwFacts n y w d k n0 n9 y0 y9 w0 w9 d0 d9 hk)
  have K1 := fun W => Lib.hid (KA W)
  have K2 := fun W => Lib.hid (KB W)
  have K3 := fun W => Lib.hid (KC W)
  have K4 := fun W => Lib.hid (KN W)
  have K5 := fun W (hW : Env W) => Lib.hid (sane_any W hW)
  have HE := Lib.hid hE
  clear KA KB KC KN hE n0 n9 y0 y9 w0 w9 d0 d9 hk
  obtain ⟨⟨f1, f2⟩, ⟨f3, f4⟩, ⟨f5, f6⟩, ⟨f7, f8⟩, ⟨f9, f10⟩, f11, f12, f13⟩ := F.out
  clear F
  have B0 := Lib.hid (Below.refl W0.heap.size W0)
  go_enter Tryz.func9, Tryz.ntmps9
  go_wp2_with (first
    | (go_at_call 24; have hz := B0; refine Calls.mono (K1 _).out ?_; rintro e w1 ⟨rfl, hb⟩; have B1 := Lib.hid (Bl.step B0.out hb); clear hb hz B0)
    | (go_at_call 26; refine Calls.mono (K2 _).out ?_; rintro e w2 ⟨rfl, hb⟩; have B2 := Lib.hid (Bl.step B1.out hb); clear hb)
    | (go_at_call 19; refine Calls.mono (K3 _).out ?_; rintro e w3 ⟨rfl, hb⟩; have B3 := Lib.hid (Bl.step B2.out hb); clear hb)
    | (go_at_call 24; have hz := B3; refine Calls.mono (K4 _).out ?_; rintro e w4 ⟨rfl, hb⟩; have B4 := Lib.hid (Bl.step B3.out hb); clear hb hz)
    | (go_at_call 23; refine Calls.mono (K5 _ (HE.out.below B4.out)).out ?_; rintro e w5 ⟨rfl, hb⟩; have B5 := Lib.hid (Bl.step B4.out hb); clear hb))
  go_ret
  exact ⟨by first | rfl | simp, B5.out⟩
set_option maxHeartbeats 2000000 in
theorem cw_same (n y w : Int) (W0 : World) (hE : Env W0) (n0 : 0 ≤ (n : Int)) (n9 : (n : Int) ≤ 3652058) (y0 : 0 ≤ y) (y9 : y ≤ 10000) (w0 : 1 ≤ w) (w9 : w ≤ 53) (d0 : 1 ≤ (7 : Int)) (d9 : (7 : Int) ≤ 7) (hk : (6 : Int) + 1 = 7) 
    (KA : ∀ W, Calls Tryz.prog 24 #[.int .i64 n] W (Gives W #[.int .i64 y, .int .i64 w, .int .i64 7, .int .i64 0])) (KB : ∀ W, Calls Tryz.prog 26 #[.int .i64 y, .int .i64 w, .int .i64 7] W (Gives W #[.int .i64 n, .int .i64 0])) (KC : ∀ W, Calls Tryz.prog 19 #[.int .i64 n] W (Gives W #[.int .i64 6, .int .i64 0])) (KN : ∀ W, Calls Tryz.prog 24 #[.int .i64 (n + 1)] W (Gives W #[.int .i64 y, .int .i64 (w + 1), .int .i64 1, .int .i64 0])) :
    Calls Tryz.prog 9 #[.int .i64 n] W0 fun e w' => e = .returned (.bool true) ∧ Below W0.heap.size W0 w' := by
  have F := Lib.hid (cwFacts n y w 7 6 n0 n9 y0 y9 w0 w9 d0 d9 hk)
  have K1 := fun W => Lib.hid (KA W)
  have K2 := fun W => Lib.hid (KB W)
  have K3 := fun W => Lib.hid (KC W)
  have K4 := fun W => Lib.hid (KN W)
  have K5 := fun W (hW : Env W) => Lib.hid (sane_any W hW)
  have HE := Lib.hid hE
  clear KA KB KC KN hE n0 n9 y0 y9 w0 w9 d0 d9 hk
  obtain ⟨⟨f1, f2⟩, ⟨f3, f4⟩, ⟨f5, f6⟩, ⟨f7, f8⟩, ⟨f9, f10⟩, f11, f12, f13⟩ := F.out
  clear F
  have B0 := Lib.hid (Below.refl W0.heap.size W0)
  go_enter Tryz.func9, Tryz.ntmps9
  go_wp2_with (first
    | (go_at_call 24; have hz := B0; refine Calls.mono (K1 _).out ?_; rintro e w1 ⟨rfl, hb⟩; have B1 := Lib.hid (Bl.step B0.out hb); clear hb hz B0)
    | (go_at_call 26; refine Calls.mono (K2 _).out ?_; rintro e w2 ⟨rfl, hb⟩; have B2 := Lib.hid (Bl.step B1.out hb); clear hb)
    | (go_at_call 19; refine Calls.mono (K3 _).out ?_; rintro e w3 ⟨rfl, hb⟩; have B3 := Lib.hid (Bl.step B2.out hb); clear hb)
    | (go_at_call 24; have hz := B3; refine Calls.mono (K4 _).out ?_; rintro e w4 ⟨rfl, hb⟩; have B4 := Lib.hid (Bl.step B3.out hb); clear hb hz)
    | (go_at_call 23; refine Calls.mono (K5 _ (HE.out.below B4.out)).out ?_; rintro e w5 ⟨rfl, hb⟩; have B5 := Lib.hid (Bl.step B4.out hb); clear hb))
  go_ret
  exact ⟨by first | rfl | simp, B5.out⟩
set_option maxHeartbeats 2000000 in
theorem cw_next (n y w : Int) (W0 : World) (hE : Env W0) (n0 : 0 ≤ (n : Int)) (n9 : (n : Int) ≤ 3652058) (y0 : 0 ≤ y) (y9 : y ≤ 10000) (w0 : 1 ≤ w) (w9 : w ≤ 53) (d0 : 1 ≤ (7 : Int)) (d9 : (7 : Int) ≤ 7) (hk : (6 : Int) + 1 = 7) (h52 : 52 ≤ w)
    (KA : ∀ W, Calls Tryz.prog 24 #[.int .i64 n] W (Gives W #[.int .i64 y, .int .i64 w, .int .i64 7, .int .i64 0])) (KB : ∀ W, Calls Tryz.prog 26 #[.int .i64 y, .int .i64 w, .int .i64 7] W (Gives W #[.int .i64 n, .int .i64 0])) (KC : ∀ W, Calls Tryz.prog 19 #[.int .i64 n] W (Gives W #[.int .i64 6, .int .i64 0])) (KN : ∀ W, Calls Tryz.prog 24 #[.int .i64 (n + 1)] W (Gives W #[.int .i64 (y + 1), .int .i64 1, .int .i64 1, .int .i64 0])) :
    Calls Tryz.prog 9 #[.int .i64 n] W0 fun e w' => e = .returned (.bool true) ∧ Below W0.heap.size W0 w' := by
  have F := Lib.hid (cwFacts n y w 7 6 n0 n9 y0 y9 w0 w9 d0 d9 hk)
  have K1 := fun W => Lib.hid (KA W)
  have K2 := fun W => Lib.hid (KB W)
  have K3 := fun W => Lib.hid (KC W)
  have K4 := fun W => Lib.hid (KN W)
  have K5 := fun W (hW : Env W) => Lib.hid (sane_any W hW)
  have HE := Lib.hid hE
  clear KA KB KC KN hE n0 n9 y0 y9 w0 w9 d0 d9 hk
  obtain ⟨⟨f1, f2⟩, ⟨f3, f4⟩, ⟨f5, f6⟩, ⟨f7, f8⟩, ⟨f9, f10⟩, f11, f12, f13⟩ := F.out
  clear F
  have B0 := Lib.hid (Below.refl W0.heap.size W0)
  go_enter Tryz.func9, Tryz.ntmps9
  go_wp2_with (first
    | (go_at_call 24; have hz := B0; refine Calls.mono (K1 _).out ?_; rintro e w1 ⟨rfl, hb⟩; have B1 := Lib.hid (Bl.step B0.out hb); clear hb hz B0)
    | (go_at_call 26; refine Calls.mono (K2 _).out ?_; rintro e w2 ⟨rfl, hb⟩; have B2 := Lib.hid (Bl.step B1.out hb); clear hb)
    | (go_at_call 19; refine Calls.mono (K3 _).out ?_; rintro e w3 ⟨rfl, hb⟩; have B3 := Lib.hid (Bl.step B2.out hb); clear hb)
    | (go_at_call 24; have hz := B3; refine Calls.mono (K4 _).out ?_; rintro e w4 ⟨rfl, hb⟩; have B4 := Lib.hid (Bl.step B3.out hb); clear hb hz)
    | (go_at_call 23; refine Calls.mono (K5 _ (HE.out.below B4.out)).out ?_; rintro e w5 ⟨rfl, hb⟩; have B5 := Lib.hid (Bl.step B4.out hb); clear hb))
  go_ret
  exact ⟨by first | rfl | simp, B5.out⟩
set_option maxHeartbeats 2000000 in
theorem cw_bad (n : Int) (w : World) (hE : Env w) (h : ¬ (0 ≤ n ∧ n ≤ 3652058)) : Calls Tryz.prog 9 #[.int .i64 n] w fun e w' => e = .returned (.bool true) ∧ Below w.heap.size w w' := by
  have K1 := fun W => Lib.hid (Week_bad n W h)
  have K5 := fun W (hW : Env W) => Lib.hid (sane_any W hW)
  have HE := Lib.hid hE
  clear hE
  rcases Int.lt_or_le n 0 with hn | hn
  · clear h
    go_enter Tryz.func9, Tryz.ntmps9
    go_wp2_with (first
      | (go_at_call 24; refine Calls.mono (K1 _).out ?_; rintro e w1 ⟨rfl, hb⟩; have B1 := Lib.hid hb; clear hb)
      | (go_at_call 23; refine Calls.mono (K5 _ (HE.out.below B1.out)).out ?_; rintro e w5 ⟨rfl, hb⟩; have B5 := Lib.hid (Bl.step B1.out hb); clear hb))
    go_ret
    exact ⟨by first | rfl | simp, B5.out⟩
  · have h2 : 3652058 < n := by omega
    have h3 : ¬ (n < 0) := by omega
    clear h hn
    go_enter Tryz.func9, Tryz.ntmps9
    go_wp2_with (first
      | (go_at_call 24; refine Calls.mono (K1 _).out ?_; rintro e w1 ⟨rfl, hb⟩; have B1 := Lib.hid hb; clear hb)
      | (go_at_call 23; refine Calls.mono (K5 _ (HE.out.below B1.out)).out ?_; rintro e w5 ⟨rfl, hb⟩; have B5 := Lib.hid (Bl.step B1.out hb); clear hb))
    go_ret
    exact ⟨by first | rfl | simp, B5.out⟩
theorem CalWeekly_any (n : Int) (w : World) (hE : Env w) : Calls Tryz.prog 9 #[.int .i64 n] w fun e w' => e = .returned (.bool true) ∧ Below w.heap.size w w' := by
  by_cases h : 0 ≤ n ∧ n ≤ 3652058
  · obtain ⟨k, rfl⟩ : ∃ k : Nat, n = (k : Int) := ⟨n.toNat, by omega⟩
    have hk : k ≤ 3652058 := by omega
    obtain ⟨y, wk, x, hw⟩ := isWeek_ex k
    obtain ⟨_, _, a1, a2, a3, a4⟩ := weekOfBack hw
    have hy9 : y ≤ 10000 := by have := hw.yr.le (thu_le hk); omega
    have hwd := hw.wd
    have KA := fun W => Week_ok k y wk x W hw hk
    have KB := fun W => WeekDay_ok k y wk x W hw hk
    have KC := fun W => Weekday_ok k W hk
    rcases Nat.lt_or_ge k 3652058 with hl | hl
    · rcases Nat.lt_or_ge x 7 with h7 | h7
      · have hn := (weekNext hw).1 h7
        exact cw_in k y wk x ((k % 7 : Nat) : Int) w hE (by omega) (by omega) (by omega) (by omega) (by omega) (by omega) (by omega) (by omega) (by omega) (by omega) KA KB KC (fun W => Week_ok (k + 1) y wk (x + 1) W hn hl)
      · have e7 : x = 7 := by omega
        subst e7
        rw [show ((k % 7 : Nat) : Int) = 6 by omega] at KC
        rcases (weekNext hw).2 rfl with hn | ⟨hn, h52⟩
        · exact cw_same k y wk w hE (by omega) (by omega) (by omega) (by omega) (by omega) (by omega) (by omega) (by omega) (by omega) KA KB KC (fun W => Week_ok (k + 1) y (wk + 1) 1 W hn hl)
        · exact cw_next k y wk w hE (by omega) (by omega) (by omega) (by omega) (by omega) (by omega) (by omega) (by omega) (by omega) (by omega) KA KB KC (fun W => Week_ok (k + 1) (y + 1) 1 1 W hn hl)
    · have e := (show k = 3652058 by omega)
      have ei : (k : Int) = 3652058 := by omega
      rw [ei] at KA KB KC ⊢
      exact cw_last y wk x ((k % 7 : Nat) : Int) w hE (by omega) (by omega) (by omega) (by omega) (by omega) (by omega) (by omega) (by omega) (by omega) KA KB KC (fun W => Week_bad 3652059 W (by omega))
  · exact cw_bad n w hE h
end Go.Proofs.YtmjifmlibgpjiaaGreatDoor
