/- CalBijection, as a call. -/
import Derived.Test.YtmjifmlibgpjiaaGreatDoorDv
import Derived.Test.YtmjifmlibgpjiaaGreatDoorTb
namespace Go.Proofs.YtmjifmlibgpjiaaGreatDoor
open Go.RowKit Go.Shelf Tx Go.Maps
set_option linter.unusedVariables false
set_option maxRecDepth 100000

theorem cbFacts (n y m d : Int) (n0 : 0 ≤ n) (n9 : n ≤ 3652058) (y0 : 1 ≤ y) (y9 : y ≤ 9999) (m0 : 1 ≤ m) (m9 : m ≤ 12) (d0 : 1 ≤ d) (d9 : d ≤ 31) :
    (IntKind.i64.wrap (n + 1) = n + 1 ∧ wrap64 (n + 1) = n + 1) ∧ (IntKind.i64.wrap (n + 146097) = n + 146097 ∧ wrap64 (n + 146097) = n + 146097) ∧ (IntKind.i64.wrap (y + 1) = y + 1 ∧ wrap64 (y + 1) = y + 1) ∧ (IntKind.i64.wrap (y + 400) = y + 400 ∧ wrap64 (y + 400) = y + 400) ∧ (IntKind.i64.wrap (m + 1) = m + 1 ∧ wrap64 (m + 1) = m + 1) ∧ (IntKind.i64.wrap (d + 1) = d + 1 ∧ wrap64 (d + 1) = d + 1) ∧ (m + 1 == m) = false ∧ (y + 1 == y) = false := by
  refine ⟨⟨?_, ?_⟩, ⟨?_, ?_⟩, ⟨?_, ?_⟩, ⟨?_, ?_⟩, ⟨?_, ?_⟩, ⟨?_, ?_⟩, ?_, ?_⟩
  all_goals first | exact i64i' (by omega) (by omega) | exact w64 (by omega) (by omega) | (rw [beq_eq_false_iff_ne]; omega)
set_option maxHeartbeats 4000000 in
theorem cb_1a (n y m d L : Int) (w : World) (hE : Env w) (n0 : 0 ≤ n) (n9 : n ≤ 3652058) (hn : ¬ n = 3652058) (y0 : 1 ≤ y) (y9 : y ≤ 9999) (m0 : 1 ≤ m) (m9 : m ≤ 12) (d0 : 1 ≤ d) (d9 : d ≤ 31) (hd : d < L)
    (KD : ∀ W, Calls Tryz.prog 17 #[.int .i64 n] W (Gives W #[.int .i64 y, .int .i64 m, .int .i64 d, .int .i64 0])) (KO : ∀ W, Calls Tryz.prog 15 #[.int .i64 y, .int .i64 m, .int .i64 d] W (Gives W #[.int .i64 n, .int .i64 0])) (KN : ∀ W, Calls Tryz.prog 17 #[.int .i64 (n + 1)] W (Gives W #[.int .i64 y, .int .i64 m, .int .i64 (d + 1), .int .i64 0])) (KL : ∀ W, Calls Tryz.prog 14 #[.int .i64 y, .int .i64 m] W (Gives W #[.int .i64 L, .int .i64 0])) (KF : ∀ W, Calls Tryz.prog 17 #[.int .i64 (n + 146097)] W (Gives W #[.int .i64 (y + 400), .int .i64 m, .int .i64 d, .int .i64 0])) :
    Calls Tryz.prog 8 #[.int .i64 n] w fun e w' => e = .returned (.bool true) ∧ Below w.heap.size w w' := by
  have F := Lib.hid (cbFacts n y m d n0 n9 y0 y9 m0 m9 d0 d9)
  have hd2 : (d == L) = false := by rw [beq_eq_false_iff_ne]; omega
  have hd3 : ¬ d = L := by omega
  have K1 := fun W => Lib.hid (KD W)
  have K2 := fun W => Lib.hid (KO W)
  have K3 := fun W => Lib.hid (KN W)
  have K4 := fun W => Lib.hid (KL W)
  have K5 := fun W => Lib.hid (KF W)
  have K6 := fun W (hW : Env W) => Lib.hid (sane_any W hW)
  have HE := Lib.hid hE
  clear KD KO KN KL KF hE n0 n9 y0 y9 m0 m9 d0 d9
  obtain ⟨⟨f1, f2⟩, ⟨f3, f4⟩, ⟨f5, f6⟩, ⟨f7, f8⟩, ⟨f9, f10⟩, ⟨f11, f12⟩, f13, f14⟩ := F.out
  clear F
  have B0 := Lib.hid (Below.refl w.heap.size w)
  go_enter Tryz.func8, Tryz.ntmps8
  go_wp2_with (first
    | (go_at_call 17; have hz := B0; refine Calls.mono (K1 _).out ?_; rintro e w1 ⟨rfl, hb⟩; have B1 := Lib.hid (Bl.step B0.out hb); clear hb hz B0)
    | (go_at_call 15; refine Calls.mono (K2 _).out ?_; rintro e w2 ⟨rfl, hb⟩; have B2 := Lib.hid (Bl.step B1.out hb); clear hb)
    | (go_at_call 17; have hz := B2; refine Calls.mono (K3 _).out ?_; rintro e w3 ⟨rfl, hb⟩; have B3 := Lib.hid (Bl.step B2.out hb); clear hb hz B2)
    | (go_at_call 14; refine Calls.mono (K4 _).out ?_; rintro e w4 ⟨rfl, hb⟩; have B4 := Lib.hid (Bl.step B3.out hb); clear hb)
    | (go_at_call 17; have hz := B4; refine Calls.mono (K5 _).out ?_; rintro e w5 ⟨rfl, hb⟩; have B5 := Lib.hid (Bl.step B4.out hb); clear hb hz)
    | (go_at_call 23; refine Calls.mono (K6 _ (HE.out.below B5.out)).out ?_; rintro e w6 ⟨rfl, hb⟩; have B6 := Lib.hid (Bl.step B5.out hb); clear hb))
  go_ret
  exact ⟨by first | rfl | simp, B6.out⟩
set_option maxHeartbeats 4000000 in
theorem cb_1b (n y m d L : Int) (w : World) (hE : Env w) (n0 : 0 ≤ n) (n9 : n ≤ 3652058) (hn : ¬ n = 3652058) (y0 : 1 ≤ y) (y9 : y ≤ 9999) (m0 : 1 ≤ m) (m9 : m ≤ 12) (d0 : 1 ≤ d) (d9 : d ≤ 31) (hd : d < L) (hy : 9599 < y)
    (KD : ∀ W, Calls Tryz.prog 17 #[.int .i64 n] W (Gives W #[.int .i64 y, .int .i64 m, .int .i64 d, .int .i64 0])) (KO : ∀ W, Calls Tryz.prog 15 #[.int .i64 y, .int .i64 m, .int .i64 d] W (Gives W #[.int .i64 n, .int .i64 0])) (KN : ∀ W, Calls Tryz.prog 17 #[.int .i64 (n + 1)] W (Gives W #[.int .i64 y, .int .i64 m, .int .i64 (d + 1), .int .i64 0])) (KL : ∀ W, Calls Tryz.prog 14 #[.int .i64 y, .int .i64 m] W (Gives W #[.int .i64 L, .int .i64 0])) (KF : ∀ W, Calls Tryz.prog 17 #[.int .i64 (n + 146097)] W (Gives W #[.int .i64 0, .int .i64 0, .int .i64 0, .int .i64 1])) :
    Calls Tryz.prog 8 #[.int .i64 n] w fun e w' => e = .returned (.bool true) ∧ Below w.heap.size w w' := by
  have F := Lib.hid (cbFacts n y m d n0 n9 y0 y9 m0 m9 d0 d9)
  have hd2 : (d == L) = false := by rw [beq_eq_false_iff_ne]; omega
  have hd3 : ¬ d = L := by omega
  have K1 := fun W => Lib.hid (KD W)
  have K2 := fun W => Lib.hid (KO W)
  have K3 := fun W => Lib.hid (KN W)
  have K4 := fun W => Lib.hid (KL W)
  have K5 := fun W => Lib.hid (KF W)
  have K6 := fun W (hW : Env W) => Lib.hid (sane_any W hW)
  have HE := Lib.hid hE
  clear KD KO KN KL KF hE n0 n9 y0 y9 m0 m9 d0 d9
  obtain ⟨⟨f1, f2⟩, ⟨f3, f4⟩, ⟨f5, f6⟩, ⟨f7, f8⟩, ⟨f9, f10⟩, ⟨f11, f12⟩, f13, f14⟩ := F.out
  clear F
  have B0 := Lib.hid (Below.refl w.heap.size w)
  go_enter Tryz.func8, Tryz.ntmps8
  go_wp2_with (first
    | (go_at_call 17; have hz := B0; refine Calls.mono (K1 _).out ?_; rintro e w1 ⟨rfl, hb⟩; have B1 := Lib.hid (Bl.step B0.out hb); clear hb hz B0)
    | (go_at_call 15; refine Calls.mono (K2 _).out ?_; rintro e w2 ⟨rfl, hb⟩; have B2 := Lib.hid (Bl.step B1.out hb); clear hb)
    | (go_at_call 17; have hz := B2; refine Calls.mono (K3 _).out ?_; rintro e w3 ⟨rfl, hb⟩; have B3 := Lib.hid (Bl.step B2.out hb); clear hb hz B2)
    | (go_at_call 14; refine Calls.mono (K4 _).out ?_; rintro e w4 ⟨rfl, hb⟩; have B4 := Lib.hid (Bl.step B3.out hb); clear hb)
    | (go_at_call 17; have hz := B4; refine Calls.mono (K5 _).out ?_; rintro e w5 ⟨rfl, hb⟩; have B5 := Lib.hid (Bl.step B4.out hb); clear hb hz)
    | (go_at_call 23; refine Calls.mono (K6 _ (HE.out.below B5.out)).out ?_; rintro e w6 ⟨rfl, hb⟩; have B6 := Lib.hid (Bl.step B5.out hb); clear hb))
  go_ret
  exact ⟨by first | rfl | simp, B6.out⟩
set_option maxHeartbeats 4000000 in
theorem cb_2a (n y m d L : Int) (w : World) (hE : Env w) (n0 : 0 ≤ n) (n9 : n ≤ 3652058) (hn : ¬ n = 3652058) (y0 : 1 ≤ y) (y9 : y ≤ 9999) (m0 : 1 ≤ m) (m9 : m ≤ 12) (d0 : 1 ≤ d) (d9 : d ≤ 31) (hd : d = L) (hm : m < 12)
    (KD : ∀ W, Calls Tryz.prog 17 #[.int .i64 n] W (Gives W #[.int .i64 y, .int .i64 m, .int .i64 d, .int .i64 0])) (KO : ∀ W, Calls Tryz.prog 15 #[.int .i64 y, .int .i64 m, .int .i64 d] W (Gives W #[.int .i64 n, .int .i64 0])) (KN : ∀ W, Calls Tryz.prog 17 #[.int .i64 (n + 1)] W (Gives W #[.int .i64 y, .int .i64 (m + 1), .int .i64 1, .int .i64 0])) (KL : ∀ W, Calls Tryz.prog 14 #[.int .i64 y, .int .i64 m] W (Gives W #[.int .i64 L, .int .i64 0])) (KF : ∀ W, Calls Tryz.prog 17 #[.int .i64 (n + 146097)] W (Gives W #[.int .i64 (y + 400), .int .i64 m, .int .i64 d, .int .i64 0])) :
    Calls Tryz.prog 8 #[.int .i64 n] w fun e w' => e = .returned (.bool true) ∧ Below w.heap.size w w' := by
  have F := Lib.hid (cbFacts n y m d n0 n9 y0 y9 m0 m9 d0 d9)
  subst hd
  have K1 := fun W => Lib.hid (KD W)
  have K2 := fun W => Lib.hid (KO W)
  have K3 := fun W => Lib.hid (KN W)
  have K4 := fun W => Lib.hid (KL W)
  have K5 := fun W => Lib.hid (KF W)
  have K6 := fun W (hW : Env W) => Lib.hid (sane_any W hW)
  have HE := Lib.hid hE
  clear KD KO KN KL KF hE n0 n9 y0 y9 m0 m9 d0 d9
  obtain ⟨⟨f1, f2⟩, ⟨f3, f4⟩, ⟨f5, f6⟩, ⟨f7, f8⟩, ⟨f9, f10⟩, ⟨f11, f12⟩, f13, f14⟩ := F.out
  clear F
  have B0 := Lib.hid (Below.refl w.heap.size w)
  go_enter Tryz.func8, Tryz.ntmps8
  go_wp2_with (first
    | (go_at_call 17; have hz := B0; refine Calls.mono (K1 _).out ?_; rintro e w1 ⟨rfl, hb⟩; have B1 := Lib.hid (Bl.step B0.out hb); clear hb hz B0)
    | (go_at_call 15; refine Calls.mono (K2 _).out ?_; rintro e w2 ⟨rfl, hb⟩; have B2 := Lib.hid (Bl.step B1.out hb); clear hb)
    | (go_at_call 17; have hz := B2; refine Calls.mono (K3 _).out ?_; rintro e w3 ⟨rfl, hb⟩; have B3 := Lib.hid (Bl.step B2.out hb); clear hb hz B2)
    | (go_at_call 14; refine Calls.mono (K4 _).out ?_; rintro e w4 ⟨rfl, hb⟩; have B4 := Lib.hid (Bl.step B3.out hb); clear hb)
    | (go_at_call 17; have hz := B4; refine Calls.mono (K5 _).out ?_; rintro e w5 ⟨rfl, hb⟩; have B5 := Lib.hid (Bl.step B4.out hb); clear hb hz)
    | (go_at_call 23; refine Calls.mono (K6 _ (HE.out.below B5.out)).out ?_; rintro e w6 ⟨rfl, hb⟩; have B6 := Lib.hid (Bl.step B5.out hb); clear hb))
  go_ret
  exact ⟨by first | rfl | simp, B6.out⟩
set_option maxHeartbeats 4000000 in
theorem cb_2b (n y m d L : Int) (w : World) (hE : Env w) (n0 : 0 ≤ n) (n9 : n ≤ 3652058) (hn : ¬ n = 3652058) (y0 : 1 ≤ y) (y9 : y ≤ 9999) (m0 : 1 ≤ m) (m9 : m ≤ 12) (d0 : 1 ≤ d) (d9 : d ≤ 31) (hd : d = L) (hm : m < 12) (hy : 9599 < y)
    (KD : ∀ W, Calls Tryz.prog 17 #[.int .i64 n] W (Gives W #[.int .i64 y, .int .i64 m, .int .i64 d, .int .i64 0])) (KO : ∀ W, Calls Tryz.prog 15 #[.int .i64 y, .int .i64 m, .int .i64 d] W (Gives W #[.int .i64 n, .int .i64 0])) (KN : ∀ W, Calls Tryz.prog 17 #[.int .i64 (n + 1)] W (Gives W #[.int .i64 y, .int .i64 (m + 1), .int .i64 1, .int .i64 0])) (KL : ∀ W, Calls Tryz.prog 14 #[.int .i64 y, .int .i64 m] W (Gives W #[.int .i64 L, .int .i64 0])) (KF : ∀ W, Calls Tryz.prog 17 #[.int .i64 (n + 146097)] W (Gives W #[.int .i64 0, .int .i64 0, .int .i64 0, .int .i64 1])) :
    Calls Tryz.prog 8 #[.int .i64 n] w fun e w' => e = .returned (.bool true) ∧ Below w.heap.size w w' := by
  have F := Lib.hid (cbFacts n y m d n0 n9 y0 y9 m0 m9 d0 d9)
  subst hd
  have K1 := fun W => Lib.hid (KD W)
  have K2 := fun W => Lib.hid (KO W)
  have K3 := fun W => Lib.hid (KN W)
  have K4 := fun W => Lib.hid (KL W)
  have K5 := fun W => Lib.hid (KF W)
  have K6 := fun W (hW : Env W) => Lib.hid (sane_any W hW)
  have HE := Lib.hid hE
  clear KD KO KN KL KF hE n0 n9 y0 y9 m0 m9 d0 d9
  obtain ⟨⟨f1, f2⟩, ⟨f3, f4⟩, ⟨f5, f6⟩, ⟨f7, f8⟩, ⟨f9, f10⟩, ⟨f11, f12⟩, f13, f14⟩ := F.out
  clear F
  have B0 := Lib.hid (Below.refl w.heap.size w)
  go_enter Tryz.func8, Tryz.ntmps8
  go_wp2_with (first
    | (go_at_call 17; have hz := B0; refine Calls.mono (K1 _).out ?_; rintro e w1 ⟨rfl, hb⟩; have B1 := Lib.hid (Bl.step B0.out hb); clear hb hz B0)
    | (go_at_call 15; refine Calls.mono (K2 _).out ?_; rintro e w2 ⟨rfl, hb⟩; have B2 := Lib.hid (Bl.step B1.out hb); clear hb)
    | (go_at_call 17; have hz := B2; refine Calls.mono (K3 _).out ?_; rintro e w3 ⟨rfl, hb⟩; have B3 := Lib.hid (Bl.step B2.out hb); clear hb hz B2)
    | (go_at_call 14; refine Calls.mono (K4 _).out ?_; rintro e w4 ⟨rfl, hb⟩; have B4 := Lib.hid (Bl.step B3.out hb); clear hb)
    | (go_at_call 17; have hz := B4; refine Calls.mono (K5 _).out ?_; rintro e w5 ⟨rfl, hb⟩; have B5 := Lib.hid (Bl.step B4.out hb); clear hb hz)
    | (go_at_call 23; refine Calls.mono (K6 _ (HE.out.below B5.out)).out ?_; rintro e w6 ⟨rfl, hb⟩; have B6 := Lib.hid (Bl.step B5.out hb); clear hb))
  go_ret
  exact ⟨by first | rfl | simp, B6.out⟩
set_option maxHeartbeats 4000000 in
theorem cb_3a (n y m d L : Int) (w : World) (hE : Env w) (n0 : 0 ≤ n) (n9 : n ≤ 3652058) (hn : ¬ n = 3652058) (y0 : 1 ≤ y) (y9 : y ≤ 9999) (m0 : 1 ≤ m) (m9 : m ≤ 12) (d0 : 1 ≤ d) (d9 : d ≤ 31) (hd : d = L) (hm : m = 12)
    (KD : ∀ W, Calls Tryz.prog 17 #[.int .i64 n] W (Gives W #[.int .i64 y, .int .i64 m, .int .i64 d, .int .i64 0])) (KO : ∀ W, Calls Tryz.prog 15 #[.int .i64 y, .int .i64 m, .int .i64 d] W (Gives W #[.int .i64 n, .int .i64 0])) (KN : ∀ W, Calls Tryz.prog 17 #[.int .i64 (n + 1)] W (Gives W #[.int .i64 (y + 1), .int .i64 1, .int .i64 1, .int .i64 0])) (KL : ∀ W, Calls Tryz.prog 14 #[.int .i64 y, .int .i64 m] W (Gives W #[.int .i64 L, .int .i64 0])) (KF : ∀ W, Calls Tryz.prog 17 #[.int .i64 (n + 146097)] W (Gives W #[.int .i64 (y + 400), .int .i64 m, .int .i64 d, .int .i64 0])) :
    Calls Tryz.prog 8 #[.int .i64 n] w fun e w' => e = .returned (.bool true) ∧ Below w.heap.size w w' := by
  have F := Lib.hid (cbFacts n y m d n0 n9 y0 y9 m0 m9 d0 d9)
  subst hd
  subst hm
  have K1 := fun W => Lib.hid (KD W)
  have K2 := fun W => Lib.hid (KO W)
  have K3 := fun W => Lib.hid (KN W)
  have K4 := fun W => Lib.hid (KL W)
  have K5 := fun W => Lib.hid (KF W)
  have K6 := fun W (hW : Env W) => Lib.hid (sane_any W hW)
  have HE := Lib.hid hE
  clear KD KO KN KL KF hE n0 n9 y0 y9 m0 m9 d0 d9
  obtain ⟨⟨f1, f2⟩, ⟨f3, f4⟩, ⟨f5, f6⟩, ⟨f7, f8⟩, ⟨f9, f10⟩, ⟨f11, f12⟩, f13, f14⟩ := F.out
  clear F
  have B0 := Lib.hid (Below.refl w.heap.size w)
  go_enter Tryz.func8, Tryz.ntmps8
  go_wp2_with (first
    | (go_at_call 17; have hz := B0; refine Calls.mono (K1 _).out ?_; rintro e w1 ⟨rfl, hb⟩; have B1 := Lib.hid (Bl.step B0.out hb); clear hb hz B0)
    | (go_at_call 15; refine Calls.mono (K2 _).out ?_; rintro e w2 ⟨rfl, hb⟩; have B2 := Lib.hid (Bl.step B1.out hb); clear hb)
    | (go_at_call 17; have hz := B2; refine Calls.mono (K3 _).out ?_; rintro e w3 ⟨rfl, hb⟩; have B3 := Lib.hid (Bl.step B2.out hb); clear hb hz B2)
    | (go_at_call 14; refine Calls.mono (K4 _).out ?_; rintro e w4 ⟨rfl, hb⟩; have B4 := Lib.hid (Bl.step B3.out hb); clear hb)
    | (go_at_call 17; have hz := B4; refine Calls.mono (K5 _).out ?_; rintro e w5 ⟨rfl, hb⟩; have B5 := Lib.hid (Bl.step B4.out hb); clear hb hz)
    | (go_at_call 23; refine Calls.mono (K6 _ (HE.out.below B5.out)).out ?_; rintro e w6 ⟨rfl, hb⟩; have B6 := Lib.hid (Bl.step B5.out hb); clear hb))
  go_ret
  exact ⟨by first | rfl | simp, B6.out⟩
set_option maxHeartbeats 4000000 in
theorem cb_3b (n y m d L : Int) (w : World) (hE : Env w) (n0 : 0 ≤ n) (n9 : n ≤ 3652058) (hn : ¬ n = 3652058) (y0 : 1 ≤ y) (y9 : y ≤ 9999) (m0 : 1 ≤ m) (m9 : m ≤ 12) (d0 : 1 ≤ d) (d9 : d ≤ 31) (hd : d = L) (hm : m = 12) (hy : 9599 < y)
    (KD : ∀ W, Calls Tryz.prog 17 #[.int .i64 n] W (Gives W #[.int .i64 y, .int .i64 m, .int .i64 d, .int .i64 0])) (KO : ∀ W, Calls Tryz.prog 15 #[.int .i64 y, .int .i64 m, .int .i64 d] W (Gives W #[.int .i64 n, .int .i64 0])) (KN : ∀ W, Calls Tryz.prog 17 #[.int .i64 (n + 1)] W (Gives W #[.int .i64 (y + 1), .int .i64 1, .int .i64 1, .int .i64 0])) (KL : ∀ W, Calls Tryz.prog 14 #[.int .i64 y, .int .i64 m] W (Gives W #[.int .i64 L, .int .i64 0])) (KF : ∀ W, Calls Tryz.prog 17 #[.int .i64 (n + 146097)] W (Gives W #[.int .i64 0, .int .i64 0, .int .i64 0, .int .i64 1])) :
    Calls Tryz.prog 8 #[.int .i64 n] w fun e w' => e = .returned (.bool true) ∧ Below w.heap.size w w' := by
  have F := Lib.hid (cbFacts n y m d n0 n9 y0 y9 m0 m9 d0 d9)
  subst hd
  subst hm
  have K1 := fun W => Lib.hid (KD W)
  have K2 := fun W => Lib.hid (KO W)
  have K3 := fun W => Lib.hid (KN W)
  have K4 := fun W => Lib.hid (KL W)
  have K5 := fun W => Lib.hid (KF W)
  have K6 := fun W (hW : Env W) => Lib.hid (sane_any W hW)
  have HE := Lib.hid hE
  clear KD KO KN KL KF hE n0 n9 y0 y9 m0 m9 d0 d9
  obtain ⟨⟨f1, f2⟩, ⟨f3, f4⟩, ⟨f5, f6⟩, ⟨f7, f8⟩, ⟨f9, f10⟩, ⟨f11, f12⟩, f13, f14⟩ := F.out
  clear F
  have B0 := Lib.hid (Below.refl w.heap.size w)
  go_enter Tryz.func8, Tryz.ntmps8
  go_wp2_with (first
    | (go_at_call 17; have hz := B0; refine Calls.mono (K1 _).out ?_; rintro e w1 ⟨rfl, hb⟩; have B1 := Lib.hid (Bl.step B0.out hb); clear hb hz B0)
    | (go_at_call 15; refine Calls.mono (K2 _).out ?_; rintro e w2 ⟨rfl, hb⟩; have B2 := Lib.hid (Bl.step B1.out hb); clear hb)
    | (go_at_call 17; have hz := B2; refine Calls.mono (K3 _).out ?_; rintro e w3 ⟨rfl, hb⟩; have B3 := Lib.hid (Bl.step B2.out hb); clear hb hz B2)
    | (go_at_call 14; refine Calls.mono (K4 _).out ?_; rintro e w4 ⟨rfl, hb⟩; have B4 := Lib.hid (Bl.step B3.out hb); clear hb)
    | (go_at_call 17; have hz := B4; refine Calls.mono (K5 _).out ?_; rintro e w5 ⟨rfl, hb⟩; have B5 := Lib.hid (Bl.step B4.out hb); clear hb hz)
    | (go_at_call 23; refine Calls.mono (K6 _ (HE.out.below B5.out)).out ?_; rintro e w6 ⟨rfl, hb⟩; have B6 := Lib.hid (Bl.step B5.out hb); clear hb))
  go_ret
  exact ⟨by first | rfl | simp, B6.out⟩
set_option maxHeartbeats 4000000 in
theorem cb_low (n : Int) (h : n < 0) (w : World) (hE : Env w) (KD : ∀ W, Calls Tryz.prog 17 #[.int .i64 n] W (Gives W #[.int .i64 0, .int .i64 0, .int .i64 0, .int .i64 1])) :
    Calls Tryz.prog 8 #[.int .i64 n] w fun e w' => e = .returned (.bool true) ∧ Below w.heap.size w w' := by
  have K1 := fun W => Lib.hid (KD W)
  have K6 := fun W (hW : Env W) => Lib.hid (sane_any W hW)
  have HE := Lib.hid hE
  clear KD hE
  go_enter Tryz.func8, Tryz.ntmps8
  go_wp2_with (first
    | (go_at_call 17; refine Calls.mono (K1 _).out ?_; rintro e w1 ⟨rfl, hb⟩; have B1 := Lib.hid hb; clear hb)
    | (go_at_call 23; refine Calls.mono (K6 _ (HE.out.below B1.out)).out ?_; rintro e w6 ⟨rfl, hb⟩; have B6 := Lib.hid (Bl.step B1.out hb); clear hb))
  go_ret
  exact ⟨by first | rfl | simp, B6.out⟩
set_option maxHeartbeats 4000000 in
theorem cb_high (n : Int) (h : 3652058 < n) (w : World) (hE : Env w) (KD : ∀ W, Calls Tryz.prog 17 #[.int .i64 n] W (Gives W #[.int .i64 0, .int .i64 0, .int .i64 0, .int .i64 1])) :
    Calls Tryz.prog 8 #[.int .i64 n] w fun e w' => e = .returned (.bool true) ∧ Below w.heap.size w w' := by
  have h2 : ¬ n < 0 := by omega
  have K1 := fun W => Lib.hid (KD W)
  have K6 := fun W (hW : Env W) => Lib.hid (sane_any W hW)
  have HE := Lib.hid hE
  clear KD hE
  go_enter Tryz.func8, Tryz.ntmps8
  go_wp2_with (first
    | (go_at_call 17; refine Calls.mono (K1 _).out ?_; rintro e w1 ⟨rfl, hb⟩; have B1 := Lib.hid hb; clear hb)
    | (go_at_call 23; refine Calls.mono (K6 _ (HE.out.below B1.out)).out ?_; rintro e w6 ⟨rfl, hb⟩; have B6 := Lib.hid (Bl.step B1.out hb); clear hb))
  go_ret
  exact ⟨by first | rfl | simp, B6.out⟩
set_option maxHeartbeats 4000000 in
theorem cb_last (n : Int) (y m d : Int) (h : n = 3652058) (w : World) (hE : Env w) (KD : ∀ W, Calls Tryz.prog 17 #[.int .i64 n] W (Gives W #[.int .i64 y, .int .i64 m, .int .i64 d, .int .i64 0])) :
    Calls Tryz.prog 8 #[.int .i64 n] w fun e w' => e = .returned (.bool true) ∧ Below w.heap.size w w' := by
  subst h
  have K1 := fun W => Lib.hid (KD W)
  have K6 := fun W (hW : Env W) => Lib.hid (sane_any W hW)
  have HE := Lib.hid hE
  clear KD hE
  go_enter Tryz.func8, Tryz.ntmps8
  go_wp2_with (first
    | (go_at_call 17; refine Calls.mono (K1 _).out ?_; rintro e w1 ⟨rfl, hb⟩; have B1 := Lib.hid hb; clear hb)
    | (go_at_call 23; refine Calls.mono (K6 _ (HE.out.below B1.out)).out ?_; rintro e w6 ⟨rfl, hb⟩; have B6 := Lib.hid (Bl.step B1.out hb); clear hb))
  go_ret
  exact ⟨by first | rfl | simp, B6.out⟩
theorem CalBijection_any (n : Int) (w : World) (hE : Env w) : Calls Tryz.prog 8 #[.int .i64 n] w fun e w' => e = .returned (.bool true) ∧ Below w.heap.size w w' := by
  by_cases h : 0 ≤ n ∧ n ≤ 3652058
  · obtain ⟨k, rfl⟩ : ∃ k : Nat, n = (k : Int) := ⟨n.toNat, by omega⟩
    have hk : k ≤ 3652058 := by omega
    obtain ⟨y, m, d, hd⟩ := isDate_ex k
    have h9 : y ≤ 9999 := hd.isYear.le hk
    by_cases hl : k = 3652058
    · exact cb_last k y m d (by omega) w hE (fun W => DateOf_ok k y m d W hd h9)
    · have KD := fun W => DateOf_ok k y m d W hd h9
      have KO := fun W => DayOf_ok k y m d W hd h9
      have KL := fun W => DaysIn_ok y m W hd.y1 h9 hd.m1 hd.m12
      have hk1 : k + 1 ≤ 3652058 := by omega
      obtain ⟨N1, N2, N3⟩ := dateNext hd
      have q1 := hd.y1
      have q2 := hd.m1
      have q3 := hd.m12
      have q4 := hd.k1
      have q5 := hd.kd
      have q6 := (dim_pos y m).2
      by_cases hf : k + 146097 ≤ 3652058
      · have h49 : y + 400 ≤ 9999 := (date400 hd).isYear.le hf
        have KF := fun W => DateOf_ok (k + 146097) (y + 400) m d W (date400 hd) h49
        rcases Nat.lt_or_ge d (dim y m) with e | e
        · exact cb_1a k y m d (dim y m : Nat) w hE (by omega) (by omega) (by omega) (by omega) (by omega) (by omega) (by omega) (by omega) (by omega) (by omega) KD KO (fun W => DateOf_ok (k + 1) y m (d + 1) W (N1 e) h9) KL KF
        · have e' : d = dim y m := by omega
          rcases Nat.lt_or_ge m 12 with g | g
          · exact cb_2a k y m d (dim y m : Nat) w hE (by omega) (by omega) (by omega) (by omega) (by omega) (by omega) (by omega) (by omega) (by omega) (by omega) (by omega) KD KO (fun W => DateOf_ok (k + 1) y (m + 1) 1 W (N2 e' g) h9) KL KF
          · exact cb_3a k y m d (dim y m : Nat) w hE (by omega) (by omega) (by omega) (by omega) (by omega) (by omega) (by omega) (by omega) (by omega) (by omega) (by omega) KD KO (fun W => DateOf_ok (k + 1) (y + 1) 1 1 W (N3 e' (by omega)) ((N3 e' (by omega)).isYear.le hk1)) KL KF
      · have h49 : 9599 < y := by
          rcases Nat.lt_or_ge 9599 y with a | a
          · exact a
          · exact absurd (isDate_max (date400 hd) (by omega)) hf
        have KF := fun W => DateOf_bad ((k : Int) + 146097) W (by omega)
        rcases Nat.lt_or_ge d (dim y m) with e | e
        · exact cb_1b k y m d (dim y m : Nat) w hE (by omega) (by omega) (by omega) (by omega) (by omega) (by omega) (by omega) (by omega) (by omega) (by omega) (by omega) KD KO (fun W => DateOf_ok (k + 1) y m (d + 1) W (N1 e) h9) KL KF
        · have e' : d = dim y m := by omega
          rcases Nat.lt_or_ge m 12 with g | g
          · exact cb_2b k y m d (dim y m : Nat) w hE (by omega) (by omega) (by omega) (by omega) (by omega) (by omega) (by omega) (by omega) (by omega) (by omega) (by omega) (by omega) KD KO (fun W => DateOf_ok (k + 1) y (m + 1) 1 W (N2 e' g) h9) KL KF
          · exact cb_3b k y m d (dim y m : Nat) w hE (by omega) (by omega) (by omega) (by omega) (by omega) (by omega) (by omega) (by omega) (by omega) (by omega) (by omega) (by omega) KD KO (fun W => DateOf_ok (k + 1) (y + 1) 1 1 W (N3 e' (by omega)) ((N3 e' (by omega)).isYear.le hk1)) KL KF
  · rcases Int.lt_or_le n 0 with g | g
    · exact cb_low n g w hE (fun W => DateOf_bad n W h)
    · exact cb_high n (by omega) w hE (fun W => DateOf_bad n W h)
end Go.Proofs.YtmjifmlibgpjiaaGreatDoor
