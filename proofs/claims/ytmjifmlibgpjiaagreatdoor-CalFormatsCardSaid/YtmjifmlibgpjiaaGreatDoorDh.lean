/- Formats of times. -/
import Derived.Test.YtmjifmlibgpjiaaGreatDoorDg
namespace Go.Proofs.YtmjifmlibgpjiaaGreatDoor
open Go.RowKit Go.Shelf Tx
set_option linter.unusedVariables false
set_option maxRecDepth 100000

theorem divFacts (c u g : Nat) (hc : c ≤ 86399999999) (hu : 1 ≤ u) (hg : g = c / u) : (c : Int) / (u : Int) = (g : Int) ∧ (c : Int).tdiv (u : Int) = (g : Int) ∧ IntKind.i64.wrap (g : Int) = (g : Int) ∧ wrap64 (g : Int) = (g : Int) ∧ wrap64 ((c : Int).tdiv (u : Int)) = (g : Int) ∧ IntKind.i64.wrap ((c : Int).tdiv (u : Int)) = (g : Int) ∧ g ≤ 86399999999 := by
  have h1 : (c : Int) / (u : Int) = (g : Int) := by rw [hg]; omega
  have h2 : (c : Int).tdiv (u : Int) = (g : Int) := by rw [Int.tdiv_eq_ediv_of_nonneg (by omega)]; exact h1
  have h3 : g ≤ 86399999999 := by rw [hg]; exact Nat.le_trans (Nat.div_le_self _ _) hc
  exact ⟨h1, h2, i64i' (by omega) (by omega), w64 (by omega) (by omega), by rw [h2]; exact w64 (by omega) (by omega), by rw [h2]; exact i64i' (by omega) (by omega), h3⟩
set_option maxHeartbeats 800000 in
theorem count1_any (c g : Nat) (w : World) (hc : c ≤ 86399999999) (hg : g = c / 1) : Calls Tryz.prog 139 #[.int .i64 (c : Int), .int .i64 1] w fun e w' => e = .returned (.int .i64 (g : Int)) ∧ w = w' := by
  obtain ⟨h1, h2, h3, h4, h5, h6, h7⟩ := divFacts c 1 g hc (by decide) hg
  rw [show ((1 : Nat) : Int) = 1 from rfl] at *
  clear hc hg h7
  go_enter Tryz.func139, Tryz.ntmps139
  go_wp2
  go_ret
  exact ⟨ret_i (by first | rfl | (simp [*]; done)), rfl⟩
set_option maxHeartbeats 800000 in
theorem count1000000_any (c g : Nat) (w : World) (hc : c ≤ 86399999999) (hg : g = c / 1000000) : Calls Tryz.prog 139 #[.int .i64 (c : Int), .int .i64 1000000] w fun e w' => e = .returned (.int .i64 (g : Int)) ∧ w = w' := by
  obtain ⟨h1, h2, h3, h4, h5, h6, h7⟩ := divFacts c 1000000 g hc (by decide) hg
  rw [show ((1000000 : Nat) : Int) = 1000000 from rfl] at *
  clear hc hg h7
  go_enter Tryz.func139, Tryz.ntmps139
  go_wp2
  go_ret
  exact ⟨ret_i (by first | rfl | (simp [*]; done)), rfl⟩
set_option maxHeartbeats 800000 in
theorem count60000000_any (c g : Nat) (w : World) (hc : c ≤ 86399999999) (hg : g = c / 60000000) : Calls Tryz.prog 139 #[.int .i64 (c : Int), .int .i64 60000000] w fun e w' => e = .returned (.int .i64 (g : Int)) ∧ w = w' := by
  obtain ⟨h1, h2, h3, h4, h5, h6, h7⟩ := divFacts c 60000000 g hc (by decide) hg
  rw [show ((60000000 : Nat) : Int) = 60000000 from rfl] at *
  clear hc hg h7
  go_enter Tryz.func139, Tryz.ntmps139
  go_wp2
  go_ret
  exact ⟨ret_i (by first | rfl | (simp [*]; done)), rfl⟩
set_option maxHeartbeats 800000 in
theorem count3600000000_any (c g : Nat) (w : World) (hc : c ≤ 86399999999) (hg : g = c / 3600000000) : Calls Tryz.prog 139 #[.int .i64 (c : Int), .int .i64 3600000000] w fun e w' => e = .returned (.int .i64 (g : Int)) ∧ w = w' := by
  obtain ⟨h1, h2, h3, h4, h5, h6, h7⟩ := divFacts c 3600000000 g hc (by decide) hg
  rw [show ((3600000000 : Nat) : Int) = 3600000000 from rfl] at *
  clear hc hg h7
  go_enter Tryz.func139, Tryz.ntmps139
  go_wp2
  go_ret
  exact ⟨ret_i (by first | rfl | (simp [*]; done)), rfl⟩
set_option maxHeartbeats 800000 in
theorem c_fine_any (c : Nat) (w : World) (hc : c ≤ 86399999999) (hE : Env w) : Calls Tryz.prog 108 #[.int .i64 (c : Int)] w (GivesS w (Lib.decDigits (c / 1))) := by
  obtain ⟨g, hg⟩ : ∃ g, g = c / 1 := ⟨_, rfl⟩
  rw [← hg]
  have KC := fun W => Lib.hid (count1_any c g W hc hg)
  have KI := fun W hW => Lib.hid (itoa_any g W (by rw [hg]; exact Nat.le_trans (Nat.div_le_self _ _) (by omega)) hW)
  have HE := Lib.hid hE
  clear hc hg hE
  go_enter Tryz.func108, Tryz.ntmps108
  go_wp2_with (first
    | (go_at_call 139; refine Calls.mono (KC _).out ?_; rintro e w1 ⟨rfl, rfl⟩)
    | (go_at_call 121; refine Calls.mono (KI _ HE.out).out ?_; rintro e w2 ⟨t, rfl, ht, hb2⟩))
  go_ret
  exact ⟨t, rfl, ht, hb2⟩
set_option maxHeartbeats 800000 in
theorem c_hours_any (c : Nat) (w : World) (hc : c ≤ 86399999999) (hE : Env w) : Calls Tryz.prog 109 #[.int .i64 (c : Int)] w (GivesS w (Lib.decDigits (c / 3600000000))) := by
  obtain ⟨g, hg⟩ : ∃ g, g = c / 3600000000 := ⟨_, rfl⟩
  rw [← hg]
  have KC := fun W => Lib.hid (count3600000000_any c g W hc hg)
  have KI := fun W hW => Lib.hid (itoa_any g W (by rw [hg]; exact Nat.le_trans (Nat.div_le_self _ _) (by omega)) hW)
  have HE := Lib.hid hE
  clear hc hg hE
  go_enter Tryz.func109, Tryz.ntmps109
  go_wp2_with (first
    | (go_at_call 139; refine Calls.mono (KC _).out ?_; rintro e w1 ⟨rfl, rfl⟩)
    | (go_at_call 121; refine Calls.mono (KI _ HE.out).out ?_; rintro e w2 ⟨t, rfl, ht, hb2⟩))
  go_ret
  exact ⟨t, rfl, ht, hb2⟩
set_option maxHeartbeats 800000 in
theorem c_minutes_any (c : Nat) (w : World) (hc : c ≤ 86399999999) (hE : Env w) : Calls Tryz.prog 111 #[.int .i64 (c : Int)] w (GivesS w (Lib.decDigits (c / 60000000))) := by
  obtain ⟨g, hg⟩ : ∃ g, g = c / 60000000 := ⟨_, rfl⟩
  rw [← hg]
  have KC := fun W => Lib.hid (count60000000_any c g W hc hg)
  have KI := fun W hW => Lib.hid (itoa_any g W (by rw [hg]; exact Nat.le_trans (Nat.div_le_self _ _) (by omega)) hW)
  have HE := Lib.hid hE
  clear hc hg hE
  go_enter Tryz.func111, Tryz.ntmps111
  go_wp2_with (first
    | (go_at_call 139; refine Calls.mono (KC _).out ?_; rintro e w1 ⟨rfl, rfl⟩)
    | (go_at_call 121; refine Calls.mono (KI _ HE.out).out ?_; rintro e w2 ⟨t, rfl, ht, hb2⟩))
  go_ret
  exact ⟨t, rfl, ht, hb2⟩
set_option maxHeartbeats 800000 in
theorem c_seconds_any (c : Nat) (w : World) (hc : c ≤ 86399999999) (hE : Env w) : Calls Tryz.prog 113 #[.int .i64 (c : Int)] w (GivesS w (Lib.decDigits (c / 1000000))) := by
  obtain ⟨g, hg⟩ : ∃ g, g = c / 1000000 := ⟨_, rfl⟩
  rw [← hg]
  have KC := fun W => Lib.hid (count1000000_any c g W hc hg)
  have KI := fun W hW => Lib.hid (itoa_any g W (by rw [hg]; exact Nat.le_trans (Nat.div_le_self _ _) (by omega)) hW)
  have HE := Lib.hid hE
  clear hc hg hE
  go_enter Tryz.func113, Tryz.ntmps113
  go_wp2_with (first
    | (go_at_call 139; refine Calls.mono (KC _).out ?_; rintro e w1 ⟨rfl, rfl⟩)
    | (go_at_call 121; refine Calls.mono (KI _ HE.out).out ?_; rintro e w2 ⟨t, rfl, ht, hb2⟩))
  go_ret
  exact ⟨t, rfl, ht, hb2⟩
theorem modFacts (g m : Nat) (hm : 1 ≤ m) (hg : g ≤ 86399999999) (r : Nat) (hr : r = g % m) : (g : Int) % (m : Int) = (r : Int) ∧ (g : Int).tmod (m : Int) = (r : Int) := by
  have h1 : (g : Int) % (m : Int) = (r : Int) := by rw [hr]; omega
  exact ⟨h1, by rw [Int.tmod_eq_emod_of_nonneg (by omega)]; exact h1⟩
namespace Tx
def minF (c : Nat) : Nat := c / 60000000 % 60
def secF (c : Nat) : Nat := c / 1000000 % 60
def hmsL (c : Nat) : List UInt8 := Lib.join [padd (c / 3600000000) 2, padd (minF c) 2, padd (secF c) 2] [58]
end Tx
set_option maxHeartbeats 800000 in
theorem minuteField_any (c : Nat) (w : World) (hc : c ≤ 86399999999) : Calls Tryz.prog 140 #[.int .i64 (c : Int)] w fun e w' => e = .returned (.agg #[.int .i64 (minF c : Int), .int .i64 2]) ∧ w.alloc (.cells #[.int .i64 (minF c : Int), .int .i64 2] 99) = w' := by
  obtain ⟨g, hg⟩ : ∃ g, g = c / 60000000 := ⟨_, rfl⟩
  have KC := fun W => Lib.hid (count60000000_any c g W hc hg)
  obtain ⟨r, hr⟩ : ∃ r, r = minF c := ⟨_, rfl⟩
  obtain ⟨m1, m2⟩ := modFacts g 60 (by decide) (by rw [hg]; exact Nat.le_trans (Nat.div_le_self _ _) hc) r (by rw [hr, hg]; rfl)
  rw [show ((60 : Nat) : Int) = 60 from rfl] at m1 m2
  rw [← hr]
  clear hc hg hr
  go_enter Tryz.func140, Tryz.ntmps140
  go_wp2_with (first
    | (go_at_call 139; refine Calls.mono (KC _).out ?_; rintro e w1 ⟨rfl, rfl⟩))
  refine bodyPost_ret (v := .agg #[.int .i64 (r : Int), .int .i64 2]) (by simp [results, Tryz.results140, go_sem]) rfl ?_
  exact ⟨rfl, rfl⟩
set_option maxHeartbeats 2000000 in
theorem c_normal_any (c : Nat) (w : World) (hc : c ≤ 86399999999) (hE : Env w) : Calls Tryz.prog 112 #[.int .i64 (c : Int)] w (GivesS w (hmsL c)) := by
  obtain ⟨g, hg⟩ : ∃ g, g = c / 3600000000 := ⟨_, rfl⟩
  obtain ⟨s, hs⟩ : ∃ s, s = c / 1000000 := ⟨_, rfl⟩
  obtain ⟨b, hb⟩ : ∃ b, b = minF c := ⟨_, rfl⟩
  obtain ⟨r, hr⟩ : ∃ r, r = secF c := ⟨_, rfl⟩
  have KG := fun W => Lib.hid (count3600000000_any c g W hc hg)
  have KS := fun W => Lib.hid (count1000000_any c s W hc hs)
  have KM := fun W => Lib.hid (minuteField_any c W hc)
  rw [← hb] at KM
  obtain ⟨m1, m2⟩ := modFacts s 60 (by decide) (by rw [hs]; exact Nat.le_trans (Nat.div_le_self _ _) hc) r (by rw [hr, hs]; rfl)
  rw [show ((60 : Nat) : Int) = 60 from rfl] at m1 m2
  have hg2 : g ≤ 86399999999 := by rw [hg]; exact Nat.le_trans (Nat.div_le_self _ _) hc
  have hb2 : b < 60 := by rw [hb]; exact Nat.mod_lt _ (by decide)
  have hr2 : r < 60 := by rw [hr]; exact Nat.mod_lt _ (by decide)
  have hl : hmsL c = Lib.join [padd g 2, padd b 2, padd r 2] [58] := by unfold hmsL; rw [← hg, ← hb, ← hr]
  rw [hl]
  have KJ := fun (W : World) (B : Nat) (hB : BoxC W B 99 #[.int .i64 (g : Int), .int .i64 2, .int .i64 (b : Int), .int .i64 2, .int .i64 (r : Int), .int .i64 2]) (hW : Env W) => Lib.hid (joined_any ⟨#[58]⟩ B [(g, 2), (b, 2), (r, 2)] W (by simp) (by simp) (by
    intro f hf
    rw [pow19]
    simp at hf
    rcases hf with rfl | rfl | rfl <;> dsimp only <;> omega) (by decide) (fieldsAt_of g 2 b 2 r 2 hB) hB.lt hW)
  have HE := Lib.hid hE
  clear hc hg hs hb hr hg2 hb2 hr2 hE hl
  go_enter Tryz.func112, Tryz.ntmps112
  go_wp2_with (first
    | (go_at_call 139; first | ((with_reducible refine Calls.mono (KG _).out ?_); rintro e w1 ⟨rfl, rfl⟩) | ((with_reducible refine Calls.mono (KS _).out ?_); rintro e w2 ⟨rfl, rfl⟩))
    | (go_at_call 140; refine Calls.mono (KM _).out ?_; rintro e w3 ⟨rfl, rfl⟩)
    | (go_at_call 79; refine Calls.mono (KJ _ _ (by repeat (first | exact BoxC.newAt (by simp) | refine BoxC.drew ?_ | refine BoxC.alloc ?_ _)) (HE.out.below (by repeat (first | exact Below.refl _ _ | exact B1.out | exact B2.out | refine Bl.alloc ?_ _ | refine Bl.drew ?_)))).out ?_; rintro e w4 ⟨t, rfl, ht, hb4⟩))
  go_ret
  exact ⟨t, rfl, Lib.hid (by rw [ht.out]; rfl), Bl.step (by repeat (first | exact Below.refl _ _ | exact B1.out | exact B2.out | refine Bl.alloc ?_ _ | refine Bl.drew ?_)) hb4⟩
namespace Tx
def longT (c : Nat) : List UInt8 := hmsL c ++ [46] ++ padd (c % 1000000) 6
end Tx
theorem hms_len (c : Nat) (hc : c ≤ 86399999999) : (hmsL c).length ≤ 1000 := by
  unfold hmsL
  have h := join_len [58] 100 [padd (c / 3600000000) 2, padd (minF c) 2, padd (secF c) 2] (by
    intro x hx
    have a1 : (Lib.decDigits (c / 3600000000)).length ≤ 19 := dd_len (k := 18) (by rw [pow19]; exact Nat.lt_of_le_of_lt (Nat.div_le_self _ _) (by omega))
    have a2 : (Lib.decDigits (minF c)).length ≤ 19 := dd_len (k := 18) (by rw [pow19]; have := Nat.mod_lt (c / 60000000) (show 0 < 60 by decide); unfold minF; omega)
    have a3 : (Lib.decDigits (secF c)).length ≤ 19 := dd_len (k := 18) (by rw [pow19]; have := Nat.mod_lt (c / 1000000) (show 0 < 60 by decide); unfold secF; omega)
    simp at hx
    rcases hx with rfl | rfl | rfl <;> rw [padd_len] <;> omega)
  simp at h ⊢
  omega
set_option maxHeartbeats 2000000 in
theorem c_long_any (c : Nat) (w : World) (hc : c ≤ 86399999999) (hE : Env w) : Calls Tryz.prog 110 #[.int .i64 (c : Int)] w (GivesS w (longT c)) := by
  have KN := fun W hW => Lib.hid (c_normal_any c W hc hW)
  have KC := fun W => Lib.hid (count1_any c c W hc (Nat.div_one c).symm)
  obtain ⟨r, hr⟩ : ∃ r, r = c % 1000000 := ⟨_, rfl⟩
  obtain ⟨m1, m2⟩ := modFacts c 1000000 (by decide) hc r hr
  rw [show ((1000000 : Nat) : Int) = 1000000 from rfl] at m1 m2
  have hr2 : r < 1000000 := by rw [hr]; exact Nat.mod_lt _ (by decide)
  have HL := Lib.hid (show longT c = hmsL c ++ [46] ++ padd r 6 by unfold longT; rw [← hr])
  have HH := Lib.hid (hms_len c hc)
  have HP := Lib.hid (show (padd r 6).length ≤ 100 by rw [padd_len]; have : (Lib.decDigits r).length ≤ 6 := dd_len (k := 5) (by simpa using hr2); omega)
  have KJ := fun (W : World) (B : Nat) (hB : BoxC W B 99 #[.int .i64 (r : Int), .int .i64 6]) (hW : Env W) => Lib.hid (joined_any ⟨#[]⟩ B [(r, 6)] W (by simp) (by simp) (by
    intro f hf
    rw [pow19]
    simp at hf
    subst hf; dsimp only; omega) (by decide) (fieldsAt_one r 6 hB) hB.lt hW)
  have HE := Lib.hid hE
  clear hc hr hr2 hE
  go_enter Tryz.func110, Tryz.ntmps110
  go_wp2_with (first
    | (go_at_call 112; refine Calls.mono (KN _ HE.out).out ?_; rintro e w1 ⟨t, rfl, ht, hb1⟩; have B1 := Lib.hid hb1; have h1 : ¬ 9223372036854775807 < t.size + 1 := (by have := HH.out; rw [← ht.out, bts_length] at this; omega); clear hb1)
    | (go_at_call 139; refine Calls.mono (KC _).out ?_; rintro e w2 ⟨rfl, rfl⟩)
    | (go_at_call 79; refine Calls.mono (KJ _ _ (by repeat (first | exact BoxC.newAt (by simp) | refine BoxC.drew ?_ | refine BoxC.alloc ?_ _)) (HE.out.below (by repeat (first | exact Below.refl _ _ | exact B1.out | exact B2.out | refine Bl.alloc ?_ _ | refine Bl.drew ?_)))).out ?_; rintro e w4 ⟨u, rfl, hu, hb4⟩; have B4 := Lib.hid (Bl.step (show Below w.heap.size w _ from by repeat (first | exact Below.refl _ _ | exact B1.out | exact B2.out | refine Bl.alloc ?_ _ | refine Bl.drew ?_)) hb4); have h2 : ¬ 9223372036854775807 < t.size + 1 + u.size := (by have a := HH.out; rw [← ht.out, bts_length] at a; have b := HP.out; have q := congrArg List.length hu.out; rw [bts_length] at q; simp [Lib.join_one, fldL] at q; omega); clear hb4))
  go_ret
  refine ⟨_, rfl, Lib.hid ?_, B4.out⟩
  rw [HL.out, bts_append, bts_append, ht.out, hu.out]
  simp [Lib.join_one, fldL, bts]
end Go.Proofs.YtmjifmlibgpjiaaGreatDoor
