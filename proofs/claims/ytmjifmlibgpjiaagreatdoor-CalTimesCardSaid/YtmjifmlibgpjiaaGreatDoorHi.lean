/- CalTimes, as a call. -/
import Derived.Test.YtmjifmlibgpjiaaGreatDoorGh
import Derived.Test.YtmjifmlibgpjiaaGreatDoorHr

namespace Go.Proofs.YtmjifmlibgpjiaaGreatDoor
open Go.RowKit Go.Shelf Tx Go.Maps
set_option linter.unusedVariables false
set_option maxRecDepth 100000

/-- A text and an error. -/
def GivesSX (w : World) (l : List UInt8) (x : Int) (e : Ending) (w' : World) : Prop := ∃ t : ByteArray, e = .returned (.tuple #[.string t, .int .i64 x]) ∧ Hid (bts t = l) ∧ Below w.heap.size w w'
theorem gsx {P : Program} {f : Nat} {args : Array Value} {W : World} {l : List UInt8} (h : Calls P f args W (GivesSE W l)) : Calls P f args W (GivesSX W l 0) := h.mono fun _ _ q => q
theorem gsx1 {P : Program} {f : Nat} {args : Array Value} {W : World} (h : Calls P f args W (Gives W #[.string ⟨#[]⟩, .int .i64 1])) : Calls P f args W (GivesSX W [] 1) := h.mono fun _ _ q => ⟨_, q.1, Lib.hid rfl, q.2⟩
set_option maxHeartbeats 4000000 in
theorem ct_walk (n X : Int) (s : ByteArray) (l lu : List UInt8) (x v f g : Int) (w : World) (hE : Env w) (hs : ¬ (100 : Int) < (s.size : Int))
    (Q1 : ∀ W, Env W → Calls Tryz.prog 32 #[.int .i64 n, .int .u8 X] W (GivesSX W l x)) (Q2 : ∀ W, Calls Tryz.prog 33 #[.int .i64 n, .int .u8 X] W (GivesAT W l x))
    (Q3 : ∀ W, Env W → Calls Tryz.prog 34 #[.string s, .int .u8 X] W (Gives W #[.int .i64 v, .int .i64 f])) (Q4 : ∀ W, Calls Tryz.prog 35 #[.string s, .int .u8 X] W (GivesA W #[.int .i64 v, .int .i64 f]))
    (Q5 : ∀ W, Env W → Calls Tryz.prog 36 #[.int .i64 n] W (GivesSX W lu g)) (Q6 : ∀ W, Calls Tryz.prog 37 #[.int .i64 n] W (GivesAT W lu g)) :
    Calls Tryz.prog 6 #[.int .i64 n, .int .u8 X, .string s] w fun e w' => e = .returned (.bool true) ∧ Below w.heap.size w w' := by
  have K1 := fun W (hW : Env W) => Lib.hid (Q1 W hW)
  have K2 := fun W => Lib.hid (Q2 W)
  have K3 := fun W (hW : Env W) => Lib.hid (Q3 W hW)
  have K4 := fun W => Lib.hid (Q4 W)
  have K5 := fun W (hW : Env W) => Lib.hid (Q5 W hW)
  have K6 := fun W => Lib.hid (Q6 W)
  have KZ := fun W (hW : Env W) => Lib.hid (sane_any W hW)
  have HE := Lib.hid hE
  clear Q1 Q2 Q3 Q4 Q5 Q6 hE
  go_enter Tryz.func6, Tryz.ntmps6
  go_wp2_with (first
    | (go_at_call 32; refine Calls.mono (K1 _ HE.out).out ?_; rintro e w1 ⟨t, rfl, ht1, hb⟩; clear K1; have B1 := Lib.hid hb; clear hb)
    | (go_at_call 33; refine Calls.mono (K2 _).out ?_; rintro e w2 ⟨t2, rfl, ht2, hb⟩; clear K2; obtain rfl : t2 = t := bts_inj (ht2.out.trans ht1.out.symm); have B2 := Lib.hid (Bl.step B1.out hb); clear hb ht1 ht2)
    | (go_at_call 34; refine Calls.mono (K3 _ (HE.out.below (Bl.alloc B2.out _))).out ?_; rintro e w3 ⟨rfl, hb⟩; clear K3; have B3 := Lib.hid (Bl.step (Bl.alloc B2.out _) hb); have C3 := Lib.hid ((BoxC.new w2 44 #[.string t2, .int .i64 x]).stayC hb); clear hb)
    | (go_at_call 35; refine Calls.mono (K4 _).out ?_; rintro e w4 ⟨rfl, hb⟩; clear K4; have B4 := Lib.hid (Bl.step B3.out hb); have C4 := Lib.hid (C3.out.stayC hb); clear hb)
    | (go_at_call 36; refine Calls.mono (K5 _ (HE.out.below (Bl.alloc B4.out _))).out ?_; rintro e w5 ⟨u, rfl, hu1, hb⟩; clear K5; have B5 := Lib.hid (Bl.step (Bl.alloc B4.out _) hb); have C5 := Lib.hid ((C4.out.alloc _).stayC hb); have D5 := Lib.hid ((BoxC.new w4 29 #[.int .i64 v, .int .i64 f]).stayC hb); clear hb)
    | (go_at_call 37; refine Calls.mono (K6 _).out ?_; rintro e w6 ⟨u2, rfl, hu2, hb⟩; clear K6; obtain rfl : u2 = u := bts_inj (hu2.out.trans hu1.out.symm); have B6 := Lib.hid (Bl.step B5.out hb); have C6 := Lib.hid (C5.out.stayC hb); have D6 := Lib.hid (D5.out.stayC hb); clear hb hu1 hu2)
    | (go_at_call 23; refine Calls.mono (KZ _ (HE.out.below (Bl.alloc B6.out _))).out ?_; rintro e w7 ⟨rfl, hb⟩; have B7 := Lib.hid (Bl.step (Bl.alloc B6.out _) hb); have C7 := (C6.out.alloc _).stayC hb; have D7 := (D6.out.alloc _).stayC hb; have E7 := (BoxC.new w6 44 #[.string u2, .int .i64 g]).stayC hb; have c0 := C7.cell (i := 0) rfl; have c1 := C7.cell (i := 1) rfl; have d0 := D7.cell (i := 0) rfl; have d1 := D7.cell (i := 1) rfl; have e0 := E7.cell (i := 0) rfl; have e1 := E7.cell (i := 1) rfl; clear hb C7 D7 E7))
  go_ret
  exact ⟨by first | rfl | simp, B7.out⟩
theorem ct_long (n X : Int) (s : ByteArray) (w : World) (hE : Env w) (hs : (100 : Int) < (s.size : Int)) : Calls Tryz.prog 6 #[.int .i64 n, .int .u8 X, .string s] w fun e w' => e = .returned (.bool true) ∧ Below w.heap.size w w' := by
  have KZ := fun W (hW : Env W) => Lib.hid (sane_any W hW)
  have HE := Lib.hid hE
  clear hE
  go_enter Tryz.func6, Tryz.ntmps6
  go_wp2_with (go_at_call 23; refine Calls.mono (KZ _ HE.out).out ?_; rintro e w6 ⟨rfl, hb⟩; have B6 := Lib.hid hb; clear hb)
  go_ret
  exact ⟨by first | rfl | simp, B6.out⟩
theorem elapsed_both (n : Int) (hn : -9223372036854775808 ≤ n ∧ n ≤ 9223372036854775807) : ∃ l g, (∀ W, Env W → Calls Tryz.prog 36 #[.int .i64 n] W (GivesSX W l g)) ∧ (∀ W, Calls Tryz.prog 37 #[.int .i64 n] W (GivesAT W l g)) := by
  rcases Int.lt_or_le n 0 with h | h
  · exact ⟨[], 1, fun W _ => gsx1 (Elapsed_bad n W h), fun W => RElapsed_bad n W h⟩
  · obtain ⟨c, rfl⟩ : ∃ c : Nat, n = (c : Int) := ⟨n.toNat, by omega⟩
    by_cases h0 : c = 0
    · subst h0
      exact ⟨[48], 0, fun W _ => gsx (Elapsed_zero W), fun W => RElapsed_zero W⟩
    · exact ⟨_, 0, fun W hW => gsx (Elapsed_pos c W (by omega) (by omega) hW), fun W => RElapsed_pos c W (by omega) (by omega)⟩
theorem time_both (n X : Int) (f : Nat → List UInt8) (P : ∀ (c : Nat) W, c ≤ 86399999999 → Env W → Calls Tryz.prog 32 #[.int .i64 (c : Int), .int .u8 X] W (GivesSE W (f c))) (Q : ∀ (c : Nat) W, c ≤ 86399999999 → Calls Tryz.prog 33 #[.int .i64 (c : Int), .int .u8 X] W (GivesAT W (f c) 0)) :
    ∃ l x, (∀ W, Env W → Calls Tryz.prog 32 #[.int .i64 n, .int .u8 X] W (GivesSX W l x)) ∧ (∀ W, Calls Tryz.prog 33 #[.int .i64 n, .int .u8 X] W (GivesAT W l x)) := by
  by_cases hn : 0 ≤ n ∧ n ≤ 86399999999
  · obtain ⟨c, rfl⟩ : ∃ c : Nat, n = (c : Int) := ⟨n.toNat, by omega⟩
    exact ⟨f c, 0, fun W hW => gsx (P c W (by omega) hW), fun W => Q c W (by omega)⟩
  · exact ⟨[], 1, fun W _ => gsx1 (Time_bad n X W hn), fun W => RTime_bad n X W hn⟩
theorem ct_opt (n X : Int) (s : ByteArray) (f : Nat → List UInt8) (r : Int × Int) (w : World) (hE : Env w) (hs : ¬ (100 : Int) < (s.size : Int)) (hn : -9223372036854775808 ≤ n ∧ n ≤ 9223372036854775807)
    (P : ∀ (c : Nat) W, c ≤ 86399999999 → Env W → Calls Tryz.prog 32 #[.int .i64 (c : Int), .int .u8 X] W (GivesSE W (f c))) (Q : ∀ (c : Nat) W, c ≤ 86399999999 → Calls Tryz.prog 33 #[.int .i64 (c : Int), .int .u8 X] W (GivesAT W (f c) 0))
    (Q3 : ∀ W, Env W → Calls Tryz.prog 34 #[.string s, .int .u8 X] W (Gives W #[.int .i64 r.1, .int .i64 r.2])) (Q4 : ∀ W, Calls Tryz.prog 35 #[.string s, .int .u8 X] W (GivesA W #[.int .i64 r.1, .int .i64 r.2])) :
    Calls Tryz.prog 6 #[.int .i64 n, .int .u8 X, .string s] w fun e w' => e = .returned (.bool true) ∧ Below w.heap.size w w' := by
  obtain ⟨l, x, Q1, Q2⟩ := time_both n X f P Q
  obtain ⟨lu, g, Q5, Q6⟩ := elapsed_both n hn
  exact ct_walk n X s l lu x r.1 r.2 g w hE hs Q1 Q2 Q3 Q4 Q5 Q6
theorem ct_C (n : Int) (s : ByteArray) (w : World) (hE : Env w) (hs : ¬ (100 : Int) < (s.size : Int)) (hn : -9223372036854775808 ≤ n ∧ n ≤ 9223372036854775807) : Calls Tryz.prog 6 #[.int .i64 n, .int .u8 67, .string s] w fun e w' => e = .returned (.bool true) ∧ Below w.heap.size w w' :=
  ct_opt n 67 s (fun c => civL c) _ w hE hs hn (fun c W h hW => Time_C c W h hW) (fun c W h => RTime_C c W h) (fun W hW => by have h := ReadTime_C_any s W (by omega) hW; rw [civil_same (bts s)] at h; exact h) (fun W => RReadTime_C s W (by omega))
theorem ct_F (n : Int) (s : ByteArray) (w : World) (hE : Env w) (hs : ¬ (100 : Int) < (s.size : Int)) (hn : -9223372036854775808 ≤ n ∧ n ≤ 9223372036854775807) : Calls Tryz.prog 6 #[.int .i64 n, .int .u8 70, .string s] w fun e w' => e = .returned (.bool true) ∧ Below w.heap.size w w' :=
  ct_opt n 70 s (fun c => Lib.decDigits (c / 1)) _ w hE hs hn (fun c W h hW => Time_F c W h hW) (fun c W h => RTime_F c W h) (fun W hW => by have h := ReadTime_F_any s W (by omega) hW; rw [unit_same 1 (by decide) (bts s)] at h; exact h) (fun W => RReadTime_F s W (by omega))
theorem ct_H (n : Int) (s : ByteArray) (w : World) (hE : Env w) (hs : ¬ (100 : Int) < (s.size : Int)) (hn : -9223372036854775808 ≤ n ∧ n ≤ 9223372036854775807) : Calls Tryz.prog 6 #[.int .i64 n, .int .u8 72, .string s] w fun e w' => e = .returned (.bool true) ∧ Below w.heap.size w w' :=
  ct_opt n 72 s (fun c => Lib.decDigits (c / 3600000000)) _ w hE hs hn (fun c W h hW => Time_H c W h hW) (fun c W h => RTime_H c W h) (fun W hW => by have h := ReadTime_H_any s W (by omega) hW; rw [unit_same 3600000000 (by decide) (bts s)] at h; exact h) (fun W => RReadTime_H s W (by omega))
theorem ct_L (n : Int) (s : ByteArray) (w : World) (hE : Env w) (hs : ¬ (100 : Int) < (s.size : Int)) (hn : -9223372036854775808 ≤ n ∧ n ≤ 9223372036854775807) : Calls Tryz.prog 6 #[.int .i64 n, .int .u8 76, .string s] w fun e w' => e = .returned (.bool true) ∧ Below w.heap.size w w' :=
  ct_opt n 76 s (fun c => longT c) _ w hE hs hn (fun c W h hW => Time_L c W h hW) (fun c W h => RTime_L c W h) (fun W hW => by have h := ReadTime_L_any s W (by omega) hW; rw [long_same (bts s)] at h; exact h) (fun W => RReadTime_L s W (by omega))
theorem ct_M (n : Int) (s : ByteArray) (w : World) (hE : Env w) (hs : ¬ (100 : Int) < (s.size : Int)) (hn : -9223372036854775808 ≤ n ∧ n ≤ 9223372036854775807) : Calls Tryz.prog 6 #[.int .i64 n, .int .u8 77, .string s] w fun e w' => e = .returned (.bool true) ∧ Below w.heap.size w w' :=
  ct_opt n 77 s (fun c => Lib.decDigits (c / 60000000)) _ w hE hs hn (fun c W h hW => Time_M c W h hW) (fun c W h => RTime_M c W h) (fun W hW => by have h := ReadTime_M_any s W (by omega) hW; rw [unit_same 60000000 (by decide) (bts s)] at h; exact h) (fun W => RReadTime_M s W (by omega))
theorem ct_N (n : Int) (s : ByteArray) (w : World) (hE : Env w) (hs : ¬ (100 : Int) < (s.size : Int)) (hn : -9223372036854775808 ≤ n ∧ n ≤ 9223372036854775807) : Calls Tryz.prog 6 #[.int .i64 n, .int .u8 78, .string s] w fun e w' => e = .returned (.bool true) ∧ Below w.heap.size w w' :=
  ct_opt n 78 s (fun c => hmsL c) _ w hE hs hn (fun c W h hW => Time_N c W h hW) (fun c W h => RTime_N c W h) (fun W hW => by have h := ReadTime_N_any s W (by omega) hW; rw [clock_same (bts s)] at h; exact h) (fun W => RReadTime_N s W (by omega))
theorem ct_S (n : Int) (s : ByteArray) (w : World) (hE : Env w) (hs : ¬ (100 : Int) < (s.size : Int)) (hn : -9223372036854775808 ≤ n ∧ n ≤ 9223372036854775807) : Calls Tryz.prog 6 #[.int .i64 n, .int .u8 83, .string s] w fun e w' => e = .returned (.bool true) ∧ Below w.heap.size w w' :=
  ct_opt n 83 s (fun c => Lib.decDigits (c / 1000000)) _ w hE hs hn (fun c W h hW => Time_S c W h hW) (fun c W h => RTime_S c W h) (fun W hW => by have h := ReadTime_S_any s W (by omega) hW; rw [unit_same 1000000 (by decide) (bts s)] at h; exact h) (fun W => RReadTime_S s W (by omega))
theorem CalTimes_any (n : Int) (x : UInt8) (s : ByteArray) (w : World) (hn1 : -9223372036854775808 ≤ n) (hn2 : n ≤ 9223372036854775807) (hE : Env w) : Calls Tryz.prog 6 #[.int .i64 n, .int .u8 (x.toNat : Int), .string s] w fun e w' => e = .returned (.bool true) ∧ Below w.heap.size w w' := by
  by_cases hs : (100 : Int) < (s.size : Int)
  · exact ct_long n _ s w hE hs
  · by_cases hx : x = 67 ∨ x = 70 ∨ x = 72 ∨ x = 76 ∨ x = 77 ∨ x = 78 ∨ x = 83
    · rcases hx with rfl | rfl | rfl | rfl | rfl | rfl | rfl
      · exact ct_C n s w hE hs ⟨hn1, hn2⟩
      · exact ct_F n s w hE hs ⟨hn1, hn2⟩
      · exact ct_H n s w hE hs ⟨hn1, hn2⟩
      · exact ct_L n s w hE hs ⟨hn1, hn2⟩
      · exact ct_M n s w hE hs ⟨hn1, hn2⟩
      · exact ct_N n s w hE hs ⟨hn1, hn2⟩
      · exact ct_S n s w hE hs ⟨hn1, hn2⟩
    · obtain ⟨a1, a2⟩ := opt_none x hx
      simp only [not_or] at hx
      obtain ⟨h1, h2, h3, h4, h5, h6, h7⟩ := hx
      have y1 : ∀ k : UInt8, ¬ x = k → ¬ (x.toNat : Int) = (k.toNat : Int) := fun k h q => h (UInt8.toNat_inj.1 (by omega))
      obtain ⟨X, hX⟩ : ∃ X, X = (x.toNat : Int) := ⟨_, rfl⟩
      have z1 : ¬ X = 67 := hX ▸ y1 67 h1
      have z2 : ¬ X = 70 := hX ▸ y1 70 h2
      have z3 : ¬ X = 72 := hX ▸ y1 72 h3
      have z4 : ¬ X = 76 := hX ▸ y1 76 h4
      have z5 : ¬ X = 77 := hX ▸ y1 77 h5
      have z6 : ¬ X = 78 := hX ▸ y1 78 h6
      have z7 : ¬ X = 83 := hX ▸ y1 83 h7
      obtain ⟨lu, g, Q5, Q6⟩ := elapsed_both n ⟨hn1, hn2⟩
      have Q3 : ∀ W, Env W → Calls Tryz.prog 34 #[.string s, .int .u8 X] W (Gives W #[.int .i64 0, .int .i64 1]) := fun W hW => by rw [hX]; exact ReadTime_none s x W (a1 s)
      have Q4 : ∀ W, Calls Tryz.prog 35 #[.string s, .int .u8 X] W (GivesA W #[.int .i64 0, .int .i64 1]) := fun W => RReadTime_none s X (beq_eq_false_iff_ne.2 z1) z1 (beq_eq_false_iff_ne.2 z2) z2 (beq_eq_false_iff_ne.2 z3) z3 (beq_eq_false_iff_ne.2 z4) z4 (beq_eq_false_iff_ne.2 z5) z5 (beq_eq_false_iff_ne.2 z6) z6 (beq_eq_false_iff_ne.2 z7) z7 W
      have T : ∃ l x, (∀ W, Env W → Calls Tryz.prog 32 #[.int .i64 n, .int .u8 X] W (GivesSX W l x)) ∧ (∀ W, Calls Tryz.prog 33 #[.int .i64 n, .int .u8 X] W (GivesAT W l x)) := by
        by_cases hn : 0 ≤ n ∧ n ≤ 86399999999
        · obtain ⟨c, rfl⟩ : ∃ c : Nat, n = (c : Int) := ⟨n.toNat, by omega⟩
          exact ⟨[], 1, fun W _ => by rw [hX]; exact gsx1 (Time_none c x W (by omega) (a2 c)), fun W => RTime_none c X (beq_eq_false_iff_ne.2 z1) z1 (beq_eq_false_iff_ne.2 z2) z2 (beq_eq_false_iff_ne.2 z3) z3 (beq_eq_false_iff_ne.2 z4) z4 (beq_eq_false_iff_ne.2 z5) z5 (beq_eq_false_iff_ne.2 z6) z6 (beq_eq_false_iff_ne.2 z7) z7 W (by omega)⟩
        · exact ⟨[], 1, fun W _ => gsx1 (Time_bad n X W hn), fun W => RTime_bad n X W hn⟩
      obtain ⟨l, x', Q1, Q2⟩ := T
      rw [← hX]
      exact ct_walk n X s l lu x' 0 1 g w hE hs Q1 Q2 Q3 Q4 Q5 Q6
end Go.Proofs.YtmjifmlibgpjiaaGreatDoor
