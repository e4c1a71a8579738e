/- ReadDay, at any text, of the format with the name of a month; of options that are none. -/
import Derived.Test.YtmjifmlibgpjiaaGreatDoorIa
namespace Go.Proofs.YtmjifmlibgpjiaaGreatDoor
open Go.RowKit Go.Shelf Tx Go.Maps
set_option linter.unusedVariables false
set_option maxRecDepth 100000

set_option maxHeartbeats 4000000 in
theorem ReadDay_N_none (s : ByteArray) (n0 y0 m0 k0 : Nat) (w : World) (hd0 : IsDate n0 y0 m0 k0) (h90 : y0 ≤ 9999) (hs : s.size ≤ 1000000) (hE : Env w) (hM : HasMax w) (hR : calOf (num2 (bts s)) (1 + monV (bts s)) (num1 (bts s)) = none) : Calls Tryz.prog 30 #[.string s, .int .u8 78, .int .i64 (n0 : Int)] w (Gives w #[.int .i64 0, .int .i64 2]) := by
  have hn0 := isDate_max hd0 h90
  have KT := fun W => Lib.hid (isDay_any (n0 : Int) W)
  rw [inR_true (by omega) (by omega)] at KT
  have KD0 := fun W => Lib.hid (dateOf_any n0 y0 m0 k0 W hd0 h90)
  have KR := fun W => Lib.hid (dayR_any s y0 W)
  have KX := fun W (hW : Env W) (hV : HasMax W) => Lib.hid (show Calls Tryz.prog 102 #[.agg #[.string s, .int .i64 (y0 : Int)]] W (fun e w' => e = .returned (.tuple #[.int .i64 0, .bool false]) ∧ Below W.heap.size W w') from by have h := cal_to (d_normal_any s y0 W hs hW hV); rw [hR] at h; exact h)
  have HE := Lib.hid hE
  have HM := Lib.hid hM
  have hfd := field_date
  have hid := index_date
  clear hd0 h90 hs hR hn0 hE hM
  go_enter Tryz.func30, Tryz.ntmps30
  go_wp2_with (first
    | (go_at_call 51; refine Calls.mono (KT _).out ?_; rintro e W1 ⟨rfl, rfl⟩)
    | (go_at_call 52; (with_reducible refine Calls.mono (KD0 _).out ?_); clear KD0; rintro e w1 ⟨rfl, hb1⟩; have B1 := Lib.hid hb1; clear hb1)
    | (go_at_call 65; refine Calls.mono (KR _).out ?_; rintro e w2 ⟨b, q, Dd, rfl, hF, hb2⟩; have B2 := Lib.hid (Bl.step B1.out hb2); have hlk : (Instr.lookup 86 (.map (some b)) (.int .u8 78) true).run Tryz.prog w2 = .ok (.tuple #[.func (.func 102) #[.agg #[.string s, .int .i64 (y0 : Int)]] #[], .bool true]) w2 := (look_ok lawU8 Tryz.underlying86 (zeroG w2) hF.out.1 hF.out.2 78 Tryz.underlying5); clear hb2)
    | (go_at_call 102; refine Calls.mono (KX _ (HE.out.below B2.out) (HM.out.below B2.out)).out ?_; rintro e w3 ⟨rfl, hb3⟩; have B3 := Lib.hid (Bl.step B2.out hb3); clear hb3))
  go_ret2
  exact ⟨rfl, B3.out⟩
set_option maxHeartbeats 4000000 in
theorem ReadDay_N_ok (s : ByteArray) (n0 y0 m0 k0 : Nat) (w : World) (hd0 : IsDate n0 y0 m0 k0) (h90 : y0 ≤ 9999) (hs : s.size ≤ 1000000) (hE : Env w) (hM : HasMax w) (n y m k : Nat) (hd : IsDate n y m k) (h9 : y ≤ 9999) (hR : calOf (num2 (bts s)) (1 + monV (bts s)) (num1 (bts s)) = some n) (hf : bts s = normL y m k) : Calls Tryz.prog 30 #[.string s, .int .u8 78, .int .i64 (n0 : Int)] w (Gives w #[.int .i64 (n : Int), .int .i64 0]) := by
  have hn0 := isDate_max hd0 h90
  have KT := fun W => Lib.hid (isDay_any (n0 : Int) W)
  rw [inR_true (by omega) (by omega)] at KT
  have KD0 := fun W => Lib.hid (dateOf_any n0 y0 m0 k0 W hd0 h90)
  have KR := fun W => Lib.hid (dayR_any s y0 W)
  have KX := fun W (hW : Env W) (hV : HasMax W) => Lib.hid (show Calls Tryz.prog 102 #[.agg #[.string s, .int .i64 (y0 : Int)]] W (fun e w' => e = .returned (.tuple #[.int .i64 (n : Int), .bool true]) ∧ Below W.heap.size W w') from by have h := cal_to (d_normal_any s y0 W hs hW hV); rw [hR] at h; exact h)
  have hk31 : k ≤ 31 := by have := hd.kd; have := dim_pos y m; omega
  have KD := fun W => Lib.hid (dateOf_any n y m k W hd h9)
  have KF := fun W => Lib.hid (datF_any y m k W)
  have KG := fun W hW => Lib.hid (normal_any y m k W h9 hd.m1 hd.m12 hk31 hW)
  have HE := Lib.hid hE
  have HM := Lib.hid hM
  have HF := Lib.hid hf
  have hfd := field_date
  have hid := index_date
  unfold dtV at KF KG
  clear hd0 h90 hd h9 hf hs hE hM hn0 hR hk31
  go_enter Tryz.func30, Tryz.ntmps30
  go_wp2_with (first
    | (go_at_call 51; refine Calls.mono (KT _).out ?_; rintro e W1 ⟨rfl, rfl⟩)
    | (go_at_call 52; (with_reducible refine Calls.mono (KD0 _).out ?_); clear KD0; rintro e w1 ⟨rfl, hb1⟩; have B1 := Lib.hid hb1; clear hb1)
    | (go_at_call 65; refine Calls.mono (KR _).out ?_; rintro e w2 ⟨b, q, Dd, rfl, hF, hb2⟩; have B2 := Lib.hid (Bl.step B1.out hb2); have hlk : (Instr.lookup 86 (.map (some b)) (.int .u8 78) true).run Tryz.prog w2 = .ok (.tuple #[.func (.func 102) #[.agg #[.string s, .int .i64 (y0 : Int)]] #[], .bool true]) w2 := (look_ok lawU8 Tryz.underlying86 (zeroG w2) hF.out.1 hF.out.2 78 Tryz.underlying5); clear hb2)
    | (go_at_call 102; refine Calls.mono (KX _ (HE.out.below B2.out) (HM.out.below B2.out)).out ?_; rintro e w3 ⟨rfl, hb3⟩; have B3 := Lib.hid (Bl.step B2.out hb3); clear hb3)
    | (go_at_call 52; (with_reducible refine Calls.mono (KD _).out ?_); rintro e w4 ⟨rfl, hb4⟩; have B4 := Lib.hid (Bl.step B3.out hb4); clear hb4)
    | (go_at_call 60; refine Calls.mono (KF _).out ?_; rintro e w5 ⟨b5, q5, D5, rfl, hF5, hb5⟩; have B5 := Lib.hid (Bl.step B4.out hb5); have hlk5 : (Instr.lookup 81 (.map (some b5)) (.int .u8 78) false).run Tryz.prog w5 = .ok (.func (.func 93) #[.agg #[.int .i64 (y : Int), .int .i64 (m : Int), .int .i64 (k : Int)]] #[]) w5 := (look_no lawU8 Tryz.underlying81 (zeroF w5) hF5.out.1 hF5.out.2 78 Tryz.underlying5); clear hb5)
    | (go_at_call 93; refine Calls.mono (KG _ (HE.out.below B5.out)).out ?_; rintro e w6 ⟨t, rfl, ht, hb6⟩; have B6 := Lib.hid (Bl.step B5.out hb6); obtain rfl : t = s := bts_inj (ht.out.trans HF.out.symm); clear hb6))
  go_ret2
  exact ⟨rfl, B6.out⟩
set_option maxHeartbeats 4000000 in
theorem ReadDay_N_ne (s : ByteArray) (n0 y0 m0 k0 : Nat) (w : World) (hd0 : IsDate n0 y0 m0 k0) (h90 : y0 ≤ 9999) (hs : s.size ≤ 1000000) (hE : Env w) (hM : HasMax w) (n y m k : Nat) (hd : IsDate n y m k) (h9 : y ≤ 9999) (hR : calOf (num2 (bts s)) (1 + monV (bts s)) (num1 (bts s)) = some n) (hf : ¬ bts s = normL y m k) : Calls Tryz.prog 30 #[.string s, .int .u8 78, .int .i64 (n0 : Int)] w (Gives w #[.int .i64 0, .int .i64 2]) := by
  have hn0 := isDate_max hd0 h90
  have KT := fun W => Lib.hid (isDay_any (n0 : Int) W)
  rw [inR_true (by omega) (by omega)] at KT
  have KD0 := fun W => Lib.hid (dateOf_any n0 y0 m0 k0 W hd0 h90)
  have KR := fun W => Lib.hid (dayR_any s y0 W)
  have KX := fun W (hW : Env W) (hV : HasMax W) => Lib.hid (show Calls Tryz.prog 102 #[.agg #[.string s, .int .i64 (y0 : Int)]] W (fun e w' => e = .returned (.tuple #[.int .i64 (n : Int), .bool true]) ∧ Below W.heap.size W w') from by have h := cal_to (d_normal_any s y0 W hs hW hV); rw [hR] at h; exact h)
  have hk31 : k ≤ 31 := by have := hd.kd; have := dim_pos y m; omega
  have KD := fun W => Lib.hid (dateOf_any n y m k W hd h9)
  have KF := fun W => Lib.hid (datF_any y m k W)
  have KG := fun W hW => Lib.hid (normal_any y m k W h9 hd.m1 hd.m12 hk31 hW)
  have HE := Lib.hid hE
  have HM := Lib.hid hM
  have HF := Lib.hid hf
  have hfd := field_date
  have hid := index_date
  unfold dtV at KF KG
  clear hd0 h90 hd h9 hf hs hE hM hn0 hR hk31
  go_enter Tryz.func30, Tryz.ntmps30
  go_wp2_with (first
    | (go_at_call 51; refine Calls.mono (KT _).out ?_; rintro e W1 ⟨rfl, rfl⟩)
    | (go_at_call 52; (with_reducible refine Calls.mono (KD0 _).out ?_); clear KD0; rintro e w1 ⟨rfl, hb1⟩; have B1 := Lib.hid hb1; clear hb1)
    | (go_at_call 65; refine Calls.mono (KR _).out ?_; rintro e w2 ⟨b, q, Dd, rfl, hF, hb2⟩; have B2 := Lib.hid (Bl.step B1.out hb2); have hlk : (Instr.lookup 86 (.map (some b)) (.int .u8 78) true).run Tryz.prog w2 = .ok (.tuple #[.func (.func 102) #[.agg #[.string s, .int .i64 (y0 : Int)]] #[], .bool true]) w2 := (look_ok lawU8 Tryz.underlying86 (zeroG w2) hF.out.1 hF.out.2 78 Tryz.underlying5); clear hb2)
    | (go_at_call 102; refine Calls.mono (KX _ (HE.out.below B2.out) (HM.out.below B2.out)).out ?_; rintro e w3 ⟨rfl, hb3⟩; have B3 := Lib.hid (Bl.step B2.out hb3); clear hb3)
    | (go_at_call 52; (with_reducible refine Calls.mono (KD _).out ?_); rintro e w4 ⟨rfl, hb4⟩; have B4 := Lib.hid (Bl.step B3.out hb4); clear hb4)
    | (go_at_call 60; refine Calls.mono (KF _).out ?_; rintro e w5 ⟨b5, q5, D5, rfl, hF5, hb5⟩; have B5 := Lib.hid (Bl.step B4.out hb5); have hlk5 : (Instr.lookup 81 (.map (some b5)) (.int .u8 78) false).run Tryz.prog w5 = .ok (.func (.func 93) #[.agg #[.int .i64 (y : Int), .int .i64 (m : Int), .int .i64 (k : Int)]] #[]) w5 := (look_no lawU8 Tryz.underlying81 (zeroF w5) hF5.out.1 hF5.out.2 78 Tryz.underlying5); clear hb5)
    | (go_at_call 93; refine Calls.mono (KG _ (HE.out.below B5.out)).out ?_; rintro e w6 ⟨t, rfl, ht, hb6⟩; have B6 := Lib.hid (Bl.step B5.out hb6); have hne : ¬ t.toList = s.toList := (by rw [toList_bts, toList_bts, ht.out]; exact fun q => HF.out q.symm); have hne2 : (t.toList == s.toList) = false := (beq_eq_false_iff_ne.2 hne); clear hb6))
  go_ret2
  exact ⟨rfl, B6.out⟩
theorem rest_none (x : UInt8) (s : ByteArray) (y : Nat) (h : ¬ (x = 66 ∨ x = 68 ∨ x = 69 ∨ x = 73 ∨ x = 78 ∨ x = 79 ∨ x = 83 ∨ x = 85)) : (dayRL s y).lookup x = none := by
  simp only [not_or] at h
  obtain ⟨h1, h2, h3, h4, h5, h6, h7, h8⟩ := h
  unfold dayRL
  simp [List.lookup_cons, beq_eq_false_iff_ne.2 h1, beq_eq_false_iff_ne.2 h2, beq_eq_false_iff_ne.2 h3, beq_eq_false_iff_ne.2 h4, beq_eq_false_iff_ne.2 h5, beq_eq_false_iff_ne.2 h6, beq_eq_false_iff_ne.2 h7, beq_eq_false_iff_ne.2 h8]
set_option maxHeartbeats 4000000 in
theorem ReadDay_none (s : ByteArray) (n0 y0 m0 k0 : Nat) (x : UInt8) (w : World) (hd0 : IsDate n0 y0 m0 k0) (h90 : y0 ≤ 9999) (hx : (dayRL s y0).lookup x = none) : Calls Tryz.prog 30 #[.string s, .int .u8 (x.toNat : Int), .int .i64 (n0 : Int)] w (Gives w #[.int .i64 0, .int .i64 1]) := by
  have hn0 := isDate_max hd0 h90
  have KT := fun W => Lib.hid (isDay_any (n0 : Int) W)
  rw [inR_true (by omega) (by omega)] at KT
  have KD0 := fun W => Lib.hid (dateOf_any n0 y0 m0 k0 W hd0 h90)
  have KR := fun W => Lib.hid (dayR_any s y0 W)
  have HX := Lib.hid hx
  have hfd := field_date
  have hid := index_date
  clear hd0 h90 hx hn0
  go_enter Tryz.func30, Tryz.ntmps30
  go_wp2_with (first
    | (go_at_call 51; refine Calls.mono (KT _).out ?_; rintro e W1 ⟨rfl, rfl⟩)
    | (go_at_call 52; (with_reducible refine Calls.mono (KD0 _).out ?_); clear KD0; rintro e w1 ⟨rfl, hb1⟩; have B1 := Lib.hid hb1; clear hb1)
    | (go_at_call 65; refine Calls.mono (KR _).out ?_; rintro e w2 ⟨b, q, Dd, rfl, hF, hb2⟩; have B2 := Lib.hid (Bl.step B1.out hb2); have hlk := look_ok lawU8 Tryz.underlying86 (zeroG w2) hF.out.1 hF.out.2 x Tryz.underlying5; rw [HX.out] at hlk; clear hb2))
  go_ret2
  exact ⟨rfl, B2.out⟩
set_option maxHeartbeats 1000000 in
theorem ReadDay_bad (s : ByteArray) (n x : Int) (w : World) (h : ¬ (0 ≤ n ∧ n ≤ 3652058)) : Calls Tryz.prog 30 #[.string s, .int .u8 x, .int .i64 n] w (Gives w #[.int .i64 0, .int .i64 1]) := by
  have KT := fun W => Lib.hid (isDay_any n W)
  rw [inR_false h] at KT
  clear h
  go_enter Tryz.func30, Tryz.ntmps30
  go_wp2_with (go_at_call 51; refine Calls.mono (KT _).out ?_; rintro e W1 ⟨rfl, rfl⟩)
  go_ret2
  exact ⟨rfl, Below.refl _ _⟩
end Go.Proofs.YtmjifmlibgpjiaaGreatDoor
