/- ReadDay of dates with short years. -/
import Derived.Test.YtmjifmlibgpjiaaGreatDoorDo
import Derived.Test.YtmjifmlibgpjiaaGreatDoorCh
namespace Go.Proofs.YtmjifmlibgpjiaaGreatDoor
open Go.RowKit Go.Shelf Tx Go.Maps
set_option linter.unusedVariables false
set_option maxRecDepth 100000

theorem isCal_uniq {n n' : Nat} {y m k : Int} (h : IsCal n y m k) (h' : IsCal n' y m k) : n = n' := by
  obtain ⟨a, b, c, e1, e2, e3, hd, _⟩ := h
  obtain ⟨a', b', c', f1, f2, f3, hd', _⟩ := h'
  obtain rfl : a = a' := by omega
  obtain rfl : b = b' := by omega
  obtain rfl : c = c' := by omega
  rw [hd.eq, hd'.eq]
theorem calYes {y m k : Int} {n : Nat} {f : FuncId} {args : Array Value} {w : World} (h : Calls Tryz.prog f args w (GivesC y m k w)) (hn : IsCal n y m k) : Calls Tryz.prog f args w fun e w' => e = .returned (.tuple #[.int .i64 (n : Int), .bool true]) ∧ Below w.heap.size w w' := by
  refine h.mono ?_
  rintro e w' ⟨r, b, rfl, hr, hb⟩
  rcases hr.out with ⟨rfl, n', rfl, hc⟩ | ⟨_, _, hno⟩
  · rw [isCal_uniq hc hn]; exact ⟨rfl, hb⟩
  · exact absurd hn (hno n)
theorem str_ne {t u : ByteArray} {l : List UInt8} (ht : bts t = l) (hu : bts u = l) : (t.toList != u.toList) = false := by rw [toList_bts, toList_bts, ht, hu]; simp
set_option maxHeartbeats 4000000 in
theorem ReadDay_E_yes (s : ByteArray) (n0 y0 m0 k0 n y m k : Nat) (w : World) (hd0 : IsDate n0 y0 m0 k0) (h90 : y0 ≤ 9999) (hd : IsDate n y m k) (h9 : y ≤ 9999) (hy : fyR y0 (num3 (bts s)) = (y : Int)) (hm : (num2 (bts s)) = (m : Int)) (hk : (num1 (bts s)) = (k : Int)) (hf : bts s = shortL (k % 100) (m % 100) (y % 100)) (hs : s.size ≤ 1000000) (hS : SufOk s) (hE : Env w) :
    Calls Tryz.prog 30 #[.string s, .int .u8 69, .int .i64 (n0 : Int)] w (Gives w #[.int .i64 (n : Int), .int .i64 0]) := by
  have hcal : IsCal n (fyR y0 (num3 (bts s))) (num2 (bts s)) (num1 (bts s)) := ⟨y, m, k, hy, hm, hk, hd, h9⟩
  have hn0 := isDate_max hd0 h90
  have KT := fun W => Lib.hid (isDay_any (n0 : Int) W)
  rw [inR_true (by omega) (by omega)] at KT
  have KD0 := fun W => Lib.hid (dateOf_any n0 y0 m0 k0 W hd0 h90)
  have KD := fun W => Lib.hid (dateOf_any n y m k W hd h9)
  have KR := fun W => Lib.hid (dayR_any s y0 W)
  have KX := fun W => Lib.hid (calYes (r_european_any s y0 W hs hS h90) hcal)
  have KF := fun W => Lib.hid (datF_any y m k W)
  have KG := fun W hW => Lib.hid (european_any y m k W h9 hd.m12 (by have := hd.kd; have := dim_pos y m; omega) hW)
  have HE := Lib.hid hE
  have HF := Lib.hid hf
  have hfd := field_date
  have hid := index_date
  unfold dtV at KF KG
  clear hd0 h90 hd h9 hy hm hk hf hs hS hE hcal hn0
  go_enter Tryz.func30, Tryz.ntmps30
  go_wp2_with (first
    | (go_at_call 51; refine Calls.mono (KT _).out ?_; rintro e W1 ⟨rfl, rfl⟩)
    | (go_at_call 52; first | ((with_reducible refine Calls.mono (KD0 _).out ?_); clear KD0; rintro e w1 ⟨rfl, hb1⟩; have B1 := Lib.hid hb1; clear hb1) | ((with_reducible refine Calls.mono (KD _).out ?_); rintro e w4 ⟨rfl, hb4⟩; have B4 := Lib.hid (Bl.step B3.out hb4); clear hb4))
    | (go_at_call 65; refine Calls.mono (KR _).out ?_; rintro e w2 ⟨b, q, Dd, rfl, hF, hb2⟩; have B2 := Lib.hid (Bl.step B1.out hb2); have hlk : (Instr.lookup 86 (.map (some b)) (.int .u8 69) true).run Tryz.prog w2 = .ok (.tuple #[.func (.func 100) #[.agg #[.string s, .int .i64 (y0 : Int)]] #[], .bool true]) w2 := (look_ok lawU8 Tryz.underlying86 (zeroG w2) hF.out.1 hF.out.2 69 Tryz.underlying5); clear hb2)
    | (go_at_call 100; refine Calls.mono (KX _).out ?_; rintro e w3 ⟨rfl, hb3⟩; have B3 := Lib.hid (Bl.step B2.out hb3); clear hb3)
    | (go_at_call 60; refine Calls.mono (KF _).out ?_; rintro e w5 ⟨b5, q5, D5, rfl, hF5, hb5⟩; have B5 := Lib.hid (Bl.step B4.out hb5); have hlk5 : (Instr.lookup 81 (.map (some b5)) (.int .u8 69) false).run Tryz.prog w5 = .ok (.func (.func 90) #[.agg #[.int .i64 (y : Int), .int .i64 (m : Int), .int .i64 (k : Int)]] #[]) w5 := (look_no lawU8 Tryz.underlying81 (zeroF w5) hF5.out.1 hF5.out.2 69 Tryz.underlying5); clear hb5)
    | (go_at_call 90; refine Calls.mono (KG _ (HE.out.below B5.out)).out ?_; rintro e w6 ⟨t, rfl, ht, hb6⟩; have B6 := Lib.hid (Bl.step B5.out hb6); obtain rfl : t = s := bts_inj (ht.out.trans HF.out.symm); clear hb6))
  go_ret2
  exact ⟨rfl, B6.out⟩
set_option maxHeartbeats 4000000 in
theorem ReadDay_O_yes (s : ByteArray) (n0 y0 m0 k0 n y m k : Nat) (w : World) (hd0 : IsDate n0 y0 m0 k0) (h90 : y0 ≤ 9999) (hd : IsDate n y m k) (h9 : y ≤ 9999) (hy : fyR y0 (num1 (bts s)) = (y : Int)) (hm : (num2 (bts s)) = (m : Int)) (hk : (num3 (bts s)) = (k : Int)) (hf : bts s = shortL (y % 100) (m % 100) (k % 100)) (hs : s.size ≤ 1000000) (hS : SufOk s) (hE : Env w) :
    Calls Tryz.prog 30 #[.string s, .int .u8 79, .int .i64 (n0 : Int)] w (Gives w #[.int .i64 (n : Int), .int .i64 0]) := by
  have hcal : IsCal n (fyR y0 (num1 (bts s))) (num2 (bts s)) (num3 (bts s)) := ⟨y, m, k, hy, hm, hk, hd, h9⟩
  have hn0 := isDate_max hd0 h90
  have KT := fun W => Lib.hid (isDay_any (n0 : Int) W)
  rw [inR_true (by omega) (by omega)] at KT
  have KD0 := fun W => Lib.hid (dateOf_any n0 y0 m0 k0 W hd0 h90)
  have KD := fun W => Lib.hid (dateOf_any n y m k W hd h9)
  have KR := fun W => Lib.hid (dayR_any s y0 W)
  have KX := fun W => Lib.hid (calYes (r_ordered_any s y0 W hs hS h90) hcal)
  have KF := fun W => Lib.hid (datF_any y m k W)
  have KG := fun W hW => Lib.hid (ordered_any y m k W h9 hd.m12 (by have := hd.kd; have := dim_pos y m; omega) hW)
  have HE := Lib.hid hE
  have HF := Lib.hid hf
  have hfd := field_date
  have hid := index_date
  unfold dtV at KF KG
  clear hd0 h90 hd h9 hy hm hk hf hs hS hE hcal hn0
  go_enter Tryz.func30, Tryz.ntmps30
  go_wp2_with (first
    | (go_at_call 51; refine Calls.mono (KT _).out ?_; rintro e W1 ⟨rfl, rfl⟩)
    | (go_at_call 52; first | ((with_reducible refine Calls.mono (KD0 _).out ?_); clear KD0; rintro e w1 ⟨rfl, hb1⟩; have B1 := Lib.hid hb1; clear hb1) | ((with_reducible refine Calls.mono (KD _).out ?_); rintro e w4 ⟨rfl, hb4⟩; have B4 := Lib.hid (Bl.step B3.out hb4); clear hb4))
    | (go_at_call 65; refine Calls.mono (KR _).out ?_; rintro e w2 ⟨b, q, Dd, rfl, hF, hb2⟩; have B2 := Lib.hid (Bl.step B1.out hb2); have hlk : (Instr.lookup 86 (.map (some b)) (.int .u8 79) true).run Tryz.prog w2 = .ok (.tuple #[.func (.func 103) #[.agg #[.string s, .int .i64 (y0 : Int)]] #[], .bool true]) w2 := (look_ok lawU8 Tryz.underlying86 (zeroG w2) hF.out.1 hF.out.2 79 Tryz.underlying5); clear hb2)
    | (go_at_call 103; refine Calls.mono (KX _).out ?_; rintro e w3 ⟨rfl, hb3⟩; have B3 := Lib.hid (Bl.step B2.out hb3); clear hb3)
    | (go_at_call 60; refine Calls.mono (KF _).out ?_; rintro e w5 ⟨b5, q5, D5, rfl, hF5, hb5⟩; have B5 := Lib.hid (Bl.step B4.out hb5); have hlk5 : (Instr.lookup 81 (.map (some b5)) (.int .u8 79) false).run Tryz.prog w5 = .ok (.func (.func 94) #[.agg #[.int .i64 (y : Int), .int .i64 (m : Int), .int .i64 (k : Int)]] #[]) w5 := (look_no lawU8 Tryz.underlying81 (zeroF w5) hF5.out.1 hF5.out.2 79 Tryz.underlying5); clear hb5)
    | (go_at_call 94; refine Calls.mono (KG _ (HE.out.below B5.out)).out ?_; rintro e w6 ⟨t, rfl, ht, hb6⟩; have B6 := Lib.hid (Bl.step B5.out hb6); obtain rfl : t = s := bts_inj (ht.out.trans HF.out.symm); clear hb6))
  go_ret2
  exact ⟨rfl, B6.out⟩
set_option maxHeartbeats 4000000 in
theorem ReadDay_U_yes (s : ByteArray) (n0 y0 m0 k0 n y m k : Nat) (w : World) (hd0 : IsDate n0 y0 m0 k0) (h90 : y0 ≤ 9999) (hd : IsDate n y m k) (h9 : y ≤ 9999) (hy : fyR y0 (num3 (bts s)) = (y : Int)) (hm : (num1 (bts s)) = (m : Int)) (hk : (num2 (bts s)) = (k : Int)) (hf : bts s = shortL (m % 100) (k % 100) (y % 100)) (hs : s.size ≤ 1000000) (hS : SufOk s) (hE : Env w) :
    Calls Tryz.prog 30 #[.string s, .int .u8 85, .int .i64 (n0 : Int)] w (Gives w #[.int .i64 (n : Int), .int .i64 0]) := by
  have hcal : IsCal n (fyR y0 (num3 (bts s))) (num1 (bts s)) (num2 (bts s)) := ⟨y, m, k, hy, hm, hk, hd, h9⟩
  have hn0 := isDate_max hd0 h90
  have KT := fun W => Lib.hid (isDay_any (n0 : Int) W)
  rw [inR_true (by omega) (by omega)] at KT
  have KD0 := fun W => Lib.hid (dateOf_any n0 y0 m0 k0 W hd0 h90)
  have KD := fun W => Lib.hid (dateOf_any n y m k W hd h9)
  have KR := fun W => Lib.hid (dayR_any s y0 W)
  have KX := fun W => Lib.hid (calYes (r_usa_any s y0 W hs hS h90) hcal)
  have KF := fun W => Lib.hid (datF_any y m k W)
  have KG := fun W hW => Lib.hid (usa_any y m k W h9 hd.m12 (by have := hd.kd; have := dim_pos y m; omega) hW)
  have HE := Lib.hid hE
  have HF := Lib.hid hf
  have hfd := field_date
  have hid := index_date
  unfold dtV at KF KG
  clear hd0 h90 hd h9 hy hm hk hf hs hS hE hcal hn0
  go_enter Tryz.func30, Tryz.ntmps30
  go_wp2_with (first
    | (go_at_call 51; refine Calls.mono (KT _).out ?_; rintro e W1 ⟨rfl, rfl⟩)
    | (go_at_call 52; first | ((with_reducible refine Calls.mono (KD0 _).out ?_); clear KD0; rintro e w1 ⟨rfl, hb1⟩; have B1 := Lib.hid hb1; clear hb1) | ((with_reducible refine Calls.mono (KD _).out ?_); rintro e w4 ⟨rfl, hb4⟩; have B4 := Lib.hid (Bl.step B3.out hb4); clear hb4))
    | (go_at_call 65; refine Calls.mono (KR _).out ?_; rintro e w2 ⟨b, q, Dd, rfl, hF, hb2⟩; have B2 := Lib.hid (Bl.step B1.out hb2); have hlk : (Instr.lookup 86 (.map (some b)) (.int .u8 85) true).run Tryz.prog w2 = .ok (.tuple #[.func (.func 105) #[.agg #[.string s, .int .i64 (y0 : Int)]] #[], .bool true]) w2 := (look_ok lawU8 Tryz.underlying86 (zeroG w2) hF.out.1 hF.out.2 85 Tryz.underlying5); clear hb2)
    | (go_at_call 105; refine Calls.mono (KX _).out ?_; rintro e w3 ⟨rfl, hb3⟩; have B3 := Lib.hid (Bl.step B2.out hb3); clear hb3)
    | (go_at_call 60; refine Calls.mono (KF _).out ?_; rintro e w5 ⟨b5, q5, D5, rfl, hF5, hb5⟩; have B5 := Lib.hid (Bl.step B4.out hb5); have hlk5 : (Instr.lookup 81 (.map (some b5)) (.int .u8 85) false).run Tryz.prog w5 = .ok (.func (.func 96) #[.agg #[.int .i64 (y : Int), .int .i64 (m : Int), .int .i64 (k : Int)]] #[]) w5 := (look_no lawU8 Tryz.underlying81 (zeroF w5) hF5.out.1 hF5.out.2 85 Tryz.underlying5); clear hb5)
    | (go_at_call 96; refine Calls.mono (KG _ (HE.out.below B5.out)).out ?_; rintro e w6 ⟨t, rfl, ht, hb6⟩; have B6 := Lib.hid (Bl.step B5.out hb6); obtain rfl : t = s := bts_inj (ht.out.trans HF.out.symm); clear hb6))
  go_ret2
  exact ⟨rfl, B6.out⟩
end Go.Proofs.YtmjifmlibgpjiaaGreatDoor
