/- ReadDay, at any text, of the formats without names. -/
import Derived.Test.YtmjifmlibgpjiaaGreatDoorGk
import Derived.Test.YtmjifmlibgpjiaaGreatDoorGd
namespace Go.Proofs.YtmjifmlibgpjiaaGreatDoor
open Go.RowKit Go.Shelf Tx Go.Maps
set_option linter.unusedVariables false
set_option maxRecDepth 100000

namespace Tx
open Classical in
/-- The day of a date, if it is one of the calendar. -/
noncomputable def calOf (y m k : Int) : Option Nat := if h : ∃ n, IsCal n y m k then some (Classical.choose h) else none
/-- A day, if it is one of the calendar. -/
def dayIn (v : Int) : Option Nat := if 0 ≤ v ∧ v ≤ 3652058 then some v.toNat else none
end Tx
theorem calOf_some {y m k : Int} {n : Nat} (h : IsCal n y m k) : calOf y m k = some n := by
  unfold calOf
  have hex : ∃ n, IsCal n y m k := ⟨n, h⟩
  rw [dif_pos hex, isCal_uniq (Classical.choose_spec hex) h]
theorem calOf_none {y m k : Int} (h : ∀ n, ¬ IsCal n y m k) : calOf y m k = none := by
  unfold calOf
  rw [dif_neg (fun ⟨n, hn⟩ => h n hn)]
theorem calOf_is {y m k : Int} {n : Nat} (h : calOf y m k = some n) : IsCal n y m k := by
  unfold calOf at h
  split at h
  · rename_i hex
    cases h
    exact Classical.choose_spec hex
  · cases h
theorem cal_to {y m k : Int} {f : FuncId} {args : Array Value} {w : World} (h : Calls Tryz.prog f args w (GivesC y m k w)) : Calls Tryz.prog f args w (GivesO w (calOf y m k)) := by
  refine h.mono ?_
  rintro e w' ⟨r, b, rfl, hr, hb⟩
  rcases hr.out with ⟨rfl, n', rfl, hc⟩ | ⟨rfl, rfl, hno⟩
  · rw [calOf_some hc]; exact ⟨rfl, hb⟩
  · rw [calOf_none hno]; exact ⟨rfl, hb⟩
theorem day_to {v : Int} {f : FuncId} {args : Array Value} {w : World} (h : Calls Tryz.prog f args w (GivesN0 v w)) : Calls Tryz.prog f args w (GivesO w (dayIn v)) := by
  refine h.mono ?_
  rintro e w' ⟨rfl, hb⟩
  refine ⟨?_, hb⟩
  unfold dayIn
  by_cases hv : 0 ≤ v ∧ v ≤ 3652058
  · rw [if_pos hv, if_pos hv, decide_eq_true hv]
    show _ = Ending.returned (.tuple #[.int .i64 ((v.toNat : Nat) : Int), .bool true])
    rw [Int.toNat_of_nonneg hv.1]
  · rw [if_neg hv, if_neg hv, decide_eq_false hv]
    rfl
theorem d_days_any' (s : ByteArray) (y : Nat) (w : World) (hs : s.size ≤ 1000000) (h1 : 1 ≤ y) (h9 : y ≤ 9999) : Calls Tryz.prog 99 #[.agg #[.string s, .int .i64 (y : Int)]] w (GivesN0 ((bef (y - 1) : Int) - 1 + num1 (bts s)) w) := by
  obtain ⟨p, rfl⟩ : ∃ p, y = p + 1 := ⟨y - 1, by omega⟩
  rw [show ((p + 1 : Nat) : Int) = (p : Int) + 1 by omega, Nat.add_sub_cancel]
  exact d_days_any s p w hs (by omega)
set_option maxHeartbeats 4000000 in
theorem ReadDay_B_none (s : ByteArray) (n0 y0 m0 k0 : Nat) (w : World) (hd0 : IsDate n0 y0 m0 k0) (h90 : y0 ≤ 9999) (hs : s.size ≤ 1000000) (hR : dayIn (num1 (bts s)) = none) : Calls Tryz.prog 30 #[.string s, .int .u8 66, .int .i64 (n0 : Int)] w (Gives w #[.int .i64 0, .int .i64 2]) := by
  have hn0 := isDate_max hd0 h90
  have KT := fun W => Lib.hid (isDay_any (n0 : Int) W)
  rw [inR_true (by omega) (by omega)] at KT
  have KD0 := fun W => Lib.hid (dateOf_any n0 y0 m0 k0 W hd0 h90)
  have KR := fun W => Lib.hid (dayR_any s y0 W)
  have KX := fun W => Lib.hid (show Calls Tryz.prog 98 #[.agg #[.string s, .int .i64 (y0 : Int)]] W (fun e w' => e = .returned (.tuple #[.int .i64 0, .bool false]) ∧ Below W.heap.size W w') from by have h := day_to (d_base_any s (y0 : Int) W hs); rw [hR] at h; exact h)
  have hfd := field_date
  have hid := index_date
  clear hd0 h90 hs hR hn0
  go_enter Tryz.func30, Tryz.ntmps30
  go_wp2_with (first
    | (go_at_call 51; refine Calls.mono (KT _).out ?_; rintro e W1 ⟨rfl, rfl⟩)
    | (go_at_call 52; (with_reducible refine Calls.mono (KD0 _).out ?_); clear KD0; rintro e w1 ⟨rfl, hb1⟩; have B1 := Lib.hid hb1; clear hb1)
    | (go_at_call 65; refine Calls.mono (KR _).out ?_; rintro e w2 ⟨b, q, Dd, rfl, hF, hb2⟩; have B2 := Lib.hid (Bl.step B1.out hb2); have hlk : (Instr.lookup 86 (.map (some b)) (.int .u8 66) true).run Tryz.prog w2 = .ok (.tuple #[.func (.func 98) #[.agg #[.string s, .int .i64 (y0 : Int)]] #[], .bool true]) w2 := (look_ok lawU8 Tryz.underlying86 (zeroG w2) hF.out.1 hF.out.2 66 Tryz.underlying5); clear hb2)
    | (go_at_call 98; refine Calls.mono (KX _).out ?_; rintro e w3 ⟨rfl, hb3⟩; have B3 := Lib.hid (Bl.step B2.out hb3); clear hb3))
  go_ret2
  exact ⟨rfl, B3.out⟩
set_option maxHeartbeats 4000000 in
theorem ReadDay_B_ok (s : ByteArray) (n0 y0 m0 k0 : Nat) (w : World) (hd0 : IsDate n0 y0 m0 k0) (h90 : y0 ≤ 9999) (hs : s.size ≤ 1000000) (n y m k : Nat) (hd : IsDate n y m k) (h9 : y ≤ 9999) (hR : dayIn (num1 (bts s)) = some n) (hf : bts s = Lib.decDigits n) (hE : Env w) : Calls Tryz.prog 30 #[.string s, .int .u8 66, .int .i64 (n0 : Int)] w (Gives w #[.int .i64 (n : Int), .int .i64 0]) := by
  have hn0 := isDate_max hd0 h90
  have KT := fun W => Lib.hid (isDay_any (n0 : Int) W)
  rw [inR_true (by omega) (by omega)] at KT
  have KD0 := fun W => Lib.hid (dateOf_any n0 y0 m0 k0 W hd0 h90)
  have KR := fun W => Lib.hid (dayR_any s y0 W)
  have KX := fun W => Lib.hid (show Calls Tryz.prog 98 #[.agg #[.string s, .int .i64 (y0 : Int)]] W (fun e w' => e = .returned (.tuple #[.int .i64 (n : Int), .bool true]) ∧ Below W.heap.size W w') from by have h := day_to (d_base_any s (y0 : Int) W hs); rw [hR] at h; exact h)
  have hk31 : k ≤ 31 := by have := hd.kd; have := dim_pos y m; omega
  have KD := fun W => Lib.hid (dateOf_any n y m k W hd h9)
  have KF := fun W => Lib.hid (datF_any y m k W)
  have KG := fun W hW => Lib.hid (base_any n y m k W hd h9 hW)
  have HE := Lib.hid hE
  have HF := Lib.hid hf
  have hfd := field_date
  have hid := index_date
  unfold dtV at KF KG
  clear hd0 h90 hd h9 hf hs hE hn0 hR hk31
  go_enter Tryz.func30, Tryz.ntmps30
  go_wp2_with (first
    | (go_at_call 51; refine Calls.mono (KT _).out ?_; rintro e W1 ⟨rfl, rfl⟩)
    | (go_at_call 52; (with_reducible refine Calls.mono (KD0 _).out ?_); clear KD0; rintro e w1 ⟨rfl, hb1⟩; have B1 := Lib.hid hb1; clear hb1)
    | (go_at_call 65; refine Calls.mono (KR _).out ?_; rintro e w2 ⟨b, q, Dd, rfl, hF, hb2⟩; have B2 := Lib.hid (Bl.step B1.out hb2); have hlk : (Instr.lookup 86 (.map (some b)) (.int .u8 66) true).run Tryz.prog w2 = .ok (.tuple #[.func (.func 98) #[.agg #[.string s, .int .i64 (y0 : Int)]] #[], .bool true]) w2 := (look_ok lawU8 Tryz.underlying86 (zeroG w2) hF.out.1 hF.out.2 66 Tryz.underlying5); clear hb2)
    | (go_at_call 98; refine Calls.mono (KX _).out ?_; rintro e w3 ⟨rfl, hb3⟩; have B3 := Lib.hid (Bl.step B2.out hb3); clear hb3)
    | (go_at_call 52; (with_reducible refine Calls.mono (KD _).out ?_); rintro e w4 ⟨rfl, hb4⟩; have B4 := Lib.hid (Bl.step B3.out hb4); clear hb4)
    | (go_at_call 60; refine Calls.mono (KF _).out ?_; rintro e w5 ⟨b5, q5, D5, rfl, hF5, hb5⟩; have B5 := Lib.hid (Bl.step B4.out hb5); have hlk5 : (Instr.lookup 81 (.map (some b5)) (.int .u8 66) false).run Tryz.prog w5 = .ok (.func (.func 87) #[.agg #[.int .i64 (y : Int), .int .i64 (m : Int), .int .i64 (k : Int)]] #[]) w5 := (look_no lawU8 Tryz.underlying81 (zeroF w5) hF5.out.1 hF5.out.2 66 Tryz.underlying5); clear hb5)
    | (go_at_call 87; refine Calls.mono (KG _ (HE.out.below B5.out)).out ?_; rintro e w6 ⟨t, rfl, ht, hb6⟩; have B6 := Lib.hid (Bl.step B5.out hb6); obtain rfl : t = s := bts_inj (ht.out.trans HF.out.symm); clear hb6))
  go_ret2
  exact ⟨rfl, B6.out⟩
set_option maxHeartbeats 4000000 in
theorem ReadDay_B_ne (s : ByteArray) (n0 y0 m0 k0 : Nat) (w : World) (hd0 : IsDate n0 y0 m0 k0) (h90 : y0 ≤ 9999) (hs : s.size ≤ 1000000) (n y m k : Nat) (hd : IsDate n y m k) (h9 : y ≤ 9999) (hR : dayIn (num1 (bts s)) = some n) (hf : ¬ bts s = Lib.decDigits n) (hE : Env w) : Calls Tryz.prog 30 #[.string s, .int .u8 66, .int .i64 (n0 : Int)] w (Gives w #[.int .i64 0, .int .i64 2]) := by
  have hn0 := isDate_max hd0 h90
  have KT := fun W => Lib.hid (isDay_any (n0 : Int) W)
  rw [inR_true (by omega) (by omega)] at KT
  have KD0 := fun W => Lib.hid (dateOf_any n0 y0 m0 k0 W hd0 h90)
  have KR := fun W => Lib.hid (dayR_any s y0 W)
  have KX := fun W => Lib.hid (show Calls Tryz.prog 98 #[.agg #[.string s, .int .i64 (y0 : Int)]] W (fun e w' => e = .returned (.tuple #[.int .i64 (n : Int), .bool true]) ∧ Below W.heap.size W w') from by have h := day_to (d_base_any s (y0 : Int) W hs); rw [hR] at h; exact h)
  have hk31 : k ≤ 31 := by have := hd.kd; have := dim_pos y m; omega
  have KD := fun W => Lib.hid (dateOf_any n y m k W hd h9)
  have KF := fun W => Lib.hid (datF_any y m k W)
  have KG := fun W hW => Lib.hid (base_any n y m k W hd h9 hW)
  have HE := Lib.hid hE
  have HF := Lib.hid hf
  have hfd := field_date
  have hid := index_date
  unfold dtV at KF KG
  clear hd0 h90 hd h9 hf hs hE hn0 hR hk31
  go_enter Tryz.func30, Tryz.ntmps30
  go_wp2_with (first
    | (go_at_call 51; refine Calls.mono (KT _).out ?_; rintro e W1 ⟨rfl, rfl⟩)
    | (go_at_call 52; (with_reducible refine Calls.mono (KD0 _).out ?_); clear KD0; rintro e w1 ⟨rfl, hb1⟩; have B1 := Lib.hid hb1; clear hb1)
    | (go_at_call 65; refine Calls.mono (KR _).out ?_; rintro e w2 ⟨b, q, Dd, rfl, hF, hb2⟩; have B2 := Lib.hid (Bl.step B1.out hb2); have hlk : (Instr.lookup 86 (.map (some b)) (.int .u8 66) true).run Tryz.prog w2 = .ok (.tuple #[.func (.func 98) #[.agg #[.string s, .int .i64 (y0 : Int)]] #[], .bool true]) w2 := (look_ok lawU8 Tryz.underlying86 (zeroG w2) hF.out.1 hF.out.2 66 Tryz.underlying5); clear hb2)
    | (go_at_call 98; refine Calls.mono (KX _).out ?_; rintro e w3 ⟨rfl, hb3⟩; have B3 := Lib.hid (Bl.step B2.out hb3); clear hb3)
    | (go_at_call 52; (with_reducible refine Calls.mono (KD _).out ?_); rintro e w4 ⟨rfl, hb4⟩; have B4 := Lib.hid (Bl.step B3.out hb4); clear hb4)
    | (go_at_call 60; refine Calls.mono (KF _).out ?_; rintro e w5 ⟨b5, q5, D5, rfl, hF5, hb5⟩; have B5 := Lib.hid (Bl.step B4.out hb5); have hlk5 : (Instr.lookup 81 (.map (some b5)) (.int .u8 66) false).run Tryz.prog w5 = .ok (.func (.func 87) #[.agg #[.int .i64 (y : Int), .int .i64 (m : Int), .int .i64 (k : Int)]] #[]) w5 := (look_no lawU8 Tryz.underlying81 (zeroF w5) hF5.out.1 hF5.out.2 66 Tryz.underlying5); clear hb5)
    | (go_at_call 87; refine Calls.mono (KG _ (HE.out.below B5.out)).out ?_; rintro e w6 ⟨t, rfl, ht, hb6⟩; have B6 := Lib.hid (Bl.step B5.out hb6); have hne : ¬ t.toList = s.toList := (by rw [toList_bts, toList_bts, ht.out]; exact fun q => HF.out q.symm); have hne2 : (t.toList == s.toList) = false := (beq_eq_false_iff_ne.2 hne); clear hb6))
  go_ret2
  exact ⟨rfl, B6.out⟩
set_option maxHeartbeats 4000000 in
theorem ReadDay_D_none (s : ByteArray) (n0 y0 m0 k0 : Nat) (w : World) (hd0 : IsDate n0 y0 m0 k0) (h90 : y0 ≤ 9999) (hs : s.size ≤ 1000000) (hR : dayIn ((bef (y0 - 1) : Int) - 1 + num1 (bts s)) = none) : Calls Tryz.prog 30 #[.string s, .int .u8 68, .int .i64 (n0 : Int)] w (Gives w #[.int .i64 0, .int .i64 2]) := by
  have hn0 := isDate_max hd0 h90
  have KT := fun W => Lib.hid (isDay_any (n0 : Int) W)
  rw [inR_true (by omega) (by omega)] at KT
  have KD0 := fun W => Lib.hid (dateOf_any n0 y0 m0 k0 W hd0 h90)
  have KR := fun W => Lib.hid (dayR_any s y0 W)
  have KX := fun W => Lib.hid (show Calls Tryz.prog 99 #[.agg #[.string s, .int .i64 (y0 : Int)]] W (fun e w' => e = .returned (.tuple #[.int .i64 0, .bool false]) ∧ Below W.heap.size W w') from by have h := day_to (d_days_any' s y0 W hs hd0.y1 h90); rw [hR] at h; exact h)
  have hfd := field_date
  have hid := index_date
  clear hd0 h90 hs hR hn0
  go_enter Tryz.func30, Tryz.ntmps30
  go_wp2_with (first
    | (go_at_call 51; refine Calls.mono (KT _).out ?_; rintro e W1 ⟨rfl, rfl⟩)
    | (go_at_call 52; (with_reducible refine Calls.mono (KD0 _).out ?_); clear KD0; rintro e w1 ⟨rfl, hb1⟩; have B1 := Lib.hid hb1; clear hb1)
    | (go_at_call 65; refine Calls.mono (KR _).out ?_; rintro e w2 ⟨b, q, Dd, rfl, hF, hb2⟩; have B2 := Lib.hid (Bl.step B1.out hb2); have hlk : (Instr.lookup 86 (.map (some b)) (.int .u8 68) true).run Tryz.prog w2 = .ok (.tuple #[.func (.func 99) #[.agg #[.string s, .int .i64 (y0 : Int)]] #[], .bool true]) w2 := (look_ok lawU8 Tryz.underlying86 (zeroG w2) hF.out.1 hF.out.2 68 Tryz.underlying5); clear hb2)
    | (go_at_call 99; refine Calls.mono (KX _).out ?_; rintro e w3 ⟨rfl, hb3⟩; have B3 := Lib.hid (Bl.step B2.out hb3); clear hb3))
  go_ret2
  exact ⟨rfl, B3.out⟩
set_option maxHeartbeats 4000000 in
theorem ReadDay_D_ok (s : ByteArray) (n0 y0 m0 k0 : Nat) (w : World) (hd0 : IsDate n0 y0 m0 k0) (h90 : y0 ≤ 9999) (hs : s.size ≤ 1000000) (n y m k : Nat) (hd : IsDate n y m k) (h9 : y ≤ 9999) (hR : dayIn ((bef (y0 - 1) : Int) - 1 + num1 (bts s)) = some n) (hf : bts s = Lib.decDigits (n - bef (y - 1) + 1)) (hE : Env w) : Calls Tryz.prog 30 #[.string s, .int .u8 68, .int .i64 (n0 : Int)] w (Gives w #[.int .i64 (n : Int), .int .i64 0]) := by
  have hn0 := isDate_max hd0 h90
  have KT := fun W => Lib.hid (isDay_any (n0 : Int) W)
  rw [inR_true (by omega) (by omega)] at KT
  have KD0 := fun W => Lib.hid (dateOf_any n0 y0 m0 k0 W hd0 h90)
  have KR := fun W => Lib.hid (dayR_any s y0 W)
  have KX := fun W => Lib.hid (show Calls Tryz.prog 99 #[.agg #[.string s, .int .i64 (y0 : Int)]] W (fun e w' => e = .returned (.tuple #[.int .i64 (n : Int), .bool true]) ∧ Below W.heap.size W w') from by have h := day_to (d_days_any' s y0 W hs hd0.y1 h90); rw [hR] at h; exact h)
  have hk31 : k ≤ 31 := by have := hd.kd; have := dim_pos y m; omega
  have KD := fun W => Lib.hid (dateOf_any n y m k W hd h9)
  have KF := fun W => Lib.hid (datF_any y m k W)
  have KG := fun W hW => Lib.hid (days_any n y m k W hd h9 hW)
  have HE := Lib.hid hE
  have HF := Lib.hid hf
  have hfd := field_date
  have hid := index_date
  unfold dtV at KF KG
  clear hd0 h90 hd h9 hf hs hE hn0 hR hk31
  go_enter Tryz.func30, Tryz.ntmps30
  go_wp2_with (first
    | (go_at_call 51; refine Calls.mono (KT _).out ?_; rintro e W1 ⟨rfl, rfl⟩)
    | (go_at_call 52; (with_reducible refine Calls.mono (KD0 _).out ?_); clear KD0; rintro e w1 ⟨rfl, hb1⟩; have B1 := Lib.hid hb1; clear hb1)
    | (go_at_call 65; refine Calls.mono (KR _).out ?_; rintro e w2 ⟨b, q, Dd, rfl, hF, hb2⟩; have B2 := Lib.hid (Bl.step B1.out hb2); have hlk : (Instr.lookup 86 (.map (some b)) (.int .u8 68) true).run Tryz.prog w2 = .ok (.tuple #[.func (.func 99) #[.agg #[.string s, .int .i64 (y0 : Int)]] #[], .bool true]) w2 := (look_ok lawU8 Tryz.underlying86 (zeroG w2) hF.out.1 hF.out.2 68 Tryz.underlying5); clear hb2)
    | (go_at_call 99; refine Calls.mono (KX _).out ?_; rintro e w3 ⟨rfl, hb3⟩; have B3 := Lib.hid (Bl.step B2.out hb3); clear hb3)
    | (go_at_call 52; (with_reducible refine Calls.mono (KD _).out ?_); rintro e w4 ⟨rfl, hb4⟩; have B4 := Lib.hid (Bl.step B3.out hb4); clear hb4)
    | (go_at_call 60; refine Calls.mono (KF _).out ?_; rintro e w5 ⟨b5, q5, D5, rfl, hF5, hb5⟩; have B5 := Lib.hid (Bl.step B4.out hb5); have hlk5 : (Instr.lookup 81 (.map (some b5)) (.int .u8 68) false).run Tryz.prog w5 = .ok (.func (.func 89) #[.agg #[.int .i64 (y : Int), .int .i64 (m : Int), .int .i64 (k : Int)]] #[]) w5 := (look_no lawU8 Tryz.underlying81 (zeroF w5) hF5.out.1 hF5.out.2 68 Tryz.underlying5); clear hb5)
    | (go_at_call 89; refine Calls.mono (KG _ (HE.out.below B5.out)).out ?_; rintro e w6 ⟨t, rfl, ht, hb6⟩; have B6 := Lib.hid (Bl.step B5.out hb6); obtain rfl : t = s := bts_inj (ht.out.trans HF.out.symm); clear hb6))
  go_ret2
  exact ⟨rfl, B6.out⟩
set_option maxHeartbeats 4000000 in
theorem ReadDay_D_ne (s : ByteArray) (n0 y0 m0 k0 : Nat) (w : World) (hd0 : IsDate n0 y0 m0 k0) (h90 : y0 ≤ 9999) (hs : s.size ≤ 1000000) (n y m k : Nat) (hd : IsDate n y m k) (h9 : y ≤ 9999) (hR : dayIn ((bef (y0 - 1) : Int) - 1 + num1 (bts s)) = some n) (hf : ¬ bts s = Lib.decDigits (n - bef (y - 1) + 1)) (hE : Env w) : Calls Tryz.prog 30 #[.string s, .int .u8 68, .int .i64 (n0 : Int)] w (Gives w #[.int .i64 0, .int .i64 2]) := by
  have hn0 := isDate_max hd0 h90
  have KT := fun W => Lib.hid (isDay_any (n0 : Int) W)
  rw [inR_true (by omega) (by omega)] at KT
  have KD0 := fun W => Lib.hid (dateOf_any n0 y0 m0 k0 W hd0 h90)
  have KR := fun W => Lib.hid (dayR_any s y0 W)
  have KX := fun W => Lib.hid (show Calls Tryz.prog 99 #[.agg #[.string s, .int .i64 (y0 : Int)]] W (fun e w' => e = .returned (.tuple #[.int .i64 (n : Int), .bool true]) ∧ Below W.heap.size W w') from by have h := day_to (d_days_any' s y0 W hs hd0.y1 h90); rw [hR] at h; exact h)
  have hk31 : k ≤ 31 := by have := hd.kd; have := dim_pos y m; omega
  have KD := fun W => Lib.hid (dateOf_any n y m k W hd h9)
  have KF := fun W => Lib.hid (datF_any y m k W)
  have KG := fun W hW => Lib.hid (days_any n y m k W hd h9 hW)
  have HE := Lib.hid hE
  have HF := Lib.hid hf
  have hfd := field_date
  have hid := index_date
  unfold dtV at KF KG
  clear hd0 h90 hd h9 hf hs hE hn0 hR hk31
  go_enter Tryz.func30, Tryz.ntmps30
  go_wp2_with (first
    | (go_at_call 51; refine Calls.mono (KT _).out ?_; rintro e W1 ⟨rfl, rfl⟩)
    | (go_at_call 52; (with_reducible refine Calls.mono (KD0 _).out ?_); clear KD0; rintro e w1 ⟨rfl, hb1⟩; have B1 := Lib.hid hb1; clear hb1)
    | (go_at_call 65; refine Calls.mono (KR _).out ?_; rintro e w2 ⟨b, q, Dd, rfl, hF, hb2⟩; have B2 := Lib.hid (Bl.step B1.out hb2); have hlk : (Instr.lookup 86 (.map (some b)) (.int .u8 68) true).run Tryz.prog w2 = .ok (.tuple #[.func (.func 99) #[.agg #[.string s, .int .i64 (y0 : Int)]] #[], .bool true]) w2 := (look_ok lawU8 Tryz.underlying86 (zeroG w2) hF.out.1 hF.out.2 68 Tryz.underlying5); clear hb2)
    | (go_at_call 99; refine Calls.mono (KX _).out ?_; rintro e w3 ⟨rfl, hb3⟩; have B3 := Lib.hid (Bl.step B2.out hb3); clear hb3)
    | (go_at_call 52; (with_reducible refine Calls.mono (KD _).out ?_); rintro e w4 ⟨rfl, hb4⟩; have B4 := Lib.hid (Bl.step B3.out hb4); clear hb4)
    | (go_at_call 60; refine Calls.mono (KF _).out ?_; rintro e w5 ⟨b5, q5, D5, rfl, hF5, hb5⟩; have B5 := Lib.hid (Bl.step B4.out hb5); have hlk5 : (Instr.lookup 81 (.map (some b5)) (.int .u8 68) false).run Tryz.prog w5 = .ok (.func (.func 89) #[.agg #[.int .i64 (y : Int), .int .i64 (m : Int), .int .i64 (k : Int)]] #[]) w5 := (look_no lawU8 Tryz.underlying81 (zeroF w5) hF5.out.1 hF5.out.2 68 Tryz.underlying5); clear hb5)
    | (go_at_call 89; refine Calls.mono (KG _ (HE.out.below B5.out)).out ?_; rintro e w6 ⟨t, rfl, ht, hb6⟩; have B6 := Lib.hid (Bl.step B5.out hb6); have hne : ¬ t.toList = s.toList := (by rw [toList_bts, toList_bts, ht.out]; exact fun q => HF.out q.symm); have hne2 : (t.toList == s.toList) = false := (beq_eq_false_iff_ne.2 hne); clear hb6))
  go_ret2
  exact ⟨rfl, B6.out⟩
set_option maxHeartbeats 4000000 in
theorem ReadDay_E_none (s : ByteArray) (n0 y0 m0 k0 : Nat) (w : World) (hd0 : IsDate n0 y0 m0 k0) (h90 : y0 ≤ 9999) (hs : s.size ≤ 1000000) (hR : calOf (fyR y0 (num3 (bts s))) (num2 (bts s)) (num1 (bts s)) = none) : Calls Tryz.prog 30 #[.string s, .int .u8 69, .int .i64 (n0 : Int)] w (Gives w #[.int .i64 0, .int .i64 2]) := by
  have hn0 := isDate_max hd0 h90
  have KT := fun W => Lib.hid (isDay_any (n0 : Int) W)
  rw [inR_true (by omega) (by omega)] at KT
  have KD0 := fun W => Lib.hid (dateOf_any n0 y0 m0 k0 W hd0 h90)
  have KR := fun W => Lib.hid (dayR_any s y0 W)
  have KX := fun W => Lib.hid (show Calls Tryz.prog 100 #[.agg #[.string s, .int .i64 (y0 : Int)]] W (fun e w' => e = .returned (.tuple #[.int .i64 0, .bool false]) ∧ Below W.heap.size W w') from by have h := cal_to (r_european_any s y0 W hs (sufOk_any s hs) h90); rw [hR] at h; exact h)
  have hfd := field_date
  have hid := index_date
  clear hd0 h90 hs hR hn0
  go_enter Tryz.func30, Tryz.ntmps30
  go_wp2_with (first
    | (go_at_call 51; refine Calls.mono (KT _).out ?_; rintro e W1 ⟨rfl, rfl⟩)
    | (go_at_call 52; (with_reducible refine Calls.mono (KD0 _).out ?_); clear KD0; rintro e w1 ⟨rfl, hb1⟩; have B1 := Lib.hid hb1; clear hb1)
    | (go_at_call 65; refine Calls.mono (KR _).out ?_; rintro e w2 ⟨b, q, Dd, rfl, hF, hb2⟩; have B2 := Lib.hid (Bl.step B1.out hb2); have hlk : (Instr.lookup 86 (.map (some b)) (.int .u8 69) true).run Tryz.prog w2 = .ok (.tuple #[.func (.func 100) #[.agg #[.string s, .int .i64 (y0 : Int)]] #[], .bool true]) w2 := (look_ok lawU8 Tryz.underlying86 (zeroG w2) hF.out.1 hF.out.2 69 Tryz.underlying5); clear hb2)
    | (go_at_call 100; refine Calls.mono (KX _).out ?_; rintro e w3 ⟨rfl, hb3⟩; have B3 := Lib.hid (Bl.step B2.out hb3); clear hb3))
  go_ret2
  exact ⟨rfl, B3.out⟩
set_option maxHeartbeats 4000000 in
theorem ReadDay_E_ok (s : ByteArray) (n0 y0 m0 k0 : Nat) (w : World) (hd0 : IsDate n0 y0 m0 k0) (h90 : y0 ≤ 9999) (hs : s.size ≤ 1000000) (n y m k : Nat) (hd : IsDate n y m k) (h9 : y ≤ 9999) (hR : calOf (fyR y0 (num3 (bts s))) (num2 (bts s)) (num1 (bts s)) = some n) (hf : bts s = shortL (k % 100) (m % 100) (y % 100)) (hE : Env w) : Calls Tryz.prog 30 #[.string s, .int .u8 69, .int .i64 (n0 : Int)] w (Gives w #[.int .i64 (n : Int), .int .i64 0]) := by
  have hn0 := isDate_max hd0 h90
  have KT := fun W => Lib.hid (isDay_any (n0 : Int) W)
  rw [inR_true (by omega) (by omega)] at KT
  have KD0 := fun W => Lib.hid (dateOf_any n0 y0 m0 k0 W hd0 h90)
  have KR := fun W => Lib.hid (dayR_any s y0 W)
  have KX := fun W => Lib.hid (show Calls Tryz.prog 100 #[.agg #[.string s, .int .i64 (y0 : Int)]] W (fun e w' => e = .returned (.tuple #[.int .i64 (n : Int), .bool true]) ∧ Below W.heap.size W w') from by have h := cal_to (r_european_any s y0 W hs (sufOk_any s hs) h90); rw [hR] at h; exact h)
  have hk31 : k ≤ 31 := by have := hd.kd; have := dim_pos y m; omega
  have KD := fun W => Lib.hid (dateOf_any n y m k W hd h9)
  have KF := fun W => Lib.hid (datF_any y m k W)
  have KG := fun W hW => Lib.hid (european_any y m k W h9 hd.m12 hk31 hW)
  have HE := Lib.hid hE
  have HF := Lib.hid hf
  have hfd := field_date
  have hid := index_date
  unfold dtV at KF KG
  clear hd0 h90 hd h9 hf hs hE hn0 hR hk31
  go_enter Tryz.func30, Tryz.ntmps30
  go_wp2_with (first
    | (go_at_call 51; refine Calls.mono (KT _).out ?_; rintro e W1 ⟨rfl, rfl⟩)
    | (go_at_call 52; (with_reducible refine Calls.mono (KD0 _).out ?_); clear KD0; rintro e w1 ⟨rfl, hb1⟩; have B1 := Lib.hid hb1; clear hb1)
    | (go_at_call 65; refine Calls.mono (KR _).out ?_; rintro e w2 ⟨b, q, Dd, rfl, hF, hb2⟩; have B2 := Lib.hid (Bl.step B1.out hb2); have hlk : (Instr.lookup 86 (.map (some b)) (.int .u8 69) true).run Tryz.prog w2 = .ok (.tuple #[.func (.func 100) #[.agg #[.string s, .int .i64 (y0 : Int)]] #[], .bool true]) w2 := (look_ok lawU8 Tryz.underlying86 (zeroG w2) hF.out.1 hF.out.2 69 Tryz.underlying5); clear hb2)
    | (go_at_call 100; refine Calls.mono (KX _).out ?_; rintro e w3 ⟨rfl, hb3⟩; have B3 := Lib.hid (Bl.step B2.out hb3); clear hb3)
    | (go_at_call 52; (with_reducible refine Calls.mono (KD _).out ?_); rintro e w4 ⟨rfl, hb4⟩; have B4 := Lib.hid (Bl.step B3.out hb4); clear hb4)
    | (go_at_call 60; refine Calls.mono (KF _).out ?_; rintro e w5 ⟨b5, q5, D5, rfl, hF5, hb5⟩; have B5 := Lib.hid (Bl.step B4.out hb5); have hlk5 : (Instr.lookup 81 (.map (some b5)) (.int .u8 69) false).run Tryz.prog w5 = .ok (.func (.func 90) #[.agg #[.int .i64 (y : Int), .int .i64 (m : Int), .int .i64 (k : Int)]] #[]) w5 := (look_no lawU8 Tryz.underlying81 (zeroF w5) hF5.out.1 hF5.out.2 69 Tryz.underlying5); clear hb5)
    | (go_at_call 90; refine Calls.mono (KG _ (HE.out.below B5.out)).out ?_; rintro e w6 ⟨t, rfl, ht, hb6⟩; have B6 := Lib.hid (Bl.step B5.out hb6); obtain rfl : t = s := bts_inj (ht.out.trans HF.out.symm); clear hb6))
  go_ret2
  exact ⟨rfl, B6.out⟩
set_option maxHeartbeats 4000000 in
theorem ReadDay_E_ne (s : ByteArray) (n0 y0 m0 k0 : Nat) (w : World) (hd0 : IsDate n0 y0 m0 k0) (h90 : y0 ≤ 9999) (hs : s.size ≤ 1000000) (n y m k : Nat) (hd : IsDate n y m k) (h9 : y ≤ 9999) (hR : calOf (fyR y0 (num3 (bts s))) (num2 (bts s)) (num1 (bts s)) = some n) (hf : ¬ bts s = shortL (k % 100) (m % 100) (y % 100)) (hE : Env w) : Calls Tryz.prog 30 #[.string s, .int .u8 69, .int .i64 (n0 : Int)] w (Gives w #[.int .i64 0, .int .i64 2]) := by
  have hn0 := isDate_max hd0 h90
  have KT := fun W => Lib.hid (isDay_any (n0 : Int) W)
  rw [inR_true (by omega) (by omega)] at KT
  have KD0 := fun W => Lib.hid (dateOf_any n0 y0 m0 k0 W hd0 h90)
  have KR := fun W => Lib.hid (dayR_any s y0 W)
  have KX := fun W => Lib.hid (show Calls Tryz.prog 100 #[.agg #[.string s, .int .i64 (y0 : Int)]] W (fun e w' => e = .returned (.tuple #[.int .i64 (n : Int), .bool true]) ∧ Below W.heap.size W w') from by have h := cal_to (r_european_any s y0 W hs (sufOk_any s hs) h90); rw [hR] at h; exact h)
  have hk31 : k ≤ 31 := by have := hd.kd; have := dim_pos y m; omega
  have KD := fun W => Lib.hid (dateOf_any n y m k W hd h9)
  have KF := fun W => Lib.hid (datF_any y m k W)
  have KG := fun W hW => Lib.hid (european_any y m k W h9 hd.m12 hk31 hW)
  have HE := Lib.hid hE
  have HF := Lib.hid hf
  have hfd := field_date
  have hid := index_date
  unfold dtV at KF KG
  clear hd0 h90 hd h9 hf hs hE hn0 hR hk31
  go_enter Tryz.func30, Tryz.ntmps30
  go_wp2_with (first
    | (go_at_call 51; refine Calls.mono (KT _).out ?_; rintro e W1 ⟨rfl, rfl⟩)
    | (go_at_call 52; (with_reducible refine Calls.mono (KD0 _).out ?_); clear KD0; rintro e w1 ⟨rfl, hb1⟩; have B1 := Lib.hid hb1; clear hb1)
    | (go_at_call 65; refine Calls.mono (KR _).out ?_; rintro e w2 ⟨b, q, Dd, rfl, hF, hb2⟩; have B2 := Lib.hid (Bl.step B1.out hb2); have hlk : (Instr.lookup 86 (.map (some b)) (.int .u8 69) true).run Tryz.prog w2 = .ok (.tuple #[.func (.func 100) #[.agg #[.string s, .int .i64 (y0 : Int)]] #[], .bool true]) w2 := (look_ok lawU8 Tryz.underlying86 (zeroG w2) hF.out.1 hF.out.2 69 Tryz.underlying5); clear hb2)
    | (go_at_call 100; refine Calls.mono (KX _).out ?_; rintro e w3 ⟨rfl, hb3⟩; have B3 := Lib.hid (Bl.step B2.out hb3); clear hb3)
    | (go_at_call 52; (with_reducible refine Calls.mono (KD _).out ?_); rintro e w4 ⟨rfl, hb4⟩; have B4 := Lib.hid (Bl.step B3.out hb4); clear hb4)
    | (go_at_call 60; refine Calls.mono (KF _).out ?_; rintro e w5 ⟨b5, q5, D5, rfl, hF5, hb5⟩; have B5 := Lib.hid (Bl.step B4.out hb5); have hlk5 : (Instr.lookup 81 (.map (some b5)) (.int .u8 69) false).run Tryz.prog w5 = .ok (.func (.func 90) #[.agg #[.int .i64 (y : Int), .int .i64 (m : Int), .int .i64 (k : Int)]] #[]) w5 := (look_no lawU8 Tryz.underlying81 (zeroF w5) hF5.out.1 hF5.out.2 69 Tryz.underlying5); clear hb5)
    | (go_at_call 90; refine Calls.mono (KG _ (HE.out.below B5.out)).out ?_; rintro e w6 ⟨t, rfl, ht, hb6⟩; have B6 := Lib.hid (Bl.step B5.out hb6); have hne : ¬ t.toList = s.toList := (by rw [toList_bts, toList_bts, ht.out]; exact fun q => HF.out q.symm); have hne2 : (t.toList == s.toList) = false := (beq_eq_false_iff_ne.2 hne); clear hb6))
  go_ret2
  exact ⟨rfl, B6.out⟩
set_option maxHeartbeats 4000000 in
theorem ReadDay_I_none (s : ByteArray) (n0 y0 m0 k0 : Nat) (w : World) (hd0 : IsDate n0 y0 m0 k0) (h90 : y0 ≤ 9999) (hs : s.size ≤ 1000000) (hR : calOf (num1 (bts s)) (num2 (bts s)) (num3 (bts s)) = none) : Calls Tryz.prog 30 #[.string s, .int .u8 73, .int .i64 (n0 : Int)] w (Gives w #[.int .i64 0, .int .i64 2]) := by
  have hn0 := isDate_max hd0 h90
  have KT := fun W => Lib.hid (isDay_any (n0 : Int) W)
  rw [inR_true (by omega) (by omega)] at KT
  have KD0 := fun W => Lib.hid (dateOf_any n0 y0 m0 k0 W hd0 h90)
  have KR := fun W => Lib.hid (dayR_any s y0 W)
  have KX := fun W => Lib.hid (show Calls Tryz.prog 101 #[.agg #[.string s, .int .i64 (y0 : Int)]] W (fun e w' => e = .returned (.tuple #[.int .i64 0, .bool false]) ∧ Below W.heap.size W w') from by have h := cal_to (d_iso_any s y0 W hs); rw [hR] at h; exact h)
  have hfd := field_date
  have hid := index_date
  clear hd0 h90 hs hR hn0
  go_enter Tryz.func30, Tryz.ntmps30
  go_wp2_with (first
    | (go_at_call 51; refine Calls.mono (KT _).out ?_; rintro e W1 ⟨rfl, rfl⟩)
    | (go_at_call 52; (with_reducible refine Calls.mono (KD0 _).out ?_); clear KD0; rintro e w1 ⟨rfl, hb1⟩; have B1 := Lib.hid hb1; clear hb1)
    | (go_at_call 65; refine Calls.mono (KR _).out ?_; rintro e w2 ⟨b, q, Dd, rfl, hF, hb2⟩; have B2 := Lib.hid (Bl.step B1.out hb2); have hlk : (Instr.lookup 86 (.map (some b)) (.int .u8 73) true).run Tryz.prog w2 = .ok (.tuple #[.func (.func 101) #[.agg #[.string s, .int .i64 (y0 : Int)]] #[], .bool true]) w2 := (look_ok lawU8 Tryz.underlying86 (zeroG w2) hF.out.1 hF.out.2 73 Tryz.underlying5); clear hb2)
    | (go_at_call 101; refine Calls.mono (KX _).out ?_; rintro e w3 ⟨rfl, hb3⟩; have B3 := Lib.hid (Bl.step B2.out hb3); clear hb3))
  go_ret2
  exact ⟨rfl, B3.out⟩
set_option maxHeartbeats 4000000 in
theorem ReadDay_I_ok (s : ByteArray) (n0 y0 m0 k0 : Nat) (w : World) (hd0 : IsDate n0 y0 m0 k0) (h90 : y0 ≤ 9999) (hs : s.size ≤ 1000000) (n y m k : Nat) (hd : IsDate n y m k) (h9 : y ≤ 9999) (hR : calOf (num1 (bts s)) (num2 (bts s)) (num3 (bts s)) = some n) (hf : bts s = longL [45] y m k) (hE : Env w) : Calls Tryz.prog 30 #[.string s, .int .u8 73, .int .i64 (n0 : Int)] w (Gives w #[.int .i64 (n : Int), .int .i64 0]) := by
  have hn0 := isDate_max hd0 h90
  have KT := fun W => Lib.hid (isDay_any (n0 : Int) W)
  rw [inR_true (by omega) (by omega)] at KT
  have KD0 := fun W => Lib.hid (dateOf_any n0 y0 m0 k0 W hd0 h90)
  have KR := fun W => Lib.hid (dayR_any s y0 W)
  have KX := fun W => Lib.hid (show Calls Tryz.prog 101 #[.agg #[.string s, .int .i64 (y0 : Int)]] W (fun e w' => e = .returned (.tuple #[.int .i64 (n : Int), .bool true]) ∧ Below W.heap.size W w') from by have h := cal_to (d_iso_any s y0 W hs); rw [hR] at h; exact h)
  have hk31 : k ≤ 31 := by have := hd.kd; have := dim_pos y m; omega
  have KD := fun W => Lib.hid (dateOf_any n y m k W hd h9)
  have KF := fun W => Lib.hid (datF_any y m k W)
  have KG := fun W hW => Lib.hid (iso_any y m k W h9 hd.m12 hk31 hW)
  have HE := Lib.hid hE
  have HF := Lib.hid hf
  have hfd := field_date
  have hid := index_date
  unfold dtV at KF KG
  clear hd0 h90 hd h9 hf hs hE hn0 hR hk31
  go_enter Tryz.func30, Tryz.ntmps30
  go_wp2_with (first
    | (go_at_call 51; refine Calls.mono (KT _).out ?_; rintro e W1 ⟨rfl, rfl⟩)
    | (go_at_call 52; (with_reducible refine Calls.mono (KD0 _).out ?_); clear KD0; rintro e w1 ⟨rfl, hb1⟩; have B1 := Lib.hid hb1; clear hb1)
    | (go_at_call 65; refine Calls.mono (KR _).out ?_; rintro e w2 ⟨b, q, Dd, rfl, hF, hb2⟩; have B2 := Lib.hid (Bl.step B1.out hb2); have hlk : (Instr.lookup 86 (.map (some b)) (.int .u8 73) true).run Tryz.prog w2 = .ok (.tuple #[.func (.func 101) #[.agg #[.string s, .int .i64 (y0 : Int)]] #[], .bool true]) w2 := (look_ok lawU8 Tryz.underlying86 (zeroG w2) hF.out.1 hF.out.2 73 Tryz.underlying5); clear hb2)
    | (go_at_call 101; refine Calls.mono (KX _).out ?_; rintro e w3 ⟨rfl, hb3⟩; have B3 := Lib.hid (Bl.step B2.out hb3); clear hb3)
    | (go_at_call 52; (with_reducible refine Calls.mono (KD _).out ?_); rintro e w4 ⟨rfl, hb4⟩; have B4 := Lib.hid (Bl.step B3.out hb4); clear hb4)
    | (go_at_call 60; refine Calls.mono (KF _).out ?_; rintro e w5 ⟨b5, q5, D5, rfl, hF5, hb5⟩; have B5 := Lib.hid (Bl.step B4.out hb5); have hlk5 : (Instr.lookup 81 (.map (some b5)) (.int .u8 73) false).run Tryz.prog w5 = .ok (.func (.func 91) #[.agg #[.int .i64 (y : Int), .int .i64 (m : Int), .int .i64 (k : Int)]] #[]) w5 := (look_no lawU8 Tryz.underlying81 (zeroF w5) hF5.out.1 hF5.out.2 73 Tryz.underlying5); clear hb5)
    | (go_at_call 91; refine Calls.mono (KG _ (HE.out.below B5.out)).out ?_; rintro e w6 ⟨t, rfl, ht, hb6⟩; have B6 := Lib.hid (Bl.step B5.out hb6); obtain rfl : t = s := bts_inj (ht.out.trans HF.out.symm); clear hb6))
  go_ret2
  exact ⟨rfl, B6.out⟩
set_option maxHeartbeats 4000000 in
theorem ReadDay_I_ne (s : ByteArray) (n0 y0 m0 k0 : Nat) (w : World) (hd0 : IsDate n0 y0 m0 k0) (h90 : y0 ≤ 9999) (hs : s.size ≤ 1000000) (n y m k : Nat) (hd : IsDate n y m k) (h9 : y ≤ 9999) (hR : calOf (num1 (bts s)) (num2 (bts s)) (num3 (bts s)) = some n) (hf : ¬ bts s = longL [45] y m k) (hE : Env w) : Calls Tryz.prog 30 #[.string s, .int .u8 73, .int .i64 (n0 : Int)] w (Gives w #[.int .i64 0, .int .i64 2]) := by
  have hn0 := isDate_max hd0 h90
  have KT := fun W => Lib.hid (isDay_any (n0 : Int) W)
  rw [inR_true (by omega) (by omega)] at KT
  have KD0 := fun W => Lib.hid (dateOf_any n0 y0 m0 k0 W hd0 h90)
  have KR := fun W => Lib.hid (dayR_any s y0 W)
  have KX := fun W => Lib.hid (show Calls Tryz.prog 101 #[.agg #[.string s, .int .i64 (y0 : Int)]] W (fun e w' => e = .returned (.tuple #[.int .i64 (n : Int), .bool true]) ∧ Below W.heap.size W w') from by have h := cal_to (d_iso_any s y0 W hs); rw [hR] at h; exact h)
  have hk31 : k ≤ 31 := by have := hd.kd; have := dim_pos y m; omega
  have KD := fun W => Lib.hid (dateOf_any n y m k W hd h9)
  have KF := fun W => Lib.hid (datF_any y m k W)
  have KG := fun W hW => Lib.hid (iso_any y m k W h9 hd.m12 hk31 hW)
  have HE := Lib.hid hE
  have HF := Lib.hid hf
  have hfd := field_date
  have hid := index_date
  unfold dtV at KF KG
  clear hd0 h90 hd h9 hf hs hE hn0 hR hk31
  go_enter Tryz.func30, Tryz.ntmps30
  go_wp2_with (first
    | (go_at_call 51; refine Calls.mono (KT _).out ?_; rintro e W1 ⟨rfl, rfl⟩)
    | (go_at_call 52; (with_reducible refine Calls.mono (KD0 _).out ?_); clear KD0; rintro e w1 ⟨rfl, hb1⟩; have B1 := Lib.hid hb1; clear hb1)
    | (go_at_call 65; refine Calls.mono (KR _).out ?_; rintro e w2 ⟨b, q, Dd, rfl, hF, hb2⟩; have B2 := Lib.hid (Bl.step B1.out hb2); have hlk : (Instr.lookup 86 (.map (some b)) (.int .u8 73) true).run Tryz.prog w2 = .ok (.tuple #[.func (.func 101) #[.agg #[.string s, .int .i64 (y0 : Int)]] #[], .bool true]) w2 := (look_ok lawU8 Tryz.underlying86 (zeroG w2) hF.out.1 hF.out.2 73 Tryz.underlying5); clear hb2)
    | (go_at_call 101; refine Calls.mono (KX _).out ?_; rintro e w3 ⟨rfl, hb3⟩; have B3 := Lib.hid (Bl.step B2.out hb3); clear hb3)
    | (go_at_call 52; (with_reducible refine Calls.mono (KD _).out ?_); rintro e w4 ⟨rfl, hb4⟩; have B4 := Lib.hid (Bl.step B3.out hb4); clear hb4)
    | (go_at_call 60; refine Calls.mono (KF _).out ?_; rintro e w5 ⟨b5, q5, D5, rfl, hF5, hb5⟩; have B5 := Lib.hid (Bl.step B4.out hb5); have hlk5 : (Instr.lookup 81 (.map (some b5)) (.int .u8 73) false).run Tryz.prog w5 = .ok (.func (.func 91) #[.agg #[.int .i64 (y : Int), .int .i64 (m : Int), .int .i64 (k : Int)]] #[]) w5 := (look_no lawU8 Tryz.underlying81 (zeroF w5) hF5.out.1 hF5.out.2 73 Tryz.underlying5); clear hb5)
    | (go_at_call 91; refine Calls.mono (KG _ (HE.out.below B5.out)).out ?_; rintro e w6 ⟨t, rfl, ht, hb6⟩; have B6 := Lib.hid (Bl.step B5.out hb6); have hne : ¬ t.toList = s.toList := (by rw [toList_bts, toList_bts, ht.out]; exact fun q => HF.out q.symm); have hne2 : (t.toList == s.toList) = false := (beq_eq_false_iff_ne.2 hne); clear hb6))
  go_ret2
  exact ⟨rfl, B6.out⟩
set_option maxHeartbeats 4000000 in
theorem ReadDay_O_none (s : ByteArray) (n0 y0 m0 k0 : Nat) (w : World) (hd0 : IsDate n0 y0 m0 k0) (h90 : y0 ≤ 9999) (hs : s.size ≤ 1000000) (hR : calOf (fyR y0 (num1 (bts s))) (num2 (bts s)) (num3 (bts s)) = none) : Calls Tryz.prog 30 #[.string s, .int .u8 79, .int .i64 (n0 : Int)] w (Gives w #[.int .i64 0, .int .i64 2]) := by
  have hn0 := isDate_max hd0 h90
  have KT := fun W => Lib.hid (isDay_any (n0 : Int) W)
  rw [inR_true (by omega) (by omega)] at KT
  have KD0 := fun W => Lib.hid (dateOf_any n0 y0 m0 k0 W hd0 h90)
  have KR := fun W => Lib.hid (dayR_any s y0 W)
  have KX := fun W => Lib.hid (show Calls Tryz.prog 103 #[.agg #[.string s, .int .i64 (y0 : Int)]] W (fun e w' => e = .returned (.tuple #[.int .i64 0, .bool false]) ∧ Below W.heap.size W w') from by have h := cal_to (r_ordered_any s y0 W hs (sufOk_any s hs) h90); rw [hR] at h; exact h)
  have hfd := field_date
  have hid := index_date
  clear hd0 h90 hs hR hn0
  go_enter Tryz.func30, Tryz.ntmps30
  go_wp2_with (first
    | (go_at_call 51; refine Calls.mono (KT _).out ?_; rintro e W1 ⟨rfl, rfl⟩)
    | (go_at_call 52; (with_reducible refine Calls.mono (KD0 _).out ?_); clear KD0; rintro e w1 ⟨rfl, hb1⟩; have B1 := Lib.hid hb1; clear hb1)
    | (go_at_call 65; refine Calls.mono (KR _).out ?_; rintro e w2 ⟨b, q, Dd, rfl, hF, hb2⟩; have B2 := Lib.hid (Bl.step B1.out hb2); have hlk : (Instr.lookup 86 (.map (some b)) (.int .u8 79) true).run Tryz.prog w2 = .ok (.tuple #[.func (.func 103) #[.agg #[.string s, .int .i64 (y0 : Int)]] #[], .bool true]) w2 := (look_ok lawU8 Tryz.underlying86 (zeroG w2) hF.out.1 hF.out.2 79 Tryz.underlying5); clear hb2)
    | (go_at_call 103; refine Calls.mono (KX _).out ?_; rintro e w3 ⟨rfl, hb3⟩; have B3 := Lib.hid (Bl.step B2.out hb3); clear hb3))
  go_ret2
  exact ⟨rfl, B3.out⟩
set_option maxHeartbeats 4000000 in
theorem ReadDay_O_ok (s : ByteArray) (n0 y0 m0 k0 : Nat) (w : World) (hd0 : IsDate n0 y0 m0 k0) (h90 : y0 ≤ 9999) (hs : s.size ≤ 1000000) (n y m k : Nat) (hd : IsDate n y m k) (h9 : y ≤ 9999) (hR : calOf (fyR y0 (num1 (bts s))) (num2 (bts s)) (num3 (bts s)) = some n) (hf : bts s = shortL (y % 100) (m % 100) (k % 100)) (hE : Env w) : Calls Tryz.prog 30 #[.string s, .int .u8 79, .int .i64 (n0 : Int)] w (Gives w #[.int .i64 (n : Int), .int .i64 0]) := by
  have hn0 := isDate_max hd0 h90
  have KT := fun W => Lib.hid (isDay_any (n0 : Int) W)
  rw [inR_true (by omega) (by omega)] at KT
  have KD0 := fun W => Lib.hid (dateOf_any n0 y0 m0 k0 W hd0 h90)
  have KR := fun W => Lib.hid (dayR_any s y0 W)
  have KX := fun W => Lib.hid (show Calls Tryz.prog 103 #[.agg #[.string s, .int .i64 (y0 : Int)]] W (fun e w' => e = .returned (.tuple #[.int .i64 (n : Int), .bool true]) ∧ Below W.heap.size W w') from by have h := cal_to (r_ordered_any s y0 W hs (sufOk_any s hs) h90); rw [hR] at h; exact h)
  have hk31 : k ≤ 31 := by have := hd.kd; have := dim_pos y m; omega
  have KD := fun W => Lib.hid (dateOf_any n y m k W hd h9)
  have KF := fun W => Lib.hid (datF_any y m k W)
  have KG := fun W hW => Lib.hid (ordered_any y m k W h9 hd.m12 hk31 hW)
  have HE := Lib.hid hE
  have HF := Lib.hid hf
  have hfd := field_date
  have hid := index_date
  unfold dtV at KF KG
  clear hd0 h90 hd h9 hf hs hE hn0 hR hk31
  go_enter Tryz.func30, Tryz.ntmps30
  go_wp2_with (first
    | (go_at_call 51; refine Calls.mono (KT _).out ?_; rintro e W1 ⟨rfl, rfl⟩)
    | (go_at_call 52; (with_reducible refine Calls.mono (KD0 _).out ?_); clear KD0; rintro e w1 ⟨rfl, hb1⟩; have B1 := Lib.hid hb1; clear hb1)
    | (go_at_call 65; refine Calls.mono (KR _).out ?_; rintro e w2 ⟨b, q, Dd, rfl, hF, hb2⟩; have B2 := Lib.hid (Bl.step B1.out hb2); have hlk : (Instr.lookup 86 (.map (some b)) (.int .u8 79) true).run Tryz.prog w2 = .ok (.tuple #[.func (.func 103) #[.agg #[.string s, .int .i64 (y0 : Int)]] #[], .bool true]) w2 := (look_ok lawU8 Tryz.underlying86 (zeroG w2) hF.out.1 hF.out.2 79 Tryz.underlying5); clear hb2)
    | (go_at_call 103; refine Calls.mono (KX _).out ?_; rintro e w3 ⟨rfl, hb3⟩; have B3 := Lib.hid (Bl.step B2.out hb3); clear hb3)
    | (go_at_call 52; (with_reducible refine Calls.mono (KD _).out ?_); rintro e w4 ⟨rfl, hb4⟩; have B4 := Lib.hid (Bl.step B3.out hb4); clear hb4)
    | (go_at_call 60; refine Calls.mono (KF _).out ?_; rintro e w5 ⟨b5, q5, D5, rfl, hF5, hb5⟩; have B5 := Lib.hid (Bl.step B4.out hb5); have hlk5 : (Instr.lookup 81 (.map (some b5)) (.int .u8 79) false).run Tryz.prog w5 = .ok (.func (.func 94) #[.agg #[.int .i64 (y : Int), .int .i64 (m : Int), .int .i64 (k : Int)]] #[]) w5 := (look_no lawU8 Tryz.underlying81 (zeroF w5) hF5.out.1 hF5.out.2 79 Tryz.underlying5); clear hb5)
    | (go_at_call 94; refine Calls.mono (KG _ (HE.out.below B5.out)).out ?_; rintro e w6 ⟨t, rfl, ht, hb6⟩; have B6 := Lib.hid (Bl.step B5.out hb6); obtain rfl : t = s := bts_inj (ht.out.trans HF.out.symm); clear hb6))
  go_ret2
  exact ⟨rfl, B6.out⟩
set_option maxHeartbeats 4000000 in
theorem ReadDay_O_ne (s : ByteArray) (n0 y0 m0 k0 : Nat) (w : World) (hd0 : IsDate n0 y0 m0 k0) (h90 : y0 ≤ 9999) (hs : s.size ≤ 1000000) (n y m k : Nat) (hd : IsDate n y m k) (h9 : y ≤ 9999) (hR : calOf (fyR y0 (num1 (bts s))) (num2 (bts s)) (num3 (bts s)) = some n) (hf : ¬ bts s = shortL (y % 100) (m % 100) (k % 100)) (hE : Env w) : Calls Tryz.prog 30 #[.string s, .int .u8 79, .int .i64 (n0 : Int)] w (Gives w #[.int .i64 0, .int .i64 2]) := by
  have hn0 := isDate_max hd0 h90
  have KT := fun W => Lib.hid (isDay_any (n0 : Int) W)
  rw [inR_true (by omega) (by omega)] at KT
  have KD0 := fun W => Lib.hid (dateOf_any n0 y0 m0 k0 W hd0 h90)
  have KR := fun W => Lib.hid (dayR_any s y0 W)
  have KX := fun W => Lib.hid (show Calls Tryz.prog 103 #[.agg #[.string s, .int .i64 (y0 : Int)]] W (fun e w' => e = .returned (.tuple #[.int .i64 (n : Int), .bool true]) ∧ Below W.heap.size W w') from by have h := cal_to (r_ordered_any s y0 W hs (sufOk_any s hs) h90); rw [hR] at h; exact h)
  have hk31 : k ≤ 31 := by have := hd.kd; have := dim_pos y m; omega
  have KD := fun W => Lib.hid (dateOf_any n y m k W hd h9)
  have KF := fun W => Lib.hid (datF_any y m k W)
  have KG := fun W hW => Lib.hid (ordered_any y m k W h9 hd.m12 hk31 hW)
  have HE := Lib.hid hE
  have HF := Lib.hid hf
  have hfd := field_date
  have hid := index_date
  unfold dtV at KF KG
  clear hd0 h90 hd h9 hf hs hE hn0 hR hk31
  go_enter Tryz.func30, Tryz.ntmps30
  go_wp2_with (first
    | (go_at_call 51; refine Calls.mono (KT _).out ?_; rintro e W1 ⟨rfl, rfl⟩)
    | (go_at_call 52; (with_reducible refine Calls.mono (KD0 _).out ?_); clear KD0; rintro e w1 ⟨rfl, hb1⟩; have B1 := Lib.hid hb1; clear hb1)
    | (go_at_call 65; refine Calls.mono (KR _).out ?_; rintro e w2 ⟨b, q, Dd, rfl, hF, hb2⟩; have B2 := Lib.hid (Bl.step B1.out hb2); have hlk : (Instr.lookup 86 (.map (some b)) (.int .u8 79) true).run Tryz.prog w2 = .ok (.tuple #[.func (.func 103) #[.agg #[.string s, .int .i64 (y0 : Int)]] #[], .bool true]) w2 := (look_ok lawU8 Tryz.underlying86 (zeroG w2) hF.out.1 hF.out.2 79 Tryz.underlying5); clear hb2)
    | (go_at_call 103; refine Calls.mono (KX _).out ?_; rintro e w3 ⟨rfl, hb3⟩; have B3 := Lib.hid (Bl.step B2.out hb3); clear hb3)
    | (go_at_call 52; (with_reducible refine Calls.mono (KD _).out ?_); rintro e w4 ⟨rfl, hb4⟩; have B4 := Lib.hid (Bl.step B3.out hb4); clear hb4)
    | (go_at_call 60; refine Calls.mono (KF _).out ?_; rintro e w5 ⟨b5, q5, D5, rfl, hF5, hb5⟩; have B5 := Lib.hid (Bl.step B4.out hb5); have hlk5 : (Instr.lookup 81 (.map (some b5)) (.int .u8 79) false).run Tryz.prog w5 = .ok (.func (.func 94) #[.agg #[.int .i64 (y : Int), .int .i64 (m : Int), .int .i64 (k : Int)]] #[]) w5 := (look_no lawU8 Tryz.underlying81 (zeroF w5) hF5.out.1 hF5.out.2 79 Tryz.underlying5); clear hb5)
    | (go_at_call 94; refine Calls.mono (KG _ (HE.out.below B5.out)).out ?_; rintro e w6 ⟨t, rfl, ht, hb6⟩; have B6 := Lib.hid (Bl.step B5.out hb6); have hne : ¬ t.toList = s.toList := (by rw [toList_bts, toList_bts, ht.out]; exact fun q => HF.out q.symm); have hne2 : (t.toList == s.toList) = false := (beq_eq_false_iff_ne.2 hne); clear hb6))
  go_ret2
  exact ⟨rfl, B6.out⟩
set_option maxHeartbeats 4000000 in
theorem ReadDay_S_none (s : ByteArray) (n0 y0 m0 k0 : Nat) (w : World) (hd0 : IsDate n0 y0 m0 k0) (h90 : y0 ≤ 9999) (hs : s.size ≤ 1000000) (hR : calOf ((num1 (bts s)).tdiv 10000) (((num1 (bts s)).tdiv 100).tmod 100) ((num1 (bts s)).tmod 100) = none) : Calls Tryz.prog 30 #[.string s, .int .u8 83, .int .i64 (n0 : Int)] w (Gives w #[.int .i64 0, .int .i64 2]) := by
  have hn0 := isDate_max hd0 h90
  have KT := fun W => Lib.hid (isDay_any (n0 : Int) W)
  rw [inR_true (by omega) (by omega)] at KT
  have KD0 := fun W => Lib.hid (dateOf_any n0 y0 m0 k0 W hd0 h90)
  have KR := fun W => Lib.hid (dayR_any s y0 W)
  have KX := fun W => Lib.hid (show Calls Tryz.prog 104 #[.agg #[.string s, .int .i64 (y0 : Int)]] W (fun e w' => e = .returned (.tuple #[.int .i64 0, .bool false]) ∧ Below W.heap.size W w') from by have h := cal_to (d_standard_any s (y0 : Int) W hs); rw [hR] at h; exact h)
  have hfd := field_date
  have hid := index_date
  clear hd0 h90 hs hR hn0
  go_enter Tryz.func30, Tryz.ntmps30
  go_wp2_with (first
    | (go_at_call 51; refine Calls.mono (KT _).out ?_; rintro e W1 ⟨rfl, rfl⟩)
    | (go_at_call 52; (with_reducible refine Calls.mono (KD0 _).out ?_); clear KD0; rintro e w1 ⟨rfl, hb1⟩; have B1 := Lib.hid hb1; clear hb1)
    | (go_at_call 65; refine Calls.mono (KR _).out ?_; rintro e w2 ⟨b, q, Dd, rfl, hF, hb2⟩; have B2 := Lib.hid (Bl.step B1.out hb2); have hlk : (Instr.lookup 86 (.map (some b)) (.int .u8 83) true).run Tryz.prog w2 = .ok (.tuple #[.func (.func 104) #[.agg #[.string s, .int .i64 (y0 : Int)]] #[], .bool true]) w2 := (look_ok lawU8 Tryz.underlying86 (zeroG w2) hF.out.1 hF.out.2 83 Tryz.underlying5); clear hb2)
    | (go_at_call 104; refine Calls.mono (KX _).out ?_; rintro e w3 ⟨rfl, hb3⟩; have B3 := Lib.hid (Bl.step B2.out hb3); clear hb3))
  go_ret2
  exact ⟨rfl, B3.out⟩
set_option maxHeartbeats 4000000 in
theorem ReadDay_S_ok (s : ByteArray) (n0 y0 m0 k0 : Nat) (w : World) (hd0 : IsDate n0 y0 m0 k0) (h90 : y0 ≤ 9999) (hs : s.size ≤ 1000000) (n y m k : Nat) (hd : IsDate n y m k) (h9 : y ≤ 9999) (hR : calOf ((num1 (bts s)).tdiv 10000) (((num1 (bts s)).tdiv 100).tmod 100) ((num1 (bts s)).tmod 100) = some n) (hf : bts s = longL [] y m k) (hE : Env w) : Calls Tryz.prog 30 #[.string s, .int .u8 83, .int .i64 (n0 : Int)] w (Gives w #[.int .i64 (n : Int), .int .i64 0]) := by
  have hn0 := isDate_max hd0 h90
  have KT := fun W => Lib.hid (isDay_any (n0 : Int) W)
  rw [inR_true (by omega) (by omega)] at KT
  have KD0 := fun W => Lib.hid (dateOf_any n0 y0 m0 k0 W hd0 h90)
  have KR := fun W => Lib.hid (dayR_any s y0 W)
  have KX := fun W => Lib.hid (show Calls Tryz.prog 104 #[.agg #[.string s, .int .i64 (y0 : Int)]] W (fun e w' => e = .returned (.tuple #[.int .i64 (n : Int), .bool true]) ∧ Below W.heap.size W w') from by have h := cal_to (d_standard_any s (y0 : Int) W hs); rw [hR] at h; exact h)
  have hk31 : k ≤ 31 := by have := hd.kd; have := dim_pos y m; omega
  have KD := fun W => Lib.hid (dateOf_any n y m k W hd h9)
  have KF := fun W => Lib.hid (datF_any y m k W)
  have KG := fun W hW => Lib.hid (standard_any y m k W h9 hd.m12 hk31 hW)
  have HE := Lib.hid hE
  have HF := Lib.hid hf
  have hfd := field_date
  have hid := index_date
  unfold dtV at KF KG
  clear hd0 h90 hd h9 hf hs hE hn0 hR hk31
  go_enter Tryz.func30, Tryz.ntmps30
  go_wp2_with (first
    | (go_at_call 51; refine Calls.mono (KT _).out ?_; rintro e W1 ⟨rfl, rfl⟩)
    | (go_at_call 52; (with_reducible refine Calls.mono (KD0 _).out ?_); clear KD0; rintro e w1 ⟨rfl, hb1⟩; have B1 := Lib.hid hb1; clear hb1)
    | (go_at_call 65; refine Calls.mono (KR _).out ?_; rintro e w2 ⟨b, q, Dd, rfl, hF, hb2⟩; have B2 := Lib.hid (Bl.step B1.out hb2); have hlk : (Instr.lookup 86 (.map (some b)) (.int .u8 83) true).run Tryz.prog w2 = .ok (.tuple #[.func (.func 104) #[.agg #[.string s, .int .i64 (y0 : Int)]] #[], .bool true]) w2 := (look_ok lawU8 Tryz.underlying86 (zeroG w2) hF.out.1 hF.out.2 83 Tryz.underlying5); clear hb2)
    | (go_at_call 104; refine Calls.mono (KX _).out ?_; rintro e w3 ⟨rfl, hb3⟩; have B3 := Lib.hid (Bl.step B2.out hb3); clear hb3)
    | (go_at_call 52; (with_reducible refine Calls.mono (KD _).out ?_); rintro e w4 ⟨rfl, hb4⟩; have B4 := Lib.hid (Bl.step B3.out hb4); clear hb4)
    | (go_at_call 60; refine Calls.mono (KF _).out ?_; rintro e w5 ⟨b5, q5, D5, rfl, hF5, hb5⟩; have B5 := Lib.hid (Bl.step B4.out hb5); have hlk5 : (Instr.lookup 81 (.map (some b5)) (.int .u8 83) false).run Tryz.prog w5 = .ok (.func (.func 95) #[.agg #[.int .i64 (y : Int), .int .i64 (m : Int), .int .i64 (k : Int)]] #[]) w5 := (look_no lawU8 Tryz.underlying81 (zeroF w5) hF5.out.1 hF5.out.2 83 Tryz.underlying5); clear hb5)
    | (go_at_call 95; refine Calls.mono (KG _ (HE.out.below B5.out)).out ?_; rintro e w6 ⟨t, rfl, ht, hb6⟩; have B6 := Lib.hid (Bl.step B5.out hb6); obtain rfl : t = s := bts_inj (ht.out.trans HF.out.symm); clear hb6))
  go_ret2
  exact ⟨rfl, B6.out⟩
set_option maxHeartbeats 4000000 in
theorem ReadDay_S_ne (s : ByteArray) (n0 y0 m0 k0 : Nat) (w : World) (hd0 : IsDate n0 y0 m0 k0) (h90 : y0 ≤ 9999) (hs : s.size ≤ 1000000) (n y m k : Nat) (hd : IsDate n y m k) (h9 : y ≤ 9999) (hR : calOf ((num1 (bts s)).tdiv 10000) (((num1 (bts s)).tdiv 100).tmod 100) ((num1 (bts s)).tmod 100) = some n) (hf : ¬ bts s = longL [] y m k) (hE : Env w) : Calls Tryz.prog 30 #[.string s, .int .u8 83, .int .i64 (n0 : Int)] w (Gives w #[.int .i64 0, .int .i64 2]) := by
  have hn0 := isDate_max hd0 h90
  have KT := fun W => Lib.hid (isDay_any (n0 : Int) W)
  rw [inR_true (by omega) (by omega)] at KT
  have KD0 := fun W => Lib.hid (dateOf_any n0 y0 m0 k0 W hd0 h90)
  have KR := fun W => Lib.hid (dayR_any s y0 W)
  have KX := fun W => Lib.hid (show Calls Tryz.prog 104 #[.agg #[.string s, .int .i64 (y0 : Int)]] W (fun e w' => e = .returned (.tuple #[.int .i64 (n : Int), .bool true]) ∧ Below W.heap.size W w') from by have h := cal_to (d_standard_any s (y0 : Int) W hs); rw [hR] at h; exact h)
  have hk31 : k ≤ 31 := by have := hd.kd; have := dim_pos y m; omega
  have KD := fun W => Lib.hid (dateOf_any n y m k W hd h9)
  have KF := fun W => Lib.hid (datF_any y m k W)
  have KG := fun W hW => Lib.hid (standard_any y m k W h9 hd.m12 hk31 hW)
  have HE := Lib.hid hE
  have HF := Lib.hid hf
  have hfd := field_date
  have hid := index_date
  unfold dtV at KF KG
  clear hd0 h90 hd h9 hf hs hE hn0 hR hk31
  go_enter Tryz.func30, Tryz.ntmps30
  go_wp2_with (first
    | (go_at_call 51; refine Calls.mono (KT _).out ?_; rintro e W1 ⟨rfl, rfl⟩)
    | (go_at_call 52; (with_reducible refine Calls.mono (KD0 _).out ?_); clear KD0; rintro e w1 ⟨rfl, hb1⟩; have B1 := Lib.hid hb1; clear hb1)
    | (go_at_call 65; refine Calls.mono (KR _).out ?_; rintro e w2 ⟨b, q, Dd, rfl, hF, hb2⟩; have B2 := Lib.hid (Bl.step B1.out hb2); have hlk : (Instr.lookup 86 (.map (some b)) (.int .u8 83) true).run Tryz.prog w2 = .ok (.tuple #[.func (.func 104) #[.agg #[.string s, .int .i64 (y0 : Int)]] #[], .bool true]) w2 := (look_ok lawU8 Tryz.underlying86 (zeroG w2) hF.out.1 hF.out.2 83 Tryz.underlying5); clear hb2)
    | (go_at_call 104; refine Calls.mono (KX _).out ?_; rintro e w3 ⟨rfl, hb3⟩; have B3 := Lib.hid (Bl.step B2.out hb3); clear hb3)
    | (go_at_call 52; (with_reducible refine Calls.mono (KD _).out ?_); rintro e w4 ⟨rfl, hb4⟩; have B4 := Lib.hid (Bl.step B3.out hb4); clear hb4)
    | (go_at_call 60; refine Calls.mono (KF _).out ?_; rintro e w5 ⟨b5, q5, D5, rfl, hF5, hb5⟩; have B5 := Lib.hid (Bl.step B4.out hb5); have hlk5 : (Instr.lookup 81 (.map (some b5)) (.int .u8 83) false).run Tryz.prog w5 = .ok (.func (.func 95) #[.agg #[.int .i64 (y : Int), .int .i64 (m : Int), .int .i64 (k : Int)]] #[]) w5 := (look_no lawU8 Tryz.underlying81 (zeroF w5) hF5.out.1 hF5.out.2 83 Tryz.underlying5); clear hb5)
    | (go_at_call 95; refine Calls.mono (KG _ (HE.out.below B5.out)).out ?_; rintro e w6 ⟨t, rfl, ht, hb6⟩; have B6 := Lib.hid (Bl.step B5.out hb6); have hne : ¬ t.toList = s.toList := (by rw [toList_bts, toList_bts, ht.out]; exact fun q => HF.out q.symm); have hne2 : (t.toList == s.toList) = false := (beq_eq_false_iff_ne.2 hne); clear hb6))
  go_ret2
  exact ⟨rfl, B6.out⟩
set_option maxHeartbeats 4000000 in
theorem ReadDay_U_none (s : ByteArray) (n0 y0 m0 k0 : Nat) (w : World) (hd0 : IsDate n0 y0 m0 k0) (h90 : y0 ≤ 9999) (hs : s.size ≤ 1000000) (hR : calOf (fyR y0 (num3 (bts s))) (num1 (bts s)) (num2 (bts s)) = none) : Calls Tryz.prog 30 #[.string s, .int .u8 85, .int .i64 (n0 : Int)] w (Gives w #[.int .i64 0, .int .i64 2]) := by
  have hn0 := isDate_max hd0 h90
  have KT := fun W => Lib.hid (isDay_any (n0 : Int) W)
  rw [inR_true (by omega) (by omega)] at KT
  have KD0 := fun W => Lib.hid (dateOf_any n0 y0 m0 k0 W hd0 h90)
  have KR := fun W => Lib.hid (dayR_any s y0 W)
  have KX := fun W => Lib.hid (show Calls Tryz.prog 105 #[.agg #[.string s, .int .i64 (y0 : Int)]] W (fun e w' => e = .returned (.tuple #[.int .i64 0, .bool false]) ∧ Below W.heap.size W w') from by have h := cal_to (r_usa_any s y0 W hs (sufOk_any s hs) h90); rw [hR] at h; exact h)
  have hfd := field_date
  have hid := index_date
  clear hd0 h90 hs hR hn0
  go_enter Tryz.func30, Tryz.ntmps30
  go_wp2_with (first
    | (go_at_call 51; refine Calls.mono (KT _).out ?_; rintro e W1 ⟨rfl, rfl⟩)
    | (go_at_call 52; (with_reducible refine Calls.mono (KD0 _).out ?_); clear KD0; rintro e w1 ⟨rfl, hb1⟩; have B1 := Lib.hid hb1; clear hb1)
    | (go_at_call 65; refine Calls.mono (KR _).out ?_; rintro e w2 ⟨b, q, Dd, rfl, hF, hb2⟩; have B2 := Lib.hid (Bl.step B1.out hb2); have hlk : (Instr.lookup 86 (.map (some b)) (.int .u8 85) true).run Tryz.prog w2 = .ok (.tuple #[.func (.func 105) #[.agg #[.string s, .int .i64 (y0 : Int)]] #[], .bool true]) w2 := (look_ok lawU8 Tryz.underlying86 (zeroG w2) hF.out.1 hF.out.2 85 Tryz.underlying5); clear hb2)
    | (go_at_call 105; refine Calls.mono (KX _).out ?_; rintro e w3 ⟨rfl, hb3⟩; have B3 := Lib.hid (Bl.step B2.out hb3); clear hb3))
  go_ret2
  exact ⟨rfl, B3.out⟩
set_option maxHeartbeats 4000000 in
theorem ReadDay_U_ok (s : ByteArray) (n0 y0 m0 k0 : Nat) (w : World) (hd0 : IsDate n0 y0 m0 k0) (h90 : y0 ≤ 9999) (hs : s.size ≤ 1000000) (n y m k : Nat) (hd : IsDate n y m k) (h9 : y ≤ 9999) (hR : calOf (fyR y0 (num3 (bts s))) (num1 (bts s)) (num2 (bts s)) = some n) (hf : bts s = shortL (m % 100) (k % 100) (y % 100)) (hE : Env w) : Calls Tryz.prog 30 #[.string s, .int .u8 85, .int .i64 (n0 : Int)] w (Gives w #[.int .i64 (n : Int), .int .i64 0]) := by
  have hn0 := isDate_max hd0 h90
  have KT := fun W => Lib.hid (isDay_any (n0 : Int) W)
  rw [inR_true (by omega) (by omega)] at KT
  have KD0 := fun W => Lib.hid (dateOf_any n0 y0 m0 k0 W hd0 h90)
  have KR := fun W => Lib.hid (dayR_any s y0 W)
  have KX := fun W => Lib.hid (show Calls Tryz.prog 105 #[.agg #[.string s, .int .i64 (y0 : Int)]] W (fun e w' => e = .returned (.tuple #[.int .i64 (n : Int), .bool true]) ∧ Below W.heap.size W w') from by have h := cal_to (r_usa_any s y0 W hs (sufOk_any s hs) h90); rw [hR] at h; exact h)
  have hk31 : k ≤ 31 := by have := hd.kd; have := dim_pos y m; omega
  have KD := fun W => Lib.hid (dateOf_any n y m k W hd h9)
  have KF := fun W => Lib.hid (datF_any y m k W)
  have KG := fun W hW => Lib.hid (usa_any y m k W h9 hd.m12 hk31 hW)
  have HE := Lib.hid hE
  have HF := Lib.hid hf
  have hfd := field_date
  have hid := index_date
  unfold dtV at KF KG
  clear hd0 h90 hd h9 hf hs hE hn0 hR hk31
  go_enter Tryz.func30, Tryz.ntmps30
  go_wp2_with (first
    | (go_at_call 51; refine Calls.mono (KT _).out ?_; rintro e W1 ⟨rfl, rfl⟩)
    | (go_at_call 52; (with_reducible refine Calls.mono (KD0 _).out ?_); clear KD0; rintro e w1 ⟨rfl, hb1⟩; have B1 := Lib.hid hb1; clear hb1)
    | (go_at_call 65; refine Calls.mono (KR _).out ?_; rintro e w2 ⟨b, q, Dd, rfl, hF, hb2⟩; have B2 := Lib.hid (Bl.step B1.out hb2); have hlk : (Instr.lookup 86 (.map (some b)) (.int .u8 85) true).run Tryz.prog w2 = .ok (.tuple #[.func (.func 105) #[.agg #[.string s, .int .i64 (y0 : Int)]] #[], .bool true]) w2 := (look_ok lawU8 Tryz.underlying86 (zeroG w2) hF.out.1 hF.out.2 85 Tryz.underlying5); clear hb2)
    | (go_at_call 105; refine Calls.mono (KX _).out ?_; rintro e w3 ⟨rfl, hb3⟩; have B3 := Lib.hid (Bl.step B2.out hb3); clear hb3)
    | (go_at_call 52; (with_reducible refine Calls.mono (KD _).out ?_); rintro e w4 ⟨rfl, hb4⟩; have B4 := Lib.hid (Bl.step B3.out hb4); clear hb4)
    | (go_at_call 60; refine Calls.mono (KF _).out ?_; rintro e w5 ⟨b5, q5, D5, rfl, hF5, hb5⟩; have B5 := Lib.hid (Bl.step B4.out hb5); have hlk5 : (Instr.lookup 81 (.map (some b5)) (.int .u8 85) false).run Tryz.prog w5 = .ok (.func (.func 96) #[.agg #[.int .i64 (y : Int), .int .i64 (m : Int), .int .i64 (k : Int)]] #[]) w5 := (look_no lawU8 Tryz.underlying81 (zeroF w5) hF5.out.1 hF5.out.2 85 Tryz.underlying5); clear hb5)
    | (go_at_call 96; refine Calls.mono (KG _ (HE.out.below B5.out)).out ?_; rintro e w6 ⟨t, rfl, ht, hb6⟩; have B6 := Lib.hid (Bl.step B5.out hb6); obtain rfl : t = s := bts_inj (ht.out.trans HF.out.symm); clear hb6))
  go_ret2
  exact ⟨rfl, B6.out⟩
set_option maxHeartbeats 4000000 in
theorem ReadDay_U_ne (s : ByteArray) (n0 y0 m0 k0 : Nat) (w : World) (hd0 : IsDate n0 y0 m0 k0) (h90 : y0 ≤ 9999) (hs : s.size ≤ 1000000) (n y m k : Nat) (hd : IsDate n y m k) (h9 : y ≤ 9999) (hR : calOf (fyR y0 (num3 (bts s))) (num1 (bts s)) (num2 (bts s)) = some n) (hf : ¬ bts s = shortL (m % 100) (k % 100) (y % 100)) (hE : Env w) : Calls Tryz.prog 30 #[.string s, .int .u8 85, .int .i64 (n0 : Int)] w (Gives w #[.int .i64 0, .int .i64 2]) := by
  have hn0 := isDate_max hd0 h90
  have KT := fun W => Lib.hid (isDay_any (n0 : Int) W)
  rw [inR_true (by omega) (by omega)] at KT
  have KD0 := fun W => Lib.hid (dateOf_any n0 y0 m0 k0 W hd0 h90)
  have KR := fun W => Lib.hid (dayR_any s y0 W)
  have KX := fun W => Lib.hid (show Calls Tryz.prog 105 #[.agg #[.string s, .int .i64 (y0 : Int)]] W (fun e w' => e = .returned (.tuple #[.int .i64 (n : Int), .bool true]) ∧ Below W.heap.size W w') from by have h := cal_to (r_usa_any s y0 W hs (sufOk_any s hs) h90); rw [hR] at h; exact h)
  have hk31 : k ≤ 31 := by have := hd.kd; have := dim_pos y m; omega
  have KD := fun W => Lib.hid (dateOf_any n y m k W hd h9)
  have KF := fun W => Lib.hid (datF_any y m k W)
  have KG := fun W hW => Lib.hid (usa_any y m k W h9 hd.m12 hk31 hW)
  have HE := Lib.hid hE
  have HF := Lib.hid hf
  have hfd := field_date
  have hid := index_date
  unfold dtV at KF KG
  clear hd0 h90 hd h9 hf hs hE hn0 hR hk31
  go_enter Tryz.func30, Tryz.ntmps30
  go_wp2_with (first
    | (go_at_call 51; refine Calls.mono (KT _).out ?_; rintro e W1 ⟨rfl, rfl⟩)
    | (go_at_call 52; (with_reducible refine Calls.mono (KD0 _).out ?_); clear KD0; rintro e w1 ⟨rfl, hb1⟩; have B1 := Lib.hid hb1; clear hb1)
    | (go_at_call 65; refine Calls.mono (KR _).out ?_; rintro e w2 ⟨b, q, Dd, rfl, hF, hb2⟩; have B2 := Lib.hid (Bl.step B1.out hb2); have hlk : (Instr.lookup 86 (.map (some b)) (.int .u8 85) true).run Tryz.prog w2 = .ok (.tuple #[.func (.func 105) #[.agg #[.string s, .int .i64 (y0 : Int)]] #[], .bool true]) w2 := (look_ok lawU8 Tryz.underlying86 (zeroG w2) hF.out.1 hF.out.2 85 Tryz.underlying5); clear hb2)
    | (go_at_call 105; refine Calls.mono (KX _).out ?_; rintro e w3 ⟨rfl, hb3⟩; have B3 := Lib.hid (Bl.step B2.out hb3); clear hb3)
    | (go_at_call 52; (with_reducible refine Calls.mono (KD _).out ?_); rintro e w4 ⟨rfl, hb4⟩; have B4 := Lib.hid (Bl.step B3.out hb4); clear hb4)
    | (go_at_call 60; refine Calls.mono (KF _).out ?_; rintro e w5 ⟨b5, q5, D5, rfl, hF5, hb5⟩; have B5 := Lib.hid (Bl.step B4.out hb5); have hlk5 : (Instr.lookup 81 (.map (some b5)) (.int .u8 85) false).run Tryz.prog w5 = .ok (.func (.func 96) #[.agg #[.int .i64 (y : Int), .int .i64 (m : Int), .int .i64 (k : Int)]] #[]) w5 := (look_no lawU8 Tryz.underlying81 (zeroF w5) hF5.out.1 hF5.out.2 85 Tryz.underlying5); clear hb5)
    | (go_at_call 96; refine Calls.mono (KG _ (HE.out.below B5.out)).out ?_; rintro e w6 ⟨t, rfl, ht, hb6⟩; have B6 := Lib.hid (Bl.step B5.out hb6); have hne : ¬ t.toList = s.toList := (by rw [toList_bts, toList_bts, ht.out]; exact fun q => HF.out q.symm); have hne2 : (t.toList == s.toList) = false := (beq_eq_false_iff_ne.2 hne); clear hb6))
  go_ret2
  exact ⟨rfl, B6.out⟩
end Go.Proofs.YtmjifmlibgpjiaaGreatDoor
