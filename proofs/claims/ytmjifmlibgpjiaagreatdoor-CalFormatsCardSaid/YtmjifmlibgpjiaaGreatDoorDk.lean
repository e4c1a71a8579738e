/- Date. -/
import Derived.Test.YtmjifmlibgpjiaaGreatDoorDj
import Derived.Test.YtmjifmlibgpjiaaGreatDoorDi
namespace Go.Proofs.YtmjifmlibgpjiaaGreatDoor
open Go.RowKit Go.Shelf Tx Go.Maps
set_option linter.unusedVariables false
set_option maxRecDepth 100000

set_option maxHeartbeats 2000000 in
theorem Date_B (n y m k : Nat) (w : World) (hd : IsDate n y m k) (h9 : y ≤ 9999) (hE : Env w) : Calls Tryz.prog 28 #[.int .i64 (n : Int), .int .u8 66] w (GivesSE w (Lib.decDigits n)) := by
  have hn := isDate_max hd h9
  have KT := fun W => Lib.hid (isDay_any (n : Int) W)
  rw [inR_true (by omega) (by omega)] at KT
  have KD := fun W => Lib.hid (dateOf_any n y m k W hd h9)
  have KF := fun W => Lib.hid (datF_any y m k W)
  have KX := fun W hW => Lib.hid (base_any n y m k W hd h9 hW)
  have HE := Lib.hid hE
  unfold dtV at KF KX
  clear hd h9 hE hn
  go_enter Tryz.func28, Tryz.ntmps28
  go_wp2_with (first
    | (go_at_call 51; refine Calls.mono (KT _).out ?_; rintro e W1 ⟨rfl, rfl⟩)
    | (go_at_call 52; refine Calls.mono (KD _).out ?_; rintro e w1 ⟨rfl, hb1⟩; have B1 := Lib.hid hb1; clear hb1)
    | (go_at_call 60; refine Calls.mono (KF _).out ?_; rintro e w2 ⟨b, q, D, rfl, hF, hb2⟩; have B2 := Lib.hid (Bl.step B1.out hb2); have hlk : (Instr.lookup 81 (.map (some b)) (.int .u8 66) true).run Tryz.prog w2 = .ok (.tuple #[.func (.func 87) #[.agg #[.int .i64 (y : Int), .int .i64 (m : Int), .int .i64 (k : Int)]] #[], .bool true]) w2 := (look_ok lawU8 Tryz.underlying81 (zeroF w2) hF.out.1 hF.out.2 66 Tryz.underlying5); clear hb2)
    | (go_at_call 87; refine Calls.mono (KX _ (HE.out.below B2.out)).out ?_; rintro e w3 ⟨t, rfl, ht, hb3⟩))
  go_ret2
  exact ⟨t, rfl, ht, Bl.step B2.out hb3⟩
set_option maxHeartbeats 2000000 in
theorem Date_C (n y m k : Nat) (w : World) (hd : IsDate n y m k) (h9 : y ≤ 9999) (hE : Env w) : Calls Tryz.prog 28 #[.int .i64 (n : Int), .int .u8 67] w (GivesSE w (Lib.decDigits (n - bef (cenY y - 1) + 1))) := by
  have hn := isDate_max hd h9
  have KT := fun W => Lib.hid (isDay_any (n : Int) W)
  rw [inR_true (by omega) (by omega)] at KT
  have KD := fun W => Lib.hid (dateOf_any n y m k W hd h9)
  have KF := fun W => Lib.hid (datF_any y m k W)
  have KX := fun W hW => Lib.hid (century_any n y m k W hd h9 hW)
  have HE := Lib.hid hE
  unfold dtV at KF KX
  clear hd h9 hE hn
  go_enter Tryz.func28, Tryz.ntmps28
  go_wp2_with (first
    | (go_at_call 51; refine Calls.mono (KT _).out ?_; rintro e W1 ⟨rfl, rfl⟩)
    | (go_at_call 52; refine Calls.mono (KD _).out ?_; rintro e w1 ⟨rfl, hb1⟩; have B1 := Lib.hid hb1; clear hb1)
    | (go_at_call 60; refine Calls.mono (KF _).out ?_; rintro e w2 ⟨b, q, D, rfl, hF, hb2⟩; have B2 := Lib.hid (Bl.step B1.out hb2); have hlk : (Instr.lookup 81 (.map (some b)) (.int .u8 67) true).run Tryz.prog w2 = .ok (.tuple #[.func (.func 88) #[.agg #[.int .i64 (y : Int), .int .i64 (m : Int), .int .i64 (k : Int)]] #[], .bool true]) w2 := (look_ok lawU8 Tryz.underlying81 (zeroF w2) hF.out.1 hF.out.2 67 Tryz.underlying5); clear hb2)
    | (go_at_call 88; refine Calls.mono (KX _ (HE.out.below B2.out)).out ?_; rintro e w3 ⟨t, rfl, ht, hb3⟩))
  go_ret2
  exact ⟨t, rfl, ht, Bl.step B2.out hb3⟩
set_option maxHeartbeats 2000000 in
theorem Date_D (n y m k : Nat) (w : World) (hd : IsDate n y m k) (h9 : y ≤ 9999) (hE : Env w) : Calls Tryz.prog 28 #[.int .i64 (n : Int), .int .u8 68] w (GivesSE w (Lib.decDigits (n - bef (y - 1) + 1))) := by
  have hn := isDate_max hd h9
  have KT := fun W => Lib.hid (isDay_any (n : Int) W)
  rw [inR_true (by omega) (by omega)] at KT
  have KD := fun W => Lib.hid (dateOf_any n y m k W hd h9)
  have KF := fun W => Lib.hid (datF_any y m k W)
  have KX := fun W hW => Lib.hid (days_any n y m k W hd h9 hW)
  have HE := Lib.hid hE
  unfold dtV at KF KX
  clear hd h9 hE hn
  go_enter Tryz.func28, Tryz.ntmps28
  go_wp2_with (first
    | (go_at_call 51; refine Calls.mono (KT _).out ?_; rintro e W1 ⟨rfl, rfl⟩)
    | (go_at_call 52; refine Calls.mono (KD _).out ?_; rintro e w1 ⟨rfl, hb1⟩; have B1 := Lib.hid hb1; clear hb1)
    | (go_at_call 60; refine Calls.mono (KF _).out ?_; rintro e w2 ⟨b, q, D, rfl, hF, hb2⟩; have B2 := Lib.hid (Bl.step B1.out hb2); have hlk : (Instr.lookup 81 (.map (some b)) (.int .u8 68) true).run Tryz.prog w2 = .ok (.tuple #[.func (.func 89) #[.agg #[.int .i64 (y : Int), .int .i64 (m : Int), .int .i64 (k : Int)]] #[], .bool true]) w2 := (look_ok lawU8 Tryz.underlying81 (zeroF w2) hF.out.1 hF.out.2 68 Tryz.underlying5); clear hb2)
    | (go_at_call 89; refine Calls.mono (KX _ (HE.out.below B2.out)).out ?_; rintro e w3 ⟨t, rfl, ht, hb3⟩))
  go_ret2
  exact ⟨t, rfl, ht, Bl.step B2.out hb3⟩
set_option maxHeartbeats 2000000 in
theorem Date_E (n y m k : Nat) (w : World) (hd : IsDate n y m k) (h9 : y ≤ 9999) (hE : Env w) : Calls Tryz.prog 28 #[.int .i64 (n : Int), .int .u8 69] w (GivesSE w (shortL (k % 100) (m % 100) (y % 100))) := by
  have hn := isDate_max hd h9
  have KT := fun W => Lib.hid (isDay_any (n : Int) W)
  rw [inR_true (by omega) (by omega)] at KT
  have KD := fun W => Lib.hid (dateOf_any n y m k W hd h9)
  have KF := fun W => Lib.hid (datF_any y m k W)
  have KX := fun W hW => Lib.hid (european_any y m k W h9 hd.m12 (by have := hd.kd; have := dim_pos y m; omega) hW)
  have HE := Lib.hid hE
  unfold dtV at KF KX
  clear hd h9 hE hn
  go_enter Tryz.func28, Tryz.ntmps28
  go_wp2_with (first
    | (go_at_call 51; refine Calls.mono (KT _).out ?_; rintro e W1 ⟨rfl, rfl⟩)
    | (go_at_call 52; refine Calls.mono (KD _).out ?_; rintro e w1 ⟨rfl, hb1⟩; have B1 := Lib.hid hb1; clear hb1)
    | (go_at_call 60; refine Calls.mono (KF _).out ?_; rintro e w2 ⟨b, q, D, rfl, hF, hb2⟩; have B2 := Lib.hid (Bl.step B1.out hb2); have hlk : (Instr.lookup 81 (.map (some b)) (.int .u8 69) true).run Tryz.prog w2 = .ok (.tuple #[.func (.func 90) #[.agg #[.int .i64 (y : Int), .int .i64 (m : Int), .int .i64 (k : Int)]] #[], .bool true]) w2 := (look_ok lawU8 Tryz.underlying81 (zeroF w2) hF.out.1 hF.out.2 69 Tryz.underlying5); clear hb2)
    | (go_at_call 90; refine Calls.mono (KX _ (HE.out.below B2.out)).out ?_; rintro e w3 ⟨t, rfl, ht, hb3⟩))
  go_ret2
  exact ⟨t, rfl, ht, Bl.step B2.out hb3⟩
set_option maxHeartbeats 2000000 in
theorem Date_I (n y m k : Nat) (w : World) (hd : IsDate n y m k) (h9 : y ≤ 9999) (hE : Env w) : Calls Tryz.prog 28 #[.int .i64 (n : Int), .int .u8 73] w (GivesSE w (longL [45] y m k)) := by
  have hn := isDate_max hd h9
  have KT := fun W => Lib.hid (isDay_any (n : Int) W)
  rw [inR_true (by omega) (by omega)] at KT
  have KD := fun W => Lib.hid (dateOf_any n y m k W hd h9)
  have KF := fun W => Lib.hid (datF_any y m k W)
  have KX := fun W hW => Lib.hid (iso_any y m k W h9 hd.m12 (by have := hd.kd; have := dim_pos y m; omega) hW)
  have HE := Lib.hid hE
  unfold dtV at KF KX
  clear hd h9 hE hn
  go_enter Tryz.func28, Tryz.ntmps28
  go_wp2_with (first
    | (go_at_call 51; refine Calls.mono (KT _).out ?_; rintro e W1 ⟨rfl, rfl⟩)
    | (go_at_call 52; refine Calls.mono (KD _).out ?_; rintro e w1 ⟨rfl, hb1⟩; have B1 := Lib.hid hb1; clear hb1)
    | (go_at_call 60; refine Calls.mono (KF _).out ?_; rintro e w2 ⟨b, q, D, rfl, hF, hb2⟩; have B2 := Lib.hid (Bl.step B1.out hb2); have hlk : (Instr.lookup 81 (.map (some b)) (.int .u8 73) true).run Tryz.prog w2 = .ok (.tuple #[.func (.func 91) #[.agg #[.int .i64 (y : Int), .int .i64 (m : Int), .int .i64 (k : Int)]] #[], .bool true]) w2 := (look_ok lawU8 Tryz.underlying81 (zeroF w2) hF.out.1 hF.out.2 73 Tryz.underlying5); clear hb2)
    | (go_at_call 91; refine Calls.mono (KX _ (HE.out.below B2.out)).out ?_; rintro e w3 ⟨t, rfl, ht, hb3⟩))
  go_ret2
  exact ⟨t, rfl, ht, Bl.step B2.out hb3⟩
set_option maxHeartbeats 2000000 in
theorem Date_M (n y m k : Nat) (w : World) (hd : IsDate n y m k) (h9 : y ≤ 9999) (hE : Env w) : Calls Tryz.prog 28 #[.int .i64 (n : Int), .int .u8 77] w (GivesSE w (monN m)) := by
  have hn := isDate_max hd h9
  have KT := fun W => Lib.hid (isDay_any (n : Int) W)
  rw [inR_true (by omega) (by omega)] at KT
  have KD := fun W => Lib.hid (dateOf_any n y m k W hd h9)
  have KF := fun W => Lib.hid (datF_any y m k W)
  have KX := fun W hW => Lib.hid (month_any y m k W hd.m1 hd.m12 hW)
  have HE := Lib.hid hE
  unfold dtV at KF KX
  clear hd h9 hE hn
  go_enter Tryz.func28, Tryz.ntmps28
  go_wp2_with (first
    | (go_at_call 51; refine Calls.mono (KT _).out ?_; rintro e W1 ⟨rfl, rfl⟩)
    | (go_at_call 52; refine Calls.mono (KD _).out ?_; rintro e w1 ⟨rfl, hb1⟩; have B1 := Lib.hid hb1; clear hb1)
    | (go_at_call 60; refine Calls.mono (KF _).out ?_; rintro e w2 ⟨b, q, D, rfl, hF, hb2⟩; have B2 := Lib.hid (Bl.step B1.out hb2); have hlk : (Instr.lookup 81 (.map (some b)) (.int .u8 77) true).run Tryz.prog w2 = .ok (.tuple #[.func (.func 92) #[.agg #[.int .i64 (y : Int), .int .i64 (m : Int), .int .i64 (k : Int)]] #[], .bool true]) w2 := (look_ok lawU8 Tryz.underlying81 (zeroF w2) hF.out.1 hF.out.2 77 Tryz.underlying5); clear hb2)
    | (go_at_call 92; refine Calls.mono (KX _ (HE.out.below B2.out)).out ?_; rintro e w3 ⟨t, rfl, ht, hb3⟩))
  go_ret2
  exact ⟨t, rfl, ht, Bl.step B2.out hb3⟩
set_option maxHeartbeats 2000000 in
theorem Date_N (n y m k : Nat) (w : World) (hd : IsDate n y m k) (h9 : y ≤ 9999) (hE : Env w) : Calls Tryz.prog 28 #[.int .i64 (n : Int), .int .u8 78] w (GivesSE w (normL y m k)) := by
  have hn := isDate_max hd h9
  have KT := fun W => Lib.hid (isDay_any (n : Int) W)
  rw [inR_true (by omega) (by omega)] at KT
  have KD := fun W => Lib.hid (dateOf_any n y m k W hd h9)
  have KF := fun W => Lib.hid (datF_any y m k W)
  have KX := fun W hW => Lib.hid (normal_any y m k W h9 hd.m1 hd.m12 (by have := hd.kd; have := dim_pos y m; omega) hW)
  have HE := Lib.hid hE
  unfold dtV at KF KX
  clear hd h9 hE hn
  go_enter Tryz.func28, Tryz.ntmps28
  go_wp2_with (first
    | (go_at_call 51; refine Calls.mono (KT _).out ?_; rintro e W1 ⟨rfl, rfl⟩)
    | (go_at_call 52; refine Calls.mono (KD _).out ?_; rintro e w1 ⟨rfl, hb1⟩; have B1 := Lib.hid hb1; clear hb1)
    | (go_at_call 60; refine Calls.mono (KF _).out ?_; rintro e w2 ⟨b, q, D, rfl, hF, hb2⟩; have B2 := Lib.hid (Bl.step B1.out hb2); have hlk : (Instr.lookup 81 (.map (some b)) (.int .u8 78) true).run Tryz.prog w2 = .ok (.tuple #[.func (.func 93) #[.agg #[.int .i64 (y : Int), .int .i64 (m : Int), .int .i64 (k : Int)]] #[], .bool true]) w2 := (look_ok lawU8 Tryz.underlying81 (zeroF w2) hF.out.1 hF.out.2 78 Tryz.underlying5); clear hb2)
    | (go_at_call 93; refine Calls.mono (KX _ (HE.out.below B2.out)).out ?_; rintro e w3 ⟨t, rfl, ht, hb3⟩))
  go_ret2
  exact ⟨t, rfl, ht, Bl.step B2.out hb3⟩
set_option maxHeartbeats 2000000 in
theorem Date_O (n y m k : Nat) (w : World) (hd : IsDate n y m k) (h9 : y ≤ 9999) (hE : Env w) : Calls Tryz.prog 28 #[.int .i64 (n : Int), .int .u8 79] w (GivesSE w (shortL (y % 100) (m % 100) (k % 100))) := by
  have hn := isDate_max hd h9
  have KT := fun W => Lib.hid (isDay_any (n : Int) W)
  rw [inR_true (by omega) (by omega)] at KT
  have KD := fun W => Lib.hid (dateOf_any n y m k W hd h9)
  have KF := fun W => Lib.hid (datF_any y m k W)
  have KX := fun W hW => Lib.hid (ordered_any y m k W h9 hd.m12 (by have := hd.kd; have := dim_pos y m; omega) hW)
  have HE := Lib.hid hE
  unfold dtV at KF KX
  clear hd h9 hE hn
  go_enter Tryz.func28, Tryz.ntmps28
  go_wp2_with (first
    | (go_at_call 51; refine Calls.mono (KT _).out ?_; rintro e W1 ⟨rfl, rfl⟩)
    | (go_at_call 52; refine Calls.mono (KD _).out ?_; rintro e w1 ⟨rfl, hb1⟩; have B1 := Lib.hid hb1; clear hb1)
    | (go_at_call 60; refine Calls.mono (KF _).out ?_; rintro e w2 ⟨b, q, D, rfl, hF, hb2⟩; have B2 := Lib.hid (Bl.step B1.out hb2); have hlk : (Instr.lookup 81 (.map (some b)) (.int .u8 79) true).run Tryz.prog w2 = .ok (.tuple #[.func (.func 94) #[.agg #[.int .i64 (y : Int), .int .i64 (m : Int), .int .i64 (k : Int)]] #[], .bool true]) w2 := (look_ok lawU8 Tryz.underlying81 (zeroF w2) hF.out.1 hF.out.2 79 Tryz.underlying5); clear hb2)
    | (go_at_call 94; refine Calls.mono (KX _ (HE.out.below B2.out)).out ?_; rintro e w3 ⟨t, rfl, ht, hb3⟩))
  go_ret2
  exact ⟨t, rfl, ht, Bl.step B2.out hb3⟩
set_option maxHeartbeats 2000000 in
theorem Date_S (n y m k : Nat) (w : World) (hd : IsDate n y m k) (h9 : y ≤ 9999) (hE : Env w) : Calls Tryz.prog 28 #[.int .i64 (n : Int), .int .u8 83] w (GivesSE w (longL [] y m k)) := by
  have hn := isDate_max hd h9
  have KT := fun W => Lib.hid (isDay_any (n : Int) W)
  rw [inR_true (by omega) (by omega)] at KT
  have KD := fun W => Lib.hid (dateOf_any n y m k W hd h9)
  have KF := fun W => Lib.hid (datF_any y m k W)
  have KX := fun W hW => Lib.hid (standard_any y m k W h9 hd.m12 (by have := hd.kd; have := dim_pos y m; omega) hW)
  have HE := Lib.hid hE
  unfold dtV at KF KX
  clear hd h9 hE hn
  go_enter Tryz.func28, Tryz.ntmps28
  go_wp2_with (first
    | (go_at_call 51; refine Calls.mono (KT _).out ?_; rintro e W1 ⟨rfl, rfl⟩)
    | (go_at_call 52; refine Calls.mono (KD _).out ?_; rintro e w1 ⟨rfl, hb1⟩; have B1 := Lib.hid hb1; clear hb1)
    | (go_at_call 60; refine Calls.mono (KF _).out ?_; rintro e w2 ⟨b, q, D, rfl, hF, hb2⟩; have B2 := Lib.hid (Bl.step B1.out hb2); have hlk : (Instr.lookup 81 (.map (some b)) (.int .u8 83) true).run Tryz.prog w2 = .ok (.tuple #[.func (.func 95) #[.agg #[.int .i64 (y : Int), .int .i64 (m : Int), .int .i64 (k : Int)]] #[], .bool true]) w2 := (look_ok lawU8 Tryz.underlying81 (zeroF w2) hF.out.1 hF.out.2 83 Tryz.underlying5); clear hb2)
    | (go_at_call 95; refine Calls.mono (KX _ (HE.out.below B2.out)).out ?_; rintro e w3 ⟨t, rfl, ht, hb3⟩))
  go_ret2
  exact ⟨t, rfl, ht, Bl.step B2.out hb3⟩
set_option maxHeartbeats 2000000 in
theorem Date_U (n y m k : Nat) (w : World) (hd : IsDate n y m k) (h9 : y ≤ 9999) (hE : Env w) : Calls Tryz.prog 28 #[.int .i64 (n : Int), .int .u8 85] w (GivesSE w (shortL (m % 100) (k % 100) (y % 100))) := by
  have hn := isDate_max hd h9
  have KT := fun W => Lib.hid (isDay_any (n : Int) W)
  rw [inR_true (by omega) (by omega)] at KT
  have KD := fun W => Lib.hid (dateOf_any n y m k W hd h9)
  have KF := fun W => Lib.hid (datF_any y m k W)
  have KX := fun W hW => Lib.hid (usa_any y m k W h9 hd.m12 (by have := hd.kd; have := dim_pos y m; omega) hW)
  have HE := Lib.hid hE
  unfold dtV at KF KX
  clear hd h9 hE hn
  go_enter Tryz.func28, Tryz.ntmps28
  go_wp2_with (first
    | (go_at_call 51; refine Calls.mono (KT _).out ?_; rintro e W1 ⟨rfl, rfl⟩)
    | (go_at_call 52; refine Calls.mono (KD _).out ?_; rintro e w1 ⟨rfl, hb1⟩; have B1 := Lib.hid hb1; clear hb1)
    | (go_at_call 60; refine Calls.mono (KF _).out ?_; rintro e w2 ⟨b, q, D, rfl, hF, hb2⟩; have B2 := Lib.hid (Bl.step B1.out hb2); have hlk : (Instr.lookup 81 (.map (some b)) (.int .u8 85) true).run Tryz.prog w2 = .ok (.tuple #[.func (.func 96) #[.agg #[.int .i64 (y : Int), .int .i64 (m : Int), .int .i64 (k : Int)]] #[], .bool true]) w2 := (look_ok lawU8 Tryz.underlying81 (zeroF w2) hF.out.1 hF.out.2 85 Tryz.underlying5); clear hb2)
    | (go_at_call 96; refine Calls.mono (KX _ (HE.out.below B2.out)).out ?_; rintro e w3 ⟨t, rfl, ht, hb3⟩))
  go_ret2
  exact ⟨t, rfl, ht, Bl.step B2.out hb3⟩
set_option maxHeartbeats 2000000 in
theorem Date_W (n y m k : Nat) (w : World) (hd : IsDate n y m k) (h9 : y ≤ 9999) (hE : Env w) : Calls Tryz.prog 28 #[.int .i64 (n : Int), .int .u8 87] w (GivesSE w (dayN (n % 7))) := by
  have hn := isDate_max hd h9
  have KT := fun W => Lib.hid (isDay_any (n : Int) W)
  rw [inR_true (by omega) (by omega)] at KT
  have KD := fun W => Lib.hid (dateOf_any n y m k W hd h9)
  have KF := fun W => Lib.hid (datF_any y m k W)
  have KX := fun W hW => Lib.hid (weekday_any n y m k W hd h9 hW)
  have HE := Lib.hid hE
  unfold dtV at KF KX
  clear hd h9 hE hn
  go_enter Tryz.func28, Tryz.ntmps28
  go_wp2_with (first
    | (go_at_call 51; refine Calls.mono (KT _).out ?_; rintro e W1 ⟨rfl, rfl⟩)
    | (go_at_call 52; refine Calls.mono (KD _).out ?_; rintro e w1 ⟨rfl, hb1⟩; have B1 := Lib.hid hb1; clear hb1)
    | (go_at_call 60; refine Calls.mono (KF _).out ?_; rintro e w2 ⟨b, q, D, rfl, hF, hb2⟩; have B2 := Lib.hid (Bl.step B1.out hb2); have hlk : (Instr.lookup 81 (.map (some b)) (.int .u8 87) true).run Tryz.prog w2 = .ok (.tuple #[.func (.func 97) #[.agg #[.int .i64 (y : Int), .int .i64 (m : Int), .int .i64 (k : Int)]] #[], .bool true]) w2 := (look_ok lawU8 Tryz.underlying81 (zeroF w2) hF.out.1 hF.out.2 87 Tryz.underlying5); clear hb2)
    | (go_at_call 97; refine Calls.mono (KX _ (HE.out.below B2.out)).out ?_; rintro e w3 ⟨t, rfl, ht, hb3⟩))
  go_ret2
  exact ⟨t, rfl, ht, Bl.step B2.out hb3⟩
set_option maxHeartbeats 2000000 in
theorem Date_none (n y m k : Nat) (x : UInt8) (w : World) (hd : IsDate n y m k) (h9 : y ≤ 9999) (hx : (datFL y m k).lookup x = none) : Calls Tryz.prog 28 #[.int .i64 (n : Int), .int .u8 (x.toNat : Int)] w (Gives w #[.string ⟨#[]⟩, .int .i64 1]) := by
  have hn := isDate_max hd h9
  have KT := fun W => Lib.hid (isDay_any (n : Int) W)
  rw [inR_true (by omega) (by omega)] at KT
  have KD := fun W => Lib.hid (dateOf_any n y m k W hd h9)
  have KF := fun W => Lib.hid (datF_any y m k W)
  have HX := Lib.hid hx
  unfold dtV at KF
  clear hd h9 hn hx
  go_enter Tryz.func28, Tryz.ntmps28
  go_wp2_with (first
    | (go_at_call 51; refine Calls.mono (KT _).out ?_; rintro e W1 ⟨rfl, rfl⟩)
    | (go_at_call 52; refine Calls.mono (KD _).out ?_; rintro e w1 ⟨rfl, hb1⟩; have B1 := Lib.hid hb1; clear hb1)
    | (go_at_call 60; refine Calls.mono (KF _).out ?_; rintro e w2 ⟨b, q, D, rfl, hF, hb2⟩; have B2 := Lib.hid (Bl.step B1.out hb2); have hlk := look_ok lawU8 Tryz.underlying81 (zeroF w2) hF.out.1 hF.out.2 x Tryz.underlying5; rw [HX.out] at hlk; clear hb2))
  go_ret2
  exact ⟨rfl, B2.out⟩
set_option maxHeartbeats 800000 in
theorem Date_bad (n x : Int) (w : World) (h : ¬ (0 ≤ n ∧ n ≤ 3652058)) : Calls Tryz.prog 28 #[.int .i64 n, .int .u8 x] w (Gives w #[.string ⟨#[]⟩, .int .i64 1]) := by
  have KT := fun W => Lib.hid (isDay_any n W)
  rw [inR_false h] at KT
  clear h
  go_enter Tryz.func28, Tryz.ntmps28
  go_wp2_with (first
    | (go_at_call 51; refine Calls.mono (KT _).out ?_; rintro e W1 ⟨rfl, rfl⟩))
  go_ret2
  exact ⟨rfl, Below.refl _ _⟩
theorem toList_bts (s : ByteArray) : s.toList = bts s := by simp [bts, ByteArray.toList_eq]
theorem str_eq {t u : ByteArray} {l : List UInt8} (ht : bts t = l) (hu : bts u = l) : (t.toList == u.toList) = true := by rw [toList_bts, toList_bts, ht, hu]; simp
set_option maxHeartbeats 1000000 in
theorem ldate_any (n x : Int) (u : ByteArray) (l : List UInt8) (w : World) (h : Calls Tryz.prog 28 #[.int .i64 n, .int .u8 x] w (GivesSE w l)) (hu : bts u = l) : Calls Tryz.prog 54 #[.int .i64 n, .int .u8 x, .string u] w fun e w' => e = .returned (.bool true) ∧ Below w.heap.size w w' := by
  have K := Lib.hid h
  have HU := Lib.hid hu
  clear h hu
  go_enter Tryz.func54, Tryz.ntmps54
  go_wp2_with (first
    | (go_at_call 28; refine Calls.mono K.out ?_; rintro e w1 ⟨t, rfl, ht, hb1⟩; have hq := str_eq ht.out HU.out))
  go_ret
  exact ⟨rfl, hb1⟩
set_option maxHeartbeats 1000000 in
theorem lclock_any (n x : Int) (u : ByteArray) (l : List UInt8) (w : World) (h : Calls Tryz.prog 32 #[.int .i64 n, .int .u8 x] w (GivesSE w l)) (hu : bts u = l) : Calls Tryz.prog 55 #[.int .i64 n, .int .u8 x, .string u] w fun e w' => e = .returned (.bool true) ∧ Below w.heap.size w w' := by
  have K := Lib.hid h
  have HU := Lib.hid hu
  clear h hu
  go_enter Tryz.func55, Tryz.ntmps55
  go_wp2_with (first
    | (go_at_call 32; refine Calls.mono K.out ?_; rintro e w1 ⟨t, rfl, ht, hb1⟩; have hq := str_eq ht.out HU.out))
  go_ret
  exact ⟨rfl, hb1⟩
end Go.Proofs.YtmjifmlibgpjiaaGreatDoor
