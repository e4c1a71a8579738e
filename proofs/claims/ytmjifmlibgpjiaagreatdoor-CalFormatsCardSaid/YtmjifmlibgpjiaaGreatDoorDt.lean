/- sane. -/
import Derived.Test.YtmjifmlibgpjiaaGreatDoorDs
namespace Go.Proofs.YtmjifmlibgpjiaaGreatDoor
open Go.RowKit Go.Shelf Tx Go.Maps
set_option linter.unusedVariables false
set_option maxRecDepth 100000
set_option maxHeartbeats 8000000 in
theorem sane_any (w : World) (hE : Env w) : Calls Tryz.prog 23 #[] w fun e w' => e = .returned (.bool true) ∧ Below w.heap.size w w' := by
  have HE := Lib.hid hE
  have HS := Lib.hid e_S
  have B0 := Lib.hid (Below.refl w.heap.size w)
  clear hE
  go_enter Tryz.func23, Tryz.ntmps23
  go_wp2_with (first
    | (go_at_call 15; have hz := B0; refine Calls.mono (k_DayOf _) ?_; rintro e w1 ⟨rfl, hb⟩; have B1 := Lib.hid (Bl.step B0.out hb); clear hb hz B0)
    | (go_at_call 17; have hz := B1; refine Calls.mono (k_DateOf _) ?_; rintro e w2 ⟨rfl, hb⟩; have B2 := Lib.hid (Bl.step B1.out hb); clear hb hz B1)
    | (go_at_call 15; have hz := B2; refine Calls.mono (k_DayOfB _) ?_; rintro e w3 ⟨rfl, hb⟩; have B3 := Lib.hid (Bl.step B2.out hb); clear hb hz B2)
    | (go_at_call 19; have hz := B3; refine Calls.mono (k_Weekday _) ?_; rintro e w4 ⟨rfl, hb⟩; have B4 := Lib.hid (Bl.step B3.out hb); clear hb hz B3)
    | (go_at_call 24; have hz := B4; refine Calls.mono (k_Week _) ?_; rintro e w5 ⟨rfl, hb⟩; have B5 := Lib.hid (Bl.step B4.out hb); clear hb hz B4)
    | (go_at_call 30; have hz := B5; refine Calls.mono (k_ReadDay _ (HE.out.below B5.out)) ?_; rintro e w6 ⟨rfl, hb⟩; have B6 := Lib.hid (Bl.step B5.out hb); clear hb hz B5)
    | (go_at_call 34; have hz := B6; refine Calls.mono (k_ReadTime _ (HE.out.below B6.out)) ?_; rintro e w7 ⟨rfl, hb⟩; have B7 := Lib.hid (Bl.step B6.out hb); clear hb hz B6)
    | (go_at_call 36; have hz := B7; refine Calls.mono (k_Elapsed _ (HE.out.below B7.out)) ?_; rintro e w8 ⟨t, rfl, ht, hb⟩; have B8 := Lib.hid (Bl.step B7.out hb); obtain rfl : t = ⟨#[49, 46, 53, 48, 48, 48, 48, 48]⟩ := bts_inj (ht.out.trans HS.out.symm); clear hb ht hz B7)
    | (go_at_call 54; have hz := B8; refine Calls.mono (k_dB _ (HE.out.below B8.out)) ?_; rintro e w9 ⟨rfl, hb⟩; have B9 := Lib.hid (Bl.step B8.out hb); clear hb hz B8)
    | (go_at_call 54; have hz := B9; refine Calls.mono (k_dC _ (HE.out.below B9.out)) ?_; rintro e w10 ⟨rfl, hb⟩; have B10 := Lib.hid (Bl.step B9.out hb); clear hb hz B9)
    | (go_at_call 54; have hz := B10; refine Calls.mono (k_dD _ (HE.out.below B10.out)) ?_; rintro e w11 ⟨rfl, hb⟩; have B11 := Lib.hid (Bl.step B10.out hb); clear hb hz B10)
    | (go_at_call 54; have hz := B11; refine Calls.mono (k_dI _ (HE.out.below B11.out)) ?_; rintro e w12 ⟨rfl, hb⟩; have B12 := Lib.hid (Bl.step B11.out hb); clear hb hz B11)
    | (go_at_call 54; have hz := B12; refine Calls.mono (k_dN _ (HE.out.below B12.out)) ?_; rintro e w13 ⟨rfl, hb⟩; have B13 := Lib.hid (Bl.step B12.out hb); clear hb hz B12)
    | (go_at_call 54; have hz := B13; refine Calls.mono (k_dO _ (HE.out.below B13.out)) ?_; rintro e w14 ⟨rfl, hb⟩; have B14 := Lib.hid (Bl.step B13.out hb); clear hb hz B13)
    | (go_at_call 54; have hz := B14; refine Calls.mono (k_dW _ (HE.out.below B14.out)) ?_; rintro e w15 ⟨rfl, hb⟩; have B15 := Lib.hid (Bl.step B14.out hb); clear hb hz B14)
    | (go_at_call 55; have hz := B15; refine Calls.mono (k_tC _ (HE.out.below B15.out)) ?_; rintro e w16 ⟨rfl, hb⟩; have B16 := Lib.hid (Bl.step B15.out hb); clear hb hz B15)
    | (go_at_call 55; have hz := B16; refine Calls.mono (k_tL _ (HE.out.below B16.out)) ?_; rintro e w17 ⟨rfl, hb⟩; have B17 := Lib.hid (Bl.step B16.out hb); clear hb hz B16)
    | (go_at_call 55; have hz := B17; refine Calls.mono (k_tM _ (HE.out.below B17.out)) ?_; rintro e w18 ⟨rfl, hb⟩; have B18 := Lib.hid (Bl.step B17.out hb); clear hb hz B17))
  go_ret
  exact ⟨rfl, B18.out⟩
end Go.Proofs.YtmjifmlibgpjiaaGreatDoor
