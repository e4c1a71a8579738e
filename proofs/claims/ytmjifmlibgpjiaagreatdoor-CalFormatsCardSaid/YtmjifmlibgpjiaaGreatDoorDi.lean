/- Time and Elapsed. -/
import Derived.Test.YtmjifmlibgpjiaaGreatDoorDh
namespace Go.Proofs.YtmjifmlibgpjiaaGreatDoor
open Go.RowKit Go.Shelf Tx Go.Maps
set_option linter.unusedVariables false
set_option maxRecDepth 100000

namespace Tx
def hourF (c : Nat) : Nat := c / 3600000000
def civL (c : Nat) : List UInt8 := Lib.join [padd (1 + (hourF c + 11) % 12) 1, padd (minF c) 2] [58] ++ (if hourF c < 12 then [97, 109] else [112, 109])
end Tx
theorem civFacts (g x : Nat) (hg : g < 24) (hx : x = 1 + (g + 11) % 12) : IntKind.i64.wrap ((g : Int) + 11) = (g : Int) + 11 ∧ wrap64 ((g : Int) + 11) = (g : Int) + 11 ∧ IntKind.i64.wrap (1 + ((g : Int) + 11) % 12) = (x : Int) ∧ wrap64 (1 + ((g : Int) + 11) % 12) = (x : Int) ∧ ((g : Int) + 11).tmod 12 = ((g : Int) + 11) % 12 := by
  have e : 1 + ((g : Int) + 11) % 12 = (x : Int) := by omega
  exact ⟨i64i' (by omega) (by omega), w64 (by omega) (by omega), by rw [e]; exact i64i' (by omega) (by omega), by rw [e]; exact w64 (by omega) (by omega), Int.tmod_eq_emod_of_nonneg (by omega)⟩
theorem halfFacts (g : Nat) (hg : g < 24) : (g < 12 → (g : Int) / 12 = 0 ∧ (g : Int).tdiv 12 = 0) ∧ (¬ g < 12 → (g : Int) / 12 = 1 ∧ (g : Int).tdiv 12 = 1) := by
  refine ⟨fun h => ?_, fun h => ?_⟩
  · have : (g : Int) / 12 = 0 := by omega
    exact ⟨this, by rw [Int.tdiv_eq_ediv_of_nonneg (by omega)]; exact this⟩
  · have : (g : Int) / 12 = 1 := by omega
    exact ⟨this, by rw [Int.tdiv_eq_ediv_of_nonneg (by omega)]; exact this⟩
set_option maxHeartbeats 400000 in
theorem halves_any (w : World) : Calls Tryz.prog 141 #[] w fun e w' => e = .returned (.slice (some ⟨w.heap.size, 0, none⟩) 2 2) ∧ w.alloc (.cells #[.string ⟨#[97, 109]⟩, .string ⟨#[112, 109]⟩] 9) = w' := by
  go_enter Tryz.func141, Tryz.ntmps141
  go_wp2
  go_ret
  exact ⟨rfl, rfl⟩
set_option maxHeartbeats 2000000 in
theorem c_civil_any (c : Nat) (w : World) (hc : c ≤ 86399999999) (hE : Env w) : Calls Tryz.prog 107 #[.int .i64 (c : Int)] w (GivesS w (civL c)) := by
  obtain ⟨g, hg⟩ : ∃ g, g = hourF c := ⟨_, rfl⟩
  obtain ⟨b, hb⟩ : ∃ b, b = minF c := ⟨_, rfl⟩
  obtain ⟨x, hx⟩ : ∃ x, x = 1 + (g + 11) % 12 := ⟨_, rfl⟩
  have KG := fun W => Lib.hid (count3600000000_any c g W hc hg)
  have KM := fun W => Lib.hid (minuteField_any c W hc)
  rw [← hb] at KM
  have hg2 : g < 24 := by rw [hg]; unfold hourF; omega
  have CF := Lib.hid (civFacts g x hg2 hx)
  have hb2 : b < 60 := by rw [hb]; exact Nat.mod_lt _ (by decide)
  have hx2 : x ≤ 12 := by rw [hx]; have := Nat.mod_lt (g + 11) (show 0 < 12 by decide); omega
  have hl : civL c = Lib.join [padd x 1, padd b 2] [58] ++ (if g < 12 then [97, 109] else [112, 109]) := by unfold civL; rw [← hg, ← hb, ← hx]
  rw [hl]
  have KJ := fun (W : World) (B : Nat) (hB : BoxC W B 99 #[.int .i64 (x : Int), .int .i64 1, .int .i64 (b : Int), .int .i64 2]) (hW : Env W) => Lib.hid (joined_any ⟨#[58]⟩ B [(x, 1), (b, 2)] W (by simp) (by simp) (by
    intro f hf
    rw [pow19]
    simp at hf
    rcases hf with rfl | rfl <;> dsimp only <;> omega) (by decide) (fieldsAt_two x 1 b 2 hB) hB.lt hW)
  have hj : (Lib.join [padd x 1, padd b 2] [58]).length ≤ 1000 := by
    have h := join_len [58] 100 [padd x 1, padd b 2] (by
      intro y hy
      have a1 : (Lib.decDigits x).length ≤ 19 := dd_len (k := 18) (by rw [pow19]; omega)
      have a2 : (Lib.decDigits b).length ≤ 19 := dd_len (k := 18) (by rw [pow19]; omega)
      simp at hy
      rcases hy with rfl | rfl <;> rw [padd_len] <;> omega)
    simp at h ⊢
    omega
  have HJ := Lib.hid hj
  have HE := Lib.hid hE
  have HF := halfFacts g hg2
  by_cases hlt : g < 12
  · obtain ⟨f1, f2⟩ := HF.1 hlt
    rw [if_pos hlt]
    clear hc hg hb hx hb2 hx2 hE hl hj HF hg2 hlt
    obtain ⟨m1, m2, m3, m4, m5⟩ := CF.out
    clear CF
    go_enter Tryz.func107, Tryz.ntmps107
    go_wp2_with (first
      | (go_at_call 139; refine Calls.mono (KG _).out ?_; rintro e w1 ⟨rfl, rfl⟩)
      | (go_at_call 140; refine Calls.mono (KM _).out ?_; rintro e w3 ⟨rfl, rfl⟩)
      | (go_at_call 79; refine Calls.mono (KJ _ _ (by repeat (first | exact BoxC.newAt (by simp) | refine BoxC.drew ?_ | refine BoxC.alloc ?_ _)) (HE.out.below (by repeat (first | exact Below.refl _ _ | refine Bl.alloc ?_ _ | refine Bl.drew ?_)))).out ?_; rintro e w4 ⟨t, rfl, ht, hb4⟩; have B1 := Lib.hid (Bl.step (show Below w.heap.size w _ from by repeat (first | exact Below.refl _ _ | refine Bl.alloc ?_ _ | refine Bl.drew ?_)) hb4); have h1 : ¬ 9223372036854775807 < t.size + 2 := (by have a := HJ.out; have q := congrArg List.length ht.out; rw [bts_length] at q; simp only [List.map_cons, List.map_nil, fldL] at q; have e58 : bts (ByteArray.mk #[58]) = [58] := rfl; rw [e58] at q; omega); clear hb4)
      | (go_at_call 141; refine Calls.mono (halves_any _) ?_; rintro e w5 ⟨rfl, rfl⟩))
    go_ret
    exact ⟨_, rfl, Lib.hid (by rw [bts_append, ht.out]; rfl), by repeat (first | exact Below.refl _ _ | exact B1.out | exact B2.out | refine Bl.alloc ?_ _ | refine Bl.drew ?_)⟩
  · obtain ⟨f1, f2⟩ := HF.2 hlt
    rw [if_neg hlt]
    clear hc hg hb hx hb2 hx2 hE hl hj HF hg2 hlt
    obtain ⟨m1, m2, m3, m4, m5⟩ := CF.out
    clear CF
    go_enter Tryz.func107, Tryz.ntmps107
    go_wp2_with (first
      | (go_at_call 139; refine Calls.mono (KG _).out ?_; rintro e w1 ⟨rfl, rfl⟩)
      | (go_at_call 140; refine Calls.mono (KM _).out ?_; rintro e w3 ⟨rfl, rfl⟩)
      | (go_at_call 79; refine Calls.mono (KJ _ _ (by repeat (first | exact BoxC.newAt (by simp) | refine BoxC.drew ?_ | refine BoxC.alloc ?_ _)) (HE.out.below (by repeat (first | exact Below.refl _ _ | refine Bl.alloc ?_ _ | refine Bl.drew ?_)))).out ?_; rintro e w4 ⟨t, rfl, ht, hb4⟩; have B1 := Lib.hid (Bl.step (show Below w.heap.size w _ from by repeat (first | exact Below.refl _ _ | refine Bl.alloc ?_ _ | refine Bl.drew ?_)) hb4); have h1 : ¬ 9223372036854775807 < t.size + 2 := (by have a := HJ.out; have q := congrArg List.length ht.out; rw [bts_length] at q; simp only [List.map_cons, List.map_nil, fldL] at q; have e58 : bts (ByteArray.mk #[58]) = [58] := rfl; rw [e58] at q; omega); clear hb4)
      | (go_at_call 141; refine Calls.mono (halves_any _) ?_; rintro e w5 ⟨rfl, rfl⟩))
    go_ret
    exact ⟨_, rfl, Lib.hid (by rw [bts_append, ht.out]; rfl), by repeat (first | exact Below.refl _ _ | exact B1.out | exact B2.out | refine Bl.alloc ?_ _ | refine Bl.drew ?_)⟩
/-- A function gives a string and no error. -/
def GivesSE (w : World) (l : List UInt8) (e : Ending) (w' : World) : Prop := ∃ t : ByteArray, e = .returned (.tuple #[.string t, .int .i64 0]) ∧ Hid (bts t = l) ∧ Below w.heap.size w w'
theorem isTime_any (x : Int) (w : World) : Calls Tryz.prog 72 #[.int .i64 x] w fun e w' => e = .returned (.bool (inR x 0 86399999999)) ∧ w = w' := by
  have K := fun W => Lib.hid (inRange_any x 0 86399999999 W)
  go_enter Tryz.func72, Tryz.ntmps72
  go_wp2_with (first
    | (go_at_call 58; refine Calls.mono (K _).out ?_; rintro e w1 ⟨rfl, rfl⟩))
  go_ret
  exact ⟨rfl, rfl⟩
set_option maxHeartbeats 2000000 in
theorem Time_C (c : Nat) (w : World) (hc : c ≤ 86399999999) (hE : Env w) : Calls Tryz.prog 32 #[.int .i64 (c : Int), .int .u8 67] w (GivesSE w (civL c)) := by
  have KT := fun W => Lib.hid (isTime_any (c : Int) W)
  rw [inR_true (by omega) (by omega)] at KT
  have KF := fun W => Lib.hid (cloF_any c W)
  have KX := fun W hW => Lib.hid (c_civil_any c W hc hW)
  have HE := Lib.hid hE
  clear hc hE
  go_enter Tryz.func32, Tryz.ntmps32
  go_wp2_with (first
    | (go_at_call 72; refine Calls.mono (KT _).out ?_; rintro e W1 ⟨rfl, rfl⟩)
    | (go_at_call 73; refine Calls.mono (KF _).out ?_; rintro e w2 ⟨b, n, D, rfl, hF, hb2⟩; have B2 := Lib.hid hb2; have hlk : (Instr.lookup 81 (.map (some b)) (.int .u8 67) true).run Tryz.prog w2 = .ok (.tuple #[.func (.func 107) #[.int .i64 (c : Int)] #[], .bool true]) w2 := (look_ok lawU8 Tryz.underlying81 (zeroF w2) hF.out.1 hF.out.2 67 Tryz.underlying5); clear hb2)
    | (go_at_call 107; refine Calls.mono (KX _ (HE.out.below B2.out)).out ?_; rintro e w3 ⟨t, rfl, ht, hb3⟩))
  go_ret2
  exact ⟨t, rfl, ht, Bl.step B2.out hb3⟩
set_option maxHeartbeats 2000000 in
theorem Time_F (c : Nat) (w : World) (hc : c ≤ 86399999999) (hE : Env w) : Calls Tryz.prog 32 #[.int .i64 (c : Int), .int .u8 70] w (GivesSE w (Lib.decDigits (c / 1))) := by
  have KT := fun W => Lib.hid (isTime_any (c : Int) W)
  rw [inR_true (by omega) (by omega)] at KT
  have KF := fun W => Lib.hid (cloF_any c W)
  have KX := fun W hW => Lib.hid (c_fine_any c W hc hW)
  have HE := Lib.hid hE
  clear hc hE
  go_enter Tryz.func32, Tryz.ntmps32
  go_wp2_with (first
    | (go_at_call 72; refine Calls.mono (KT _).out ?_; rintro e W1 ⟨rfl, rfl⟩)
    | (go_at_call 73; refine Calls.mono (KF _).out ?_; rintro e w2 ⟨b, n, D, rfl, hF, hb2⟩; have B2 := Lib.hid hb2; have hlk : (Instr.lookup 81 (.map (some b)) (.int .u8 70) true).run Tryz.prog w2 = .ok (.tuple #[.func (.func 108) #[.int .i64 (c : Int)] #[], .bool true]) w2 := (look_ok lawU8 Tryz.underlying81 (zeroF w2) hF.out.1 hF.out.2 70 Tryz.underlying5); clear hb2)
    | (go_at_call 108; refine Calls.mono (KX _ (HE.out.below B2.out)).out ?_; rintro e w3 ⟨t, rfl, ht, hb3⟩))
  go_ret2
  exact ⟨t, rfl, ht, Bl.step B2.out hb3⟩
set_option maxHeartbeats 2000000 in
theorem Time_H (c : Nat) (w : World) (hc : c ≤ 86399999999) (hE : Env w) : Calls Tryz.prog 32 #[.int .i64 (c : Int), .int .u8 72] w (GivesSE w (Lib.decDigits (c / 3600000000))) := by
  have KT := fun W => Lib.hid (isTime_any (c : Int) W)
  rw [inR_true (by omega) (by omega)] at KT
  have KF := fun W => Lib.hid (cloF_any c W)
  have KX := fun W hW => Lib.hid (c_hours_any c W hc hW)
  have HE := Lib.hid hE
  clear hc hE
  go_enter Tryz.func32, Tryz.ntmps32
  go_wp2_with (first
    | (go_at_call 72; refine Calls.mono (KT _).out ?_; rintro e W1 ⟨rfl, rfl⟩)
    | (go_at_call 73; refine Calls.mono (KF _).out ?_; rintro e w2 ⟨b, n, D, rfl, hF, hb2⟩; have B2 := Lib.hid hb2; have hlk : (Instr.lookup 81 (.map (some b)) (.int .u8 72) true).run Tryz.prog w2 = .ok (.tuple #[.func (.func 109) #[.int .i64 (c : Int)] #[], .bool true]) w2 := (look_ok lawU8 Tryz.underlying81 (zeroF w2) hF.out.1 hF.out.2 72 Tryz.underlying5); clear hb2)
    | (go_at_call 109; refine Calls.mono (KX _ (HE.out.below B2.out)).out ?_; rintro e w3 ⟨t, rfl, ht, hb3⟩))
  go_ret2
  exact ⟨t, rfl, ht, Bl.step B2.out hb3⟩
set_option maxHeartbeats 2000000 in
theorem Time_L (c : Nat) (w : World) (hc : c ≤ 86399999999) (hE : Env w) : Calls Tryz.prog 32 #[.int .i64 (c : Int), .int .u8 76] w (GivesSE w (longT c)) := by
  have KT := fun W => Lib.hid (isTime_any (c : Int) W)
  rw [inR_true (by omega) (by omega)] at KT
  have KF := fun W => Lib.hid (cloF_any c W)
  have KX := fun W hW => Lib.hid (c_long_any c W hc hW)
  have HE := Lib.hid hE
  clear hc hE
  go_enter Tryz.func32, Tryz.ntmps32
  go_wp2_with (first
    | (go_at_call 72; refine Calls.mono (KT _).out ?_; rintro e W1 ⟨rfl, rfl⟩)
    | (go_at_call 73; refine Calls.mono (KF _).out ?_; rintro e w2 ⟨b, n, D, rfl, hF, hb2⟩; have B2 := Lib.hid hb2; have hlk : (Instr.lookup 81 (.map (some b)) (.int .u8 76) true).run Tryz.prog w2 = .ok (.tuple #[.func (.func 110) #[.int .i64 (c : Int)] #[], .bool true]) w2 := (look_ok lawU8 Tryz.underlying81 (zeroF w2) hF.out.1 hF.out.2 76 Tryz.underlying5); clear hb2)
    | (go_at_call 110; refine Calls.mono (KX _ (HE.out.below B2.out)).out ?_; rintro e w3 ⟨t, rfl, ht, hb3⟩))
  go_ret2
  exact ⟨t, rfl, ht, Bl.step B2.out hb3⟩
set_option maxHeartbeats 2000000 in
theorem Time_M (c : Nat) (w : World) (hc : c ≤ 86399999999) (hE : Env w) : Calls Tryz.prog 32 #[.int .i64 (c : Int), .int .u8 77] w (GivesSE w (Lib.decDigits (c / 60000000))) := by
  have KT := fun W => Lib.hid (isTime_any (c : Int) W)
  rw [inR_true (by omega) (by omega)] at KT
  have KF := fun W => Lib.hid (cloF_any c W)
  have KX := fun W hW => Lib.hid (c_minutes_any c W hc hW)
  have HE := Lib.hid hE
  clear hc hE
  go_enter Tryz.func32, Tryz.ntmps32
  go_wp2_with (first
    | (go_at_call 72; refine Calls.mono (KT _).out ?_; rintro e W1 ⟨rfl, rfl⟩)
    | (go_at_call 73; refine Calls.mono (KF _).out ?_; rintro e w2 ⟨b, n, D, rfl, hF, hb2⟩; have B2 := Lib.hid hb2; have hlk : (Instr.lookup 81 (.map (some b)) (.int .u8 77) true).run Tryz.prog w2 = .ok (.tuple #[.func (.func 111) #[.int .i64 (c : Int)] #[], .bool true]) w2 := (look_ok lawU8 Tryz.underlying81 (zeroF w2) hF.out.1 hF.out.2 77 Tryz.underlying5); clear hb2)
    | (go_at_call 111; refine Calls.mono (KX _ (HE.out.below B2.out)).out ?_; rintro e w3 ⟨t, rfl, ht, hb3⟩))
  go_ret2
  exact ⟨t, rfl, ht, Bl.step B2.out hb3⟩
set_option maxHeartbeats 2000000 in
theorem Time_N (c : Nat) (w : World) (hc : c ≤ 86399999999) (hE : Env w) : Calls Tryz.prog 32 #[.int .i64 (c : Int), .int .u8 78] w (GivesSE w (hmsL c)) := by
  have KT := fun W => Lib.hid (isTime_any (c : Int) W)
  rw [inR_true (by omega) (by omega)] at KT
  have KF := fun W => Lib.hid (cloF_any c W)
  have KX := fun W hW => Lib.hid (c_normal_any c W hc hW)
  have HE := Lib.hid hE
  clear hc hE
  go_enter Tryz.func32, Tryz.ntmps32
  go_wp2_with (first
    | (go_at_call 72; refine Calls.mono (KT _).out ?_; rintro e W1 ⟨rfl, rfl⟩)
    | (go_at_call 73; refine Calls.mono (KF _).out ?_; rintro e w2 ⟨b, n, D, rfl, hF, hb2⟩; have B2 := Lib.hid hb2; have hlk : (Instr.lookup 81 (.map (some b)) (.int .u8 78) true).run Tryz.prog w2 = .ok (.tuple #[.func (.func 112) #[.int .i64 (c : Int)] #[], .bool true]) w2 := (look_ok lawU8 Tryz.underlying81 (zeroF w2) hF.out.1 hF.out.2 78 Tryz.underlying5); clear hb2)
    | (go_at_call 112; refine Calls.mono (KX _ (HE.out.below B2.out)).out ?_; rintro e w3 ⟨t, rfl, ht, hb3⟩))
  go_ret2
  exact ⟨t, rfl, ht, Bl.step B2.out hb3⟩
set_option maxHeartbeats 2000000 in
theorem Time_S (c : Nat) (w : World) (hc : c ≤ 86399999999) (hE : Env w) : Calls Tryz.prog 32 #[.int .i64 (c : Int), .int .u8 83] w (GivesSE w (Lib.decDigits (c / 1000000))) := by
  have KT := fun W => Lib.hid (isTime_any (c : Int) W)
  rw [inR_true (by omega) (by omega)] at KT
  have KF := fun W => Lib.hid (cloF_any c W)
  have KX := fun W hW => Lib.hid (c_seconds_any c W hc hW)
  have HE := Lib.hid hE
  clear hc hE
  go_enter Tryz.func32, Tryz.ntmps32
  go_wp2_with (first
    | (go_at_call 72; refine Calls.mono (KT _).out ?_; rintro e W1 ⟨rfl, rfl⟩)
    | (go_at_call 73; refine Calls.mono (KF _).out ?_; rintro e w2 ⟨b, n, D, rfl, hF, hb2⟩; have B2 := Lib.hid hb2; have hlk : (Instr.lookup 81 (.map (some b)) (.int .u8 83) true).run Tryz.prog w2 = .ok (.tuple #[.func (.func 113) #[.int .i64 (c : Int)] #[], .bool true]) w2 := (look_ok lawU8 Tryz.underlying81 (zeroF w2) hF.out.1 hF.out.2 83 Tryz.underlying5); clear hb2)
    | (go_at_call 113; refine Calls.mono (KX _ (HE.out.below B2.out)).out ?_; rintro e w3 ⟨t, rfl, ht, hb3⟩))
  go_ret2
  exact ⟨t, rfl, ht, Bl.step B2.out hb3⟩
set_option maxHeartbeats 2000000 in
theorem Time_none (c : Nat) (x : UInt8) (w : World) (hc : c ≤ 86399999999) (hx : (cloFL c).lookup x = none) : Calls Tryz.prog 32 #[.int .i64 (c : Int), .int .u8 (x.toNat : Int)] w (Gives w #[.string ⟨#[]⟩, .int .i64 1]) := by
  have KT := fun W => Lib.hid (isTime_any (c : Int) W)
  rw [inR_true (by omega) (by omega)] at KT
  have KF := fun W => Lib.hid (cloF_any c W)
  have HX := Lib.hid hx
  clear hc hx
  go_enter Tryz.func32, Tryz.ntmps32
  go_wp2_with (first
    | (go_at_call 72; refine Calls.mono (KT _).out ?_; rintro e W1 ⟨rfl, rfl⟩)
    | (go_at_call 73; refine Calls.mono (KF _).out ?_; rintro e w2 ⟨b, n, D, rfl, hF, hb2⟩; have B2 := Lib.hid hb2; have hlk := look_ok lawU8 Tryz.underlying81 (zeroF w2) hF.out.1 hF.out.2 x Tryz.underlying5; rw [HX.out] at hlk; clear hb2))
  go_ret2
  exact ⟨rfl, B2.out⟩
set_option maxHeartbeats 800000 in
theorem Time_bad (c x : Int) (w : World) (hc : ¬ (0 ≤ c ∧ c ≤ 86399999999)) : Calls Tryz.prog 32 #[.int .i64 c, .int .u8 x] w (Gives w #[.string ⟨#[]⟩, .int .i64 1]) := by
  have KT := fun W => Lib.hid (isTime_any c W)
  rw [inR_false hc] at KT
  clear hc
  go_enter Tryz.func32, Tryz.ntmps32
  go_wp2_with (first
    | (go_at_call 72; refine Calls.mono (KT _).out ?_; rintro e W1 ⟨rfl, rfl⟩))
  go_ret2
  exact ⟨rfl, Below.refl _ _⟩
theorem elFacts (c s r : Nat) (hc : c ≤ 9223372036854775807) (hs : s = c / 1000000) (hr : r = c % 1000000) : (c : Int) / 1000000 = (s : Int) ∧ (c : Int).tdiv 1000000 = (s : Int) ∧ (c : Int) % 1000000 = (r : Int) ∧ (c : Int).tmod 1000000 = (r : Int) ∧ IntKind.i64.wrap (s : Int) = (s : Int) ∧ wrap64 (s : Int) = (s : Int) ∧ s ≤ 9223372036854 ∧ r < 1000000 := by
  have h1 : (c : Int) / 1000000 = (s : Int) := by omega
  have h2 : (c : Int) % 1000000 = (r : Int) := by omega
  exact ⟨h1, by rw [Int.tdiv_eq_ediv_of_nonneg (by omega)]; exact h1, h2, by rw [Int.tmod_eq_emod_of_nonneg (by omega)]; exact h2, i64i' (by omega) (by omega), w64 (by omega) (by omega), by omega, by omega⟩
set_option maxHeartbeats 2000000 in
theorem Elapsed_pos (c : Nat) (w : World) (h0 : 1 ≤ c) (hc : c ≤ 9223372036854775807) (hE : Env w) : Calls Tryz.prog 36 #[.int .i64 (c : Int)] w (GivesSE w (Lib.join [padd (c / 1000000) 1, padd (c % 1000000) 6] [46])) := by
  obtain ⟨s, hs⟩ : ∃ s, s = c / 1000000 := ⟨_, rfl⟩
  obtain ⟨r, hr⟩ : ∃ r, r = c % 1000000 := ⟨_, rfl⟩
  rw [← hs, ← hr]
  obtain ⟨m1, m2, m3, m4, m5, m6, m7, m8⟩ := elFacts c s r hc hs hr
  have KJ := fun (W : World) (B : Nat) (hB : BoxC W B 99 #[.int .i64 (s : Int), .int .i64 1, .int .i64 (r : Int), .int .i64 6]) (hW : Env W) => Lib.hid (joined_any ⟨#[46]⟩ B [(s, 1), (r, 6)] W (by simp) (by simp) (by
    intro f hf
    rw [pow19]
    simp at hf
    rcases hf with rfl | rfl <;> dsimp only <;> omega) (by decide) (fieldsAt_two s 1 r 6 hB) hB.lt hW)
  have t1 : ¬ (c : Int) < 0 := by omega
  have t2 : ((c : Int) == 0) = false := beq_eq_false_iff_ne.2 (by omega)
  have HE := Lib.hid hE
  clear hs hr h0 hc hE m7 m8
  go_enter Tryz.func36, Tryz.ntmps36
  go_wp2_with (first
    | (go_at_call 79; refine Calls.mono (KJ _ _ (by repeat (first | exact BoxC.newAt (by simp) | refine BoxC.drew ?_ | refine BoxC.alloc ?_ _)) (HE.out.below (by repeat (first | exact Below.refl _ _ | refine Bl.alloc ?_ _ | refine Bl.drew ?_)))).out ?_; rintro e w4 ⟨t, rfl, ht, hb4⟩))
  go_ret2
  exact ⟨t, rfl, Lib.hid (by rw [ht.out]; rfl), Bl.step (by repeat (first | exact Below.refl _ _ | refine Bl.alloc ?_ _ | refine Bl.drew ?_)) hb4⟩
set_option maxHeartbeats 400000 in
theorem Elapsed_zero (w : World) : Calls Tryz.prog 36 #[.int .i64 0] w (GivesSE w [48]) := by
  go_enter Tryz.func36, Tryz.ntmps36
  go_wp2
  go_ret2
  exact ⟨_, rfl, Lib.hid rfl, Below.refl _ _⟩
set_option maxHeartbeats 400000 in
theorem Elapsed_bad (c : Int) (w : World) (h : c < 0) : Calls Tryz.prog 36 #[.int .i64 c] w (Gives w #[.string ⟨#[]⟩, .int .i64 1]) := by
  go_enter Tryz.func36, Tryz.ntmps36
  go_wp2
  go_ret2
  exact ⟨rfl, Below.refl _ _⟩
end Go.Proofs.YtmjifmlibgpjiaaGreatDoor
