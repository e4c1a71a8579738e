/- ReadTime, at any text. -/
import Derived.Test.YtmjifmlibgpjiaaGreatDoorGd
namespace Go.Proofs.YtmjifmlibgpjiaaGreatDoor
open Go.RowKit Go.Shelf Tx Go.Maps
set_option linter.unusedVariables false
set_option maxRecDepth 100000

namespace Tx
/-- What ReadTime gives: the time that is read, if its format is the text. -/
def tmV (R : Option Nat) (f : Nat → List UInt8) (l : List UInt8) : Int × Int := match R with
  | some c => if l = f c then ((c : Int), 0) else (0, 2)
  | none => (0, 2)
end Tx
set_option maxHeartbeats 4000000 in
theorem ReadTime_C_none (s : ByteArray) (w : World) (hs : s.size ≤ 1000000) (hR : civR (bts s) = none) :
    Calls Tryz.prog 34 #[.string s, .int .u8 67] w (Gives w #[.int .i64 0, .int .i64 2]) := by
  have KR := fun W => Lib.hid (timR_any s W)
  have KX := fun W => Lib.hid (show Calls Tryz.prog 114 #[.string s] W (fun e w' => e = .returned (.tuple #[.int .i64 0, .bool false]) ∧ Below W.heap.size W w') from by have h := t_civil_any s W hs; rw [hR] at h; exact h)
  clear hs hR
  go_enter Tryz.func34, Tryz.ntmps34
  go_wp2_with (first
    | (go_at_call 74; refine Calls.mono (KR _).out ?_; rintro e w2 ⟨b2, q, Dd, rfl, hF, hb2⟩; have B2 := Lib.hid hb2; have hlk : (Instr.lookup 86 (.map (some b2)) (.int .u8 67) true).run Tryz.prog w2 = .ok (.tuple #[.func (.func 114) #[.string s] #[], .bool true]) w2 := (look_ok lawU8 Tryz.underlying86 (zeroG w2) hF.out.1 hF.out.2 67 Tryz.underlying5); clear hb2)
    | (go_at_call 114; refine Calls.mono (KX _).out ?_; rintro e w3 ⟨rfl, hb3⟩; have B3 := Lib.hid (Bl.step B2.out hb3); clear hb3))
  go_ret2
  exact ⟨rfl, B3.out⟩
set_option maxHeartbeats 4000000 in
theorem ReadTime_C_ok (s : ByteArray) (c : Nat) (w : World) (hs : s.size ≤ 1000000) (hR : civR (bts s) = some c) (hf : bts s = civL c) (hE : Env w) :
    Calls Tryz.prog 34 #[.string s, .int .u8 67] w (Gives w #[.int .i64 (c : Int), .int .i64 0]) := by
  have KR := fun W => Lib.hid (timR_any s W)
  have KX := fun W => Lib.hid (show Calls Tryz.prog 114 #[.string s] W (fun e w' => e = .returned (.tuple #[.int .i64 (c : Int), .bool true]) ∧ Below W.heap.size W w') from by have h := t_civil_any s W hs; rw [hR] at h; exact h)
  have hc9 := civR_le hR
  have KF := fun W => Lib.hid (cloF_any c W)
  have KG := fun W hW => Lib.hid (c_civil_any c W hc9 hW)
  have HE := Lib.hid hE
  have HF := Lib.hid hf
  clear hs hR hc9 hf hE
  go_enter Tryz.func34, Tryz.ntmps34
  go_wp2_with (first
    | (go_at_call 74; refine Calls.mono (KR _).out ?_; rintro e w2 ⟨b2, q, Dd, rfl, hF, hb2⟩; have B2 := Lib.hid hb2; have hlk : (Instr.lookup 86 (.map (some b2)) (.int .u8 67) true).run Tryz.prog w2 = .ok (.tuple #[.func (.func 114) #[.string s] #[], .bool true]) w2 := (look_ok lawU8 Tryz.underlying86 (zeroG w2) hF.out.1 hF.out.2 67 Tryz.underlying5); clear hb2)
    | (go_at_call 114; refine Calls.mono (KX _).out ?_; rintro e w3 ⟨rfl, hb3⟩; have B3 := Lib.hid (Bl.step B2.out hb3); clear hb3)
    | (go_at_call 73; refine Calls.mono (KF _).out ?_; rintro e w5 ⟨b5, q5, D5, rfl, hF5, hb5⟩; have B5 := Lib.hid (Bl.step B3.out hb5); have hlk5 : (Instr.lookup 81 (.map (some b5)) (.int .u8 67) false).run Tryz.prog w5 = .ok (.func (.func 107) #[.int .i64 (c : Int)] #[]) w5 := (look_no lawU8 Tryz.underlying81 (zeroF w5) hF5.out.1 hF5.out.2 67 Tryz.underlying5); clear hb5)
    | (go_at_call 107; refine Calls.mono (KG _ (HE.out.below B5.out)).out ?_; rintro e w6 ⟨t, rfl, ht, hb6⟩; have B6 := Lib.hid (Bl.step B5.out hb6); obtain rfl : t = s := bts_inj (ht.out.trans HF.out.symm); clear hb6))
  go_ret2
  exact ⟨rfl, B6.out⟩
set_option maxHeartbeats 4000000 in
theorem ReadTime_C_ne (s : ByteArray) (c : Nat) (w : World) (hs : s.size ≤ 1000000) (hR : civR (bts s) = some c) (hf : ¬ bts s = civL c) (hE : Env w) :
    Calls Tryz.prog 34 #[.string s, .int .u8 67] w (Gives w #[.int .i64 0, .int .i64 2]) := by
  have KR := fun W => Lib.hid (timR_any s W)
  have KX := fun W => Lib.hid (show Calls Tryz.prog 114 #[.string s] W (fun e w' => e = .returned (.tuple #[.int .i64 (c : Int), .bool true]) ∧ Below W.heap.size W w') from by have h := t_civil_any s W hs; rw [hR] at h; exact h)
  have hc9 := civR_le hR
  have KF := fun W => Lib.hid (cloF_any c W)
  have KG := fun W hW => Lib.hid (c_civil_any c W hc9 hW)
  have HE := Lib.hid hE
  have HF := Lib.hid hf
  clear hs hR hc9 hf hE
  go_enter Tryz.func34, Tryz.ntmps34
  go_wp2_with (first
    | (go_at_call 74; refine Calls.mono (KR _).out ?_; rintro e w2 ⟨b2, q, Dd, rfl, hF, hb2⟩; have B2 := Lib.hid hb2; have hlk : (Instr.lookup 86 (.map (some b2)) (.int .u8 67) true).run Tryz.prog w2 = .ok (.tuple #[.func (.func 114) #[.string s] #[], .bool true]) w2 := (look_ok lawU8 Tryz.underlying86 (zeroG w2) hF.out.1 hF.out.2 67 Tryz.underlying5); clear hb2)
    | (go_at_call 114; refine Calls.mono (KX _).out ?_; rintro e w3 ⟨rfl, hb3⟩; have B3 := Lib.hid (Bl.step B2.out hb3); clear hb3)
    | (go_at_call 73; refine Calls.mono (KF _).out ?_; rintro e w5 ⟨b5, q5, D5, rfl, hF5, hb5⟩; have B5 := Lib.hid (Bl.step B3.out hb5); have hlk5 : (Instr.lookup 81 (.map (some b5)) (.int .u8 67) false).run Tryz.prog w5 = .ok (.func (.func 107) #[.int .i64 (c : Int)] #[]) w5 := (look_no lawU8 Tryz.underlying81 (zeroF w5) hF5.out.1 hF5.out.2 67 Tryz.underlying5); clear hb5)
    | (go_at_call 107; refine Calls.mono (KG _ (HE.out.below B5.out)).out ?_; rintro e w6 ⟨t, rfl, ht, hb6⟩; have B6 := Lib.hid (Bl.step B5.out hb6); have hne : ¬ t.toList = s.toList := (by rw [toList_bts, toList_bts, ht.out]; exact fun q => HF.out q.symm); have hne2 : (t.toList == s.toList) = false := (beq_eq_false_iff_ne.2 hne); clear hb6))
  go_ret2
  exact ⟨rfl, B6.out⟩
theorem ReadTime_C_any (s : ByteArray) (w : World) (hs : s.size ≤ 1000000) (hE : Env w) : Calls Tryz.prog 34 #[.string s, .int .u8 67] w (Gives w #[.int .i64 (tmV (civR (bts s)) (fun c => civL c) (bts s)).1, .int .i64 (tmV (civR (bts s)) (fun c => civL c) (bts s)).2]) := by
  cases hR : civR (bts s) with
  | none => exact ReadTime_C_none s w hs hR
  | some c =>
    by_cases hf : bts s = civL c
    · rw [show tmV (some c) (fun c => civL c) (bts s) = ((c : Int), 0) by unfold tmV; exact if_pos hf]
      exact ReadTime_C_ok s c w hs hR hf hE
    · rw [show tmV (some c) (fun c => civL c) (bts s) = (0, 2) by unfold tmV; exact if_neg hf]
      exact ReadTime_C_ne s c w hs hR hf hE
set_option maxHeartbeats 4000000 in
theorem ReadTime_F_none (s : ByteArray) (w : World) (hs : s.size ≤ 1000000) (hR : cntR [1] (bts s) = none) :
    Calls Tryz.prog 34 #[.string s, .int .u8 70] w (Gives w #[.int .i64 0, .int .i64 2]) := by
  have KR := fun W => Lib.hid (timR_any s W)
  have KX := fun W => Lib.hid (show Calls Tryz.prog 115 #[.string s] W (fun e w' => e = .returned (.tuple #[.int .i64 0, .bool false]) ∧ Below W.heap.size W w') from by have h := t_fine_any s W hs; rw [hR] at h; exact h)
  clear hs hR
  go_enter Tryz.func34, Tryz.ntmps34
  go_wp2_with (first
    | (go_at_call 74; refine Calls.mono (KR _).out ?_; rintro e w2 ⟨b2, q, Dd, rfl, hF, hb2⟩; have B2 := Lib.hid hb2; have hlk : (Instr.lookup 86 (.map (some b2)) (.int .u8 70) true).run Tryz.prog w2 = .ok (.tuple #[.func (.func 115) #[.string s] #[], .bool true]) w2 := (look_ok lawU8 Tryz.underlying86 (zeroG w2) hF.out.1 hF.out.2 70 Tryz.underlying5); clear hb2)
    | (go_at_call 115; refine Calls.mono (KX _).out ?_; rintro e w3 ⟨rfl, hb3⟩; have B3 := Lib.hid (Bl.step B2.out hb3); clear hb3))
  go_ret2
  exact ⟨rfl, B3.out⟩
set_option maxHeartbeats 4000000 in
theorem ReadTime_F_ok (s : ByteArray) (c : Nat) (w : World) (hs : s.size ≤ 1000000) (hR : cntR [1] (bts s) = some c) (hf : bts s = Lib.decDigits (c / 1)) (hE : Env w) :
    Calls Tryz.prog 34 #[.string s, .int .u8 70] w (Gives w #[.int .i64 (c : Int), .int .i64 0]) := by
  have KR := fun W => Lib.hid (timR_any s W)
  have KX := fun W => Lib.hid (show Calls Tryz.prog 115 #[.string s] W (fun e w' => e = .returned (.tuple #[.int .i64 (c : Int), .bool true]) ∧ Below W.heap.size W w') from by have h := t_fine_any s W hs; rw [hR] at h; exact h)
  have hc9 := cntR_le hR
  have KF := fun W => Lib.hid (cloF_any c W)
  have KG := fun W hW => Lib.hid (c_fine_any c W hc9 hW)
  have HE := Lib.hid hE
  have HF := Lib.hid hf
  clear hs hR hc9 hf hE
  go_enter Tryz.func34, Tryz.ntmps34
  go_wp2_with (first
    | (go_at_call 74; refine Calls.mono (KR _).out ?_; rintro e w2 ⟨b2, q, Dd, rfl, hF, hb2⟩; have B2 := Lib.hid hb2; have hlk : (Instr.lookup 86 (.map (some b2)) (.int .u8 70) true).run Tryz.prog w2 = .ok (.tuple #[.func (.func 115) #[.string s] #[], .bool true]) w2 := (look_ok lawU8 Tryz.underlying86 (zeroG w2) hF.out.1 hF.out.2 70 Tryz.underlying5); clear hb2)
    | (go_at_call 115; refine Calls.mono (KX _).out ?_; rintro e w3 ⟨rfl, hb3⟩; have B3 := Lib.hid (Bl.step B2.out hb3); clear hb3)
    | (go_at_call 73; refine Calls.mono (KF _).out ?_; rintro e w5 ⟨b5, q5, D5, rfl, hF5, hb5⟩; have B5 := Lib.hid (Bl.step B3.out hb5); have hlk5 : (Instr.lookup 81 (.map (some b5)) (.int .u8 70) false).run Tryz.prog w5 = .ok (.func (.func 108) #[.int .i64 (c : Int)] #[]) w5 := (look_no lawU8 Tryz.underlying81 (zeroF w5) hF5.out.1 hF5.out.2 70 Tryz.underlying5); clear hb5)
    | (go_at_call 108; refine Calls.mono (KG _ (HE.out.below B5.out)).out ?_; rintro e w6 ⟨t, rfl, ht, hb6⟩; have B6 := Lib.hid (Bl.step B5.out hb6); obtain rfl : t = s := bts_inj (ht.out.trans HF.out.symm); clear hb6))
  go_ret2
  exact ⟨rfl, B6.out⟩
set_option maxHeartbeats 4000000 in
theorem ReadTime_F_ne (s : ByteArray) (c : Nat) (w : World) (hs : s.size ≤ 1000000) (hR : cntR [1] (bts s) = some c) (hf : ¬ bts s = Lib.decDigits (c / 1)) (hE : Env w) :
    Calls Tryz.prog 34 #[.string s, .int .u8 70] w (Gives w #[.int .i64 0, .int .i64 2]) := by
  have KR := fun W => Lib.hid (timR_any s W)
  have KX := fun W => Lib.hid (show Calls Tryz.prog 115 #[.string s] W (fun e w' => e = .returned (.tuple #[.int .i64 (c : Int), .bool true]) ∧ Below W.heap.size W w') from by have h := t_fine_any s W hs; rw [hR] at h; exact h)
  have hc9 := cntR_le hR
  have KF := fun W => Lib.hid (cloF_any c W)
  have KG := fun W hW => Lib.hid (c_fine_any c W hc9 hW)
  have HE := Lib.hid hE
  have HF := Lib.hid hf
  clear hs hR hc9 hf hE
  go_enter Tryz.func34, Tryz.ntmps34
  go_wp2_with (first
    | (go_at_call 74; refine Calls.mono (KR _).out ?_; rintro e w2 ⟨b2, q, Dd, rfl, hF, hb2⟩; have B2 := Lib.hid hb2; have hlk : (Instr.lookup 86 (.map (some b2)) (.int .u8 70) true).run Tryz.prog w2 = .ok (.tuple #[.func (.func 115) #[.string s] #[], .bool true]) w2 := (look_ok lawU8 Tryz.underlying86 (zeroG w2) hF.out.1 hF.out.2 70 Tryz.underlying5); clear hb2)
    | (go_at_call 115; refine Calls.mono (KX _).out ?_; rintro e w3 ⟨rfl, hb3⟩; have B3 := Lib.hid (Bl.step B2.out hb3); clear hb3)
    | (go_at_call 73; refine Calls.mono (KF _).out ?_; rintro e w5 ⟨b5, q5, D5, rfl, hF5, hb5⟩; have B5 := Lib.hid (Bl.step B3.out hb5); have hlk5 : (Instr.lookup 81 (.map (some b5)) (.int .u8 70) false).run Tryz.prog w5 = .ok (.func (.func 108) #[.int .i64 (c : Int)] #[]) w5 := (look_no lawU8 Tryz.underlying81 (zeroF w5) hF5.out.1 hF5.out.2 70 Tryz.underlying5); clear hb5)
    | (go_at_call 108; refine Calls.mono (KG _ (HE.out.below B5.out)).out ?_; rintro e w6 ⟨t, rfl, ht, hb6⟩; have B6 := Lib.hid (Bl.step B5.out hb6); have hne : ¬ t.toList = s.toList := (by rw [toList_bts, toList_bts, ht.out]; exact fun q => HF.out q.symm); have hne2 : (t.toList == s.toList) = false := (beq_eq_false_iff_ne.2 hne); clear hb6))
  go_ret2
  exact ⟨rfl, B6.out⟩
theorem ReadTime_F_any (s : ByteArray) (w : World) (hs : s.size ≤ 1000000) (hE : Env w) : Calls Tryz.prog 34 #[.string s, .int .u8 70] w (Gives w #[.int .i64 (tmV (cntR [1] (bts s)) (fun c => Lib.decDigits (c / 1)) (bts s)).1, .int .i64 (tmV (cntR [1] (bts s)) (fun c => Lib.decDigits (c / 1)) (bts s)).2]) := by
  cases hR : cntR [1] (bts s) with
  | none => exact ReadTime_F_none s w hs hR
  | some c =>
    by_cases hf : bts s = Lib.decDigits (c / 1)
    · rw [show tmV (some c) (fun c => Lib.decDigits (c / 1)) (bts s) = ((c : Int), 0) by unfold tmV; exact if_pos hf]
      exact ReadTime_F_ok s c w hs hR hf hE
    · rw [show tmV (some c) (fun c => Lib.decDigits (c / 1)) (bts s) = (0, 2) by unfold tmV; exact if_neg hf]
      exact ReadTime_F_ne s c w hs hR hf hE
set_option maxHeartbeats 4000000 in
theorem ReadTime_H_none (s : ByteArray) (w : World) (hs : s.size ≤ 1000000) (hR : cntR [3600000000] (bts s) = none) :
    Calls Tryz.prog 34 #[.string s, .int .u8 72] w (Gives w #[.int .i64 0, .int .i64 2]) := by
  have KR := fun W => Lib.hid (timR_any s W)
  have KX := fun W => Lib.hid (show Calls Tryz.prog 116 #[.string s] W (fun e w' => e = .returned (.tuple #[.int .i64 0, .bool false]) ∧ Below W.heap.size W w') from by have h := t_hours_any s W hs; rw [hR] at h; exact h)
  clear hs hR
  go_enter Tryz.func34, Tryz.ntmps34
  go_wp2_with (first
    | (go_at_call 74; refine Calls.mono (KR _).out ?_; rintro e w2 ⟨b2, q, Dd, rfl, hF, hb2⟩; have B2 := Lib.hid hb2; have hlk : (Instr.lookup 86 (.map (some b2)) (.int .u8 72) true).run Tryz.prog w2 = .ok (.tuple #[.func (.func 116) #[.string s] #[], .bool true]) w2 := (look_ok lawU8 Tryz.underlying86 (zeroG w2) hF.out.1 hF.out.2 72 Tryz.underlying5); clear hb2)
    | (go_at_call 116; refine Calls.mono (KX _).out ?_; rintro e w3 ⟨rfl, hb3⟩; have B3 := Lib.hid (Bl.step B2.out hb3); clear hb3))
  go_ret2
  exact ⟨rfl, B3.out⟩
set_option maxHeartbeats 4000000 in
theorem ReadTime_H_ok (s : ByteArray) (c : Nat) (w : World) (hs : s.size ≤ 1000000) (hR : cntR [3600000000] (bts s) = some c) (hf : bts s = Lib.decDigits (c / 3600000000)) (hE : Env w) :
    Calls Tryz.prog 34 #[.string s, .int .u8 72] w (Gives w #[.int .i64 (c : Int), .int .i64 0]) := by
  have KR := fun W => Lib.hid (timR_any s W)
  have KX := fun W => Lib.hid (show Calls Tryz.prog 116 #[.string s] W (fun e w' => e = .returned (.tuple #[.int .i64 (c : Int), .bool true]) ∧ Below W.heap.size W w') from by have h := t_hours_any s W hs; rw [hR] at h; exact h)
  have hc9 := cntR_le hR
  have KF := fun W => Lib.hid (cloF_any c W)
  have KG := fun W hW => Lib.hid (c_hours_any c W hc9 hW)
  have HE := Lib.hid hE
  have HF := Lib.hid hf
  clear hs hR hc9 hf hE
  go_enter Tryz.func34, Tryz.ntmps34
  go_wp2_with (first
    | (go_at_call 74; refine Calls.mono (KR _).out ?_; rintro e w2 ⟨b2, q, Dd, rfl, hF, hb2⟩; have B2 := Lib.hid hb2; have hlk : (Instr.lookup 86 (.map (some b2)) (.int .u8 72) true).run Tryz.prog w2 = .ok (.tuple #[.func (.func 116) #[.string s] #[], .bool true]) w2 := (look_ok lawU8 Tryz.underlying86 (zeroG w2) hF.out.1 hF.out.2 72 Tryz.underlying5); clear hb2)
    | (go_at_call 116; refine Calls.mono (KX _).out ?_; rintro e w3 ⟨rfl, hb3⟩; have B3 := Lib.hid (Bl.step B2.out hb3); clear hb3)
    | (go_at_call 73; refine Calls.mono (KF _).out ?_; rintro e w5 ⟨b5, q5, D5, rfl, hF5, hb5⟩; have B5 := Lib.hid (Bl.step B3.out hb5); have hlk5 : (Instr.lookup 81 (.map (some b5)) (.int .u8 72) false).run Tryz.prog w5 = .ok (.func (.func 109) #[.int .i64 (c : Int)] #[]) w5 := (look_no lawU8 Tryz.underlying81 (zeroF w5) hF5.out.1 hF5.out.2 72 Tryz.underlying5); clear hb5)
    | (go_at_call 109; refine Calls.mono (KG _ (HE.out.below B5.out)).out ?_; rintro e w6 ⟨t, rfl, ht, hb6⟩; have B6 := Lib.hid (Bl.step B5.out hb6); obtain rfl : t = s := bts_inj (ht.out.trans HF.out.symm); clear hb6))
  go_ret2
  exact ⟨rfl, B6.out⟩
set_option maxHeartbeats 4000000 in
theorem ReadTime_H_ne (s : ByteArray) (c : Nat) (w : World) (hs : s.size ≤ 1000000) (hR : cntR [3600000000] (bts s) = some c) (hf : ¬ bts s = Lib.decDigits (c / 3600000000)) (hE : Env w) :
    Calls Tryz.prog 34 #[.string s, .int .u8 72] w (Gives w #[.int .i64 0, .int .i64 2]) := by
  have KR := fun W => Lib.hid (timR_any s W)
  have KX := fun W => Lib.hid (show Calls Tryz.prog 116 #[.string s] W (fun e w' => e = .returned (.tuple #[.int .i64 (c : Int), .bool true]) ∧ Below W.heap.size W w') from by have h := t_hours_any s W hs; rw [hR] at h; exact h)
  have hc9 := cntR_le hR
  have KF := fun W => Lib.hid (cloF_any c W)
  have KG := fun W hW => Lib.hid (c_hours_any c W hc9 hW)
  have HE := Lib.hid hE
  have HF := Lib.hid hf
  clear hs hR hc9 hf hE
  go_enter Tryz.func34, Tryz.ntmps34
  go_wp2_with (first
    | (go_at_call 74; refine Calls.mono (KR _).out ?_; rintro e w2 ⟨b2, q, Dd, rfl, hF, hb2⟩; have B2 := Lib.hid hb2; have hlk : (Instr.lookup 86 (.map (some b2)) (.int .u8 72) true).run Tryz.prog w2 = .ok (.tuple #[.func (.func 116) #[.string s] #[], .bool true]) w2 := (look_ok lawU8 Tryz.underlying86 (zeroG w2) hF.out.1 hF.out.2 72 Tryz.underlying5); clear hb2)
    | (go_at_call 116; refine Calls.mono (KX _).out ?_; rintro e w3 ⟨rfl, hb3⟩; have B3 := Lib.hid (Bl.step B2.out hb3); clear hb3)
    | (go_at_call 73; refine Calls.mono (KF _).out ?_; rintro e w5 ⟨b5, q5, D5, rfl, hF5, hb5⟩; have B5 := Lib.hid (Bl.step B3.out hb5); have hlk5 : (Instr.lookup 81 (.map (some b5)) (.int .u8 72) false).run Tryz.prog w5 = .ok (.func (.func 109) #[.int .i64 (c : Int)] #[]) w5 := (look_no lawU8 Tryz.underlying81 (zeroF w5) hF5.out.1 hF5.out.2 72 Tryz.underlying5); clear hb5)
    | (go_at_call 109; refine Calls.mono (KG _ (HE.out.below B5.out)).out ?_; rintro e w6 ⟨t, rfl, ht, hb6⟩; have B6 := Lib.hid (Bl.step B5.out hb6); have hne : ¬ t.toList = s.toList := (by rw [toList_bts, toList_bts, ht.out]; exact fun q => HF.out q.symm); have hne2 : (t.toList == s.toList) = false := (beq_eq_false_iff_ne.2 hne); clear hb6))
  go_ret2
  exact ⟨rfl, B6.out⟩
theorem ReadTime_H_any (s : ByteArray) (w : World) (hs : s.size ≤ 1000000) (hE : Env w) : Calls Tryz.prog 34 #[.string s, .int .u8 72] w (Gives w #[.int .i64 (tmV (cntR [3600000000] (bts s)) (fun c => Lib.decDigits (c / 3600000000)) (bts s)).1, .int .i64 (tmV (cntR [3600000000] (bts s)) (fun c => Lib.decDigits (c / 3600000000)) (bts s)).2]) := by
  cases hR : cntR [3600000000] (bts s) with
  | none => exact ReadTime_H_none s w hs hR
  | some c =>
    by_cases hf : bts s = Lib.decDigits (c / 3600000000)
    · rw [show tmV (some c) (fun c => Lib.decDigits (c / 3600000000)) (bts s) = ((c : Int), 0) by unfold tmV; exact if_pos hf]
      exact ReadTime_H_ok s c w hs hR hf hE
    · rw [show tmV (some c) (fun c => Lib.decDigits (c / 3600000000)) (bts s) = (0, 2) by unfold tmV; exact if_neg hf]
      exact ReadTime_H_ne s c w hs hR hf hE
set_option maxHeartbeats 4000000 in
theorem ReadTime_L_none (s : ByteArray) (w : World) (hs : s.size ≤ 1000000) (hR : cntR [3600000000, 60000000, 1000000, 1] (bts s) = none) :
    Calls Tryz.prog 34 #[.string s, .int .u8 76] w (Gives w #[.int .i64 0, .int .i64 2]) := by
  have KR := fun W => Lib.hid (timR_any s W)
  have KX := fun W => Lib.hid (show Calls Tryz.prog 117 #[.string s] W (fun e w' => e = .returned (.tuple #[.int .i64 0, .bool false]) ∧ Below W.heap.size W w') from by have h := t_long_any s W hs; rw [hR] at h; exact h)
  clear hs hR
  go_enter Tryz.func34, Tryz.ntmps34
  go_wp2_with (first
    | (go_at_call 74; refine Calls.mono (KR _).out ?_; rintro e w2 ⟨b2, q, Dd, rfl, hF, hb2⟩; have B2 := Lib.hid hb2; have hlk : (Instr.lookup 86 (.map (some b2)) (.int .u8 76) true).run Tryz.prog w2 = .ok (.tuple #[.func (.func 117) #[.string s] #[], .bool true]) w2 := (look_ok lawU8 Tryz.underlying86 (zeroG w2) hF.out.1 hF.out.2 76 Tryz.underlying5); clear hb2)
    | (go_at_call 117; refine Calls.mono (KX _).out ?_; rintro e w3 ⟨rfl, hb3⟩; have B3 := Lib.hid (Bl.step B2.out hb3); clear hb3))
  go_ret2
  exact ⟨rfl, B3.out⟩
set_option maxHeartbeats 4000000 in
theorem ReadTime_L_ok (s : ByteArray) (c : Nat) (w : World) (hs : s.size ≤ 1000000) (hR : cntR [3600000000, 60000000, 1000000, 1] (bts s) = some c) (hf : bts s = longT c) (hE : Env w) :
    Calls Tryz.prog 34 #[.string s, .int .u8 76] w (Gives w #[.int .i64 (c : Int), .int .i64 0]) := by
  have KR := fun W => Lib.hid (timR_any s W)
  have KX := fun W => Lib.hid (show Calls Tryz.prog 117 #[.string s] W (fun e w' => e = .returned (.tuple #[.int .i64 (c : Int), .bool true]) ∧ Below W.heap.size W w') from by have h := t_long_any s W hs; rw [hR] at h; exact h)
  have hc9 := cntR_le hR
  have KF := fun W => Lib.hid (cloF_any c W)
  have KG := fun W hW => Lib.hid (c_long_any c W hc9 hW)
  have HE := Lib.hid hE
  have HF := Lib.hid hf
  clear hs hR hc9 hf hE
  go_enter Tryz.func34, Tryz.ntmps34
  go_wp2_with (first
    | (go_at_call 74; refine Calls.mono (KR _).out ?_; rintro e w2 ⟨b2, q, Dd, rfl, hF, hb2⟩; have B2 := Lib.hid hb2; have hlk : (Instr.lookup 86 (.map (some b2)) (.int .u8 76) true).run Tryz.prog w2 = .ok (.tuple #[.func (.func 117) #[.string s] #[], .bool true]) w2 := (look_ok lawU8 Tryz.underlying86 (zeroG w2) hF.out.1 hF.out.2 76 Tryz.underlying5); clear hb2)
    | (go_at_call 117; refine Calls.mono (KX _).out ?_; rintro e w3 ⟨rfl, hb3⟩; have B3 := Lib.hid (Bl.step B2.out hb3); clear hb3)
    | (go_at_call 73; refine Calls.mono (KF _).out ?_; rintro e w5 ⟨b5, q5, D5, rfl, hF5, hb5⟩; have B5 := Lib.hid (Bl.step B3.out hb5); have hlk5 : (Instr.lookup 81 (.map (some b5)) (.int .u8 76) false).run Tryz.prog w5 = .ok (.func (.func 110) #[.int .i64 (c : Int)] #[]) w5 := (look_no lawU8 Tryz.underlying81 (zeroF w5) hF5.out.1 hF5.out.2 76 Tryz.underlying5); clear hb5)
    | (go_at_call 110; refine Calls.mono (KG _ (HE.out.below B5.out)).out ?_; rintro e w6 ⟨t, rfl, ht, hb6⟩; have B6 := Lib.hid (Bl.step B5.out hb6); obtain rfl : t = s := bts_inj (ht.out.trans HF.out.symm); clear hb6))
  go_ret2
  exact ⟨rfl, B6.out⟩
set_option maxHeartbeats 4000000 in
theorem ReadTime_L_ne (s : ByteArray) (c : Nat) (w : World) (hs : s.size ≤ 1000000) (hR : cntR [3600000000, 60000000, 1000000, 1] (bts s) = some c) (hf : ¬ bts s = longT c) (hE : Env w) :
    Calls Tryz.prog 34 #[.string s, .int .u8 76] w (Gives w #[.int .i64 0, .int .i64 2]) := by
  have KR := fun W => Lib.hid (timR_any s W)
  have KX := fun W => Lib.hid (show Calls Tryz.prog 117 #[.string s] W (fun e w' => e = .returned (.tuple #[.int .i64 (c : Int), .bool true]) ∧ Below W.heap.size W w') from by have h := t_long_any s W hs; rw [hR] at h; exact h)
  have hc9 := cntR_le hR
  have KF := fun W => Lib.hid (cloF_any c W)
  have KG := fun W hW => Lib.hid (c_long_any c W hc9 hW)
  have HE := Lib.hid hE
  have HF := Lib.hid hf
  clear hs hR hc9 hf hE
  go_enter Tryz.func34, Tryz.ntmps34
  go_wp2_with (first
    | (go_at_call 74; refine Calls.mono (KR _).out ?_; rintro e w2 ⟨b2, q, Dd, rfl, hF, hb2⟩; have B2 := Lib.hid hb2; have hlk : (Instr.lookup 86 (.map (some b2)) (.int .u8 76) true).run Tryz.prog w2 = .ok (.tuple #[.func (.func 117) #[.string s] #[], .bool true]) w2 := (look_ok lawU8 Tryz.underlying86 (zeroG w2) hF.out.1 hF.out.2 76 Tryz.underlying5); clear hb2)
    | (go_at_call 117; refine Calls.mono (KX _).out ?_; rintro e w3 ⟨rfl, hb3⟩; have B3 := Lib.hid (Bl.step B2.out hb3); clear hb3)
    | (go_at_call 73; refine Calls.mono (KF _).out ?_; rintro e w5 ⟨b5, q5, D5, rfl, hF5, hb5⟩; have B5 := Lib.hid (Bl.step B3.out hb5); have hlk5 : (Instr.lookup 81 (.map (some b5)) (.int .u8 76) false).run Tryz.prog w5 = .ok (.func (.func 110) #[.int .i64 (c : Int)] #[]) w5 := (look_no lawU8 Tryz.underlying81 (zeroF w5) hF5.out.1 hF5.out.2 76 Tryz.underlying5); clear hb5)
    | (go_at_call 110; refine Calls.mono (KG _ (HE.out.below B5.out)).out ?_; rintro e w6 ⟨t, rfl, ht, hb6⟩; have B6 := Lib.hid (Bl.step B5.out hb6); have hne : ¬ t.toList = s.toList := (by rw [toList_bts, toList_bts, ht.out]; exact fun q => HF.out q.symm); have hne2 : (t.toList == s.toList) = false := (beq_eq_false_iff_ne.2 hne); clear hb6))
  go_ret2
  exact ⟨rfl, B6.out⟩
theorem ReadTime_L_any (s : ByteArray) (w : World) (hs : s.size ≤ 1000000) (hE : Env w) : Calls Tryz.prog 34 #[.string s, .int .u8 76] w (Gives w #[.int .i64 (tmV (cntR [3600000000, 60000000, 1000000, 1] (bts s)) (fun c => longT c) (bts s)).1, .int .i64 (tmV (cntR [3600000000, 60000000, 1000000, 1] (bts s)) (fun c => longT c) (bts s)).2]) := by
  cases hR : cntR [3600000000, 60000000, 1000000, 1] (bts s) with
  | none => exact ReadTime_L_none s w hs hR
  | some c =>
    by_cases hf : bts s = longT c
    · rw [show tmV (some c) (fun c => longT c) (bts s) = ((c : Int), 0) by unfold tmV; exact if_pos hf]
      exact ReadTime_L_ok s c w hs hR hf hE
    · rw [show tmV (some c) (fun c => longT c) (bts s) = (0, 2) by unfold tmV; exact if_neg hf]
      exact ReadTime_L_ne s c w hs hR hf hE
set_option maxHeartbeats 4000000 in
theorem ReadTime_M_none (s : ByteArray) (w : World) (hs : s.size ≤ 1000000) (hR : cntR [60000000] (bts s) = none) :
    Calls Tryz.prog 34 #[.string s, .int .u8 77] w (Gives w #[.int .i64 0, .int .i64 2]) := by
  have KR := fun W => Lib.hid (timR_any s W)
  have KX := fun W => Lib.hid (show Calls Tryz.prog 118 #[.string s] W (fun e w' => e = .returned (.tuple #[.int .i64 0, .bool false]) ∧ Below W.heap.size W w') from by have h := t_minutes_any s W hs; rw [hR] at h; exact h)
  clear hs hR
  go_enter Tryz.func34, Tryz.ntmps34
  go_wp2_with (first
    | (go_at_call 74; refine Calls.mono (KR _).out ?_; rintro e w2 ⟨b2, q, Dd, rfl, hF, hb2⟩; have B2 := Lib.hid hb2; have hlk : (Instr.lookup 86 (.map (some b2)) (.int .u8 77) true).run Tryz.prog w2 = .ok (.tuple #[.func (.func 118) #[.string s] #[], .bool true]) w2 := (look_ok lawU8 Tryz.underlying86 (zeroG w2) hF.out.1 hF.out.2 77 Tryz.underlying5); clear hb2)
    | (go_at_call 118; refine Calls.mono (KX _).out ?_; rintro e w3 ⟨rfl, hb3⟩; have B3 := Lib.hid (Bl.step B2.out hb3); clear hb3))
  go_ret2
  exact ⟨rfl, B3.out⟩
set_option maxHeartbeats 4000000 in
theorem ReadTime_M_ok (s : ByteArray) (c : Nat) (w : World) (hs : s.size ≤ 1000000) (hR : cntR [60000000] (bts s) = some c) (hf : bts s = Lib.decDigits (c / 60000000)) (hE : Env w) :
    Calls Tryz.prog 34 #[.string s, .int .u8 77] w (Gives w #[.int .i64 (c : Int), .int .i64 0]) := by
  have KR := fun W => Lib.hid (timR_any s W)
  have KX := fun W => Lib.hid (show Calls Tryz.prog 118 #[.string s] W (fun e w' => e = .returned (.tuple #[.int .i64 (c : Int), .bool true]) ∧ Below W.heap.size W w') from by have h := t_minutes_any s W hs; rw [hR] at h; exact h)
  have hc9 := cntR_le hR
  have KF := fun W => Lib.hid (cloF_any c W)
  have KG := fun W hW => Lib.hid (c_minutes_any c W hc9 hW)
  have HE := Lib.hid hE
  have HF := Lib.hid hf
  clear hs hR hc9 hf hE
  go_enter Tryz.func34, Tryz.ntmps34
  go_wp2_with (first
    | (go_at_call 74; refine Calls.mono (KR _).out ?_; rintro e w2 ⟨b2, q, Dd, rfl, hF, hb2⟩; have B2 := Lib.hid hb2; have hlk : (Instr.lookup 86 (.map (some b2)) (.int .u8 77) true).run Tryz.prog w2 = .ok (.tuple #[.func (.func 118) #[.string s] #[], .bool true]) w2 := (look_ok lawU8 Tryz.underlying86 (zeroG w2) hF.out.1 hF.out.2 77 Tryz.underlying5); clear hb2)
    | (go_at_call 118; refine Calls.mono (KX _).out ?_; rintro e w3 ⟨rfl, hb3⟩; have B3 := Lib.hid (Bl.step B2.out hb3); clear hb3)
    | (go_at_call 73; refine Calls.mono (KF _).out ?_; rintro e w5 ⟨b5, q5, D5, rfl, hF5, hb5⟩; have B5 := Lib.hid (Bl.step B3.out hb5); have hlk5 : (Instr.lookup 81 (.map (some b5)) (.int .u8 77) false).run Tryz.prog w5 = .ok (.func (.func 111) #[.int .i64 (c : Int)] #[]) w5 := (look_no lawU8 Tryz.underlying81 (zeroF w5) hF5.out.1 hF5.out.2 77 Tryz.underlying5); clear hb5)
    | (go_at_call 111; refine Calls.mono (KG _ (HE.out.below B5.out)).out ?_; rintro e w6 ⟨t, rfl, ht, hb6⟩; have B6 := Lib.hid (Bl.step B5.out hb6); obtain rfl : t = s := bts_inj (ht.out.trans HF.out.symm); clear hb6))
  go_ret2
  exact ⟨rfl, B6.out⟩
set_option maxHeartbeats 4000000 in
theorem ReadTime_M_ne (s : ByteArray) (c : Nat) (w : World) (hs : s.size ≤ 1000000) (hR : cntR [60000000] (bts s) = some c) (hf : ¬ bts s = Lib.decDigits (c / 60000000)) (hE : Env w) :
    Calls Tryz.prog 34 #[.string s, .int .u8 77] w (Gives w #[.int .i64 0, .int .i64 2]) := by
  have KR := fun W => Lib.hid (timR_any s W)
  have KX := fun W => Lib.hid (show Calls Tryz.prog 118 #[.string s] W (fun e w' => e = .returned (.tuple #[.int .i64 (c : Int), .bool true]) ∧ Below W.heap.size W w') from by have h := t_minutes_any s W hs; rw [hR] at h; exact h)
  have hc9 := cntR_le hR
  have KF := fun W => Lib.hid (cloF_any c W)
  have KG := fun W hW => Lib.hid (c_minutes_any c W hc9 hW)
  have HE := Lib.hid hE
  have HF := Lib.hid hf
  clear hs hR hc9 hf hE
  go_enter Tryz.func34, Tryz.ntmps34
  go_wp2_with (first
    | (go_at_call 74; refine Calls.mono (KR _).out ?_; rintro e w2 ⟨b2, q, Dd, rfl, hF, hb2⟩; have B2 := Lib.hid hb2; have hlk : (Instr.lookup 86 (.map (some b2)) (.int .u8 77) true).run Tryz.prog w2 = .ok (.tuple #[.func (.func 118) #[.string s] #[], .bool true]) w2 := (look_ok lawU8 Tryz.underlying86 (zeroG w2) hF.out.1 hF.out.2 77 Tryz.underlying5); clear hb2)
    | (go_at_call 118; refine Calls.mono (KX _).out ?_; rintro e w3 ⟨rfl, hb3⟩; have B3 := Lib.hid (Bl.step B2.out hb3); clear hb3)
    | (go_at_call 73; refine Calls.mono (KF _).out ?_; rintro e w5 ⟨b5, q5, D5, rfl, hF5, hb5⟩; have B5 := Lib.hid (Bl.step B3.out hb5); have hlk5 : (Instr.lookup 81 (.map (some b5)) (.int .u8 77) false).run Tryz.prog w5 = .ok (.func (.func 111) #[.int .i64 (c : Int)] #[]) w5 := (look_no lawU8 Tryz.underlying81 (zeroF w5) hF5.out.1 hF5.out.2 77 Tryz.underlying5); clear hb5)
    | (go_at_call 111; refine Calls.mono (KG _ (HE.out.below B5.out)).out ?_; rintro e w6 ⟨t, rfl, ht, hb6⟩; have B6 := Lib.hid (Bl.step B5.out hb6); have hne : ¬ t.toList = s.toList := (by rw [toList_bts, toList_bts, ht.out]; exact fun q => HF.out q.symm); have hne2 : (t.toList == s.toList) = false := (beq_eq_false_iff_ne.2 hne); clear hb6))
  go_ret2
  exact ⟨rfl, B6.out⟩
theorem ReadTime_M_any (s : ByteArray) (w : World) (hs : s.size ≤ 1000000) (hE : Env w) : Calls Tryz.prog 34 #[.string s, .int .u8 77] w (Gives w #[.int .i64 (tmV (cntR [60000000] (bts s)) (fun c => Lib.decDigits (c / 60000000)) (bts s)).1, .int .i64 (tmV (cntR [60000000] (bts s)) (fun c => Lib.decDigits (c / 60000000)) (bts s)).2]) := by
  cases hR : cntR [60000000] (bts s) with
  | none => exact ReadTime_M_none s w hs hR
  | some c =>
    by_cases hf : bts s = Lib.decDigits (c / 60000000)
    · rw [show tmV (some c) (fun c => Lib.decDigits (c / 60000000)) (bts s) = ((c : Int), 0) by unfold tmV; exact if_pos hf]
      exact ReadTime_M_ok s c w hs hR hf hE
    · rw [show tmV (some c) (fun c => Lib.decDigits (c / 60000000)) (bts s) = (0, 2) by unfold tmV; exact if_neg hf]
      exact ReadTime_M_ne s c w hs hR hf hE
set_option maxHeartbeats 4000000 in
theorem ReadTime_N_none (s : ByteArray) (w : World) (hs : s.size ≤ 1000000) (hR : cntR [3600000000, 60000000, 1000000] (bts s) = none) :
    Calls Tryz.prog 34 #[.string s, .int .u8 78] w (Gives w #[.int .i64 0, .int .i64 2]) := by
  have KR := fun W => Lib.hid (timR_any s W)
  have KX := fun W => Lib.hid (show Calls Tryz.prog 119 #[.string s] W (fun e w' => e = .returned (.tuple #[.int .i64 0, .bool false]) ∧ Below W.heap.size W w') from by have h := t_normal_any s W hs; rw [hR] at h; exact h)
  clear hs hR
  go_enter Tryz.func34, Tryz.ntmps34
  go_wp2_with (first
    | (go_at_call 74; refine Calls.mono (KR _).out ?_; rintro e w2 ⟨b2, q, Dd, rfl, hF, hb2⟩; have B2 := Lib.hid hb2; have hlk : (Instr.lookup 86 (.map (some b2)) (.int .u8 78) true).run Tryz.prog w2 = .ok (.tuple #[.func (.func 119) #[.string s] #[], .bool true]) w2 := (look_ok lawU8 Tryz.underlying86 (zeroG w2) hF.out.1 hF.out.2 78 Tryz.underlying5); clear hb2)
    | (go_at_call 119; refine Calls.mono (KX _).out ?_; rintro e w3 ⟨rfl, hb3⟩; have B3 := Lib.hid (Bl.step B2.out hb3); clear hb3))
  go_ret2
  exact ⟨rfl, B3.out⟩
set_option maxHeartbeats 4000000 in
theorem ReadTime_N_ok (s : ByteArray) (c : Nat) (w : World) (hs : s.size ≤ 1000000) (hR : cntR [3600000000, 60000000, 1000000] (bts s) = some c) (hf : bts s = hmsL c) (hE : Env w) :
    Calls Tryz.prog 34 #[.string s, .int .u8 78] w (Gives w #[.int .i64 (c : Int), .int .i64 0]) := by
  have KR := fun W => Lib.hid (timR_any s W)
  have KX := fun W => Lib.hid (show Calls Tryz.prog 119 #[.string s] W (fun e w' => e = .returned (.tuple #[.int .i64 (c : Int), .bool true]) ∧ Below W.heap.size W w') from by have h := t_normal_any s W hs; rw [hR] at h; exact h)
  have hc9 := cntR_le hR
  have KF := fun W => Lib.hid (cloF_any c W)
  have KG := fun W hW => Lib.hid (c_normal_any c W hc9 hW)
  have HE := Lib.hid hE
  have HF := Lib.hid hf
  clear hs hR hc9 hf hE
  go_enter Tryz.func34, Tryz.ntmps34
  go_wp2_with (first
    | (go_at_call 74; refine Calls.mono (KR _).out ?_; rintro e w2 ⟨b2, q, Dd, rfl, hF, hb2⟩; have B2 := Lib.hid hb2; have hlk : (Instr.lookup 86 (.map (some b2)) (.int .u8 78) true).run Tryz.prog w2 = .ok (.tuple #[.func (.func 119) #[.string s] #[], .bool true]) w2 := (look_ok lawU8 Tryz.underlying86 (zeroG w2) hF.out.1 hF.out.2 78 Tryz.underlying5); clear hb2)
    | (go_at_call 119; refine Calls.mono (KX _).out ?_; rintro e w3 ⟨rfl, hb3⟩; have B3 := Lib.hid (Bl.step B2.out hb3); clear hb3)
    | (go_at_call 73; refine Calls.mono (KF _).out ?_; rintro e w5 ⟨b5, q5, D5, rfl, hF5, hb5⟩; have B5 := Lib.hid (Bl.step B3.out hb5); have hlk5 : (Instr.lookup 81 (.map (some b5)) (.int .u8 78) false).run Tryz.prog w5 = .ok (.func (.func 112) #[.int .i64 (c : Int)] #[]) w5 := (look_no lawU8 Tryz.underlying81 (zeroF w5) hF5.out.1 hF5.out.2 78 Tryz.underlying5); clear hb5)
    | (go_at_call 112; refine Calls.mono (KG _ (HE.out.below B5.out)).out ?_; rintro e w6 ⟨t, rfl, ht, hb6⟩; have B6 := Lib.hid (Bl.step B5.out hb6); obtain rfl : t = s := bts_inj (ht.out.trans HF.out.symm); clear hb6))
  go_ret2
  exact ⟨rfl, B6.out⟩
set_option maxHeartbeats 4000000 in
theorem ReadTime_N_ne (s : ByteArray) (c : Nat) (w : World) (hs : s.size ≤ 1000000) (hR : cntR [3600000000, 60000000, 1000000] (bts s) = some c) (hf : ¬ bts s = hmsL c) (hE : Env w) :
    Calls Tryz.prog 34 #[.string s, .int .u8 78] w (Gives w #[.int .i64 0, .int .i64 2]) := by
  have KR := fun W => Lib.hid (timR_any s W)
  have KX := fun W => Lib.hid (show Calls Tryz.prog 119 #[.string s] W (fun e w' => e = .returned (.tuple #[.int .i64 (c : Int), .bool true]) ∧ Below W.heap.size W w') from by have h := t_normal_any s W hs; rw [hR] at h; exact h)
  have hc9 := cntR_le hR
  have KF := fun W => Lib.hid (cloF_any c W)
  have KG := fun W hW => Lib.hid (c_normal_any c W hc9 hW)
  have HE := Lib.hid hE
  have HF := Lib.hid hf
  clear hs hR hc9 hf hE
  go_enter Tryz.func34, Tryz.ntmps34
  go_wp2_with (first
    | (go_at_call 74; refine Calls.mono (KR _).out ?_; rintro e w2 ⟨b2, q, Dd, rfl, hF, hb2⟩; have B2 := Lib.hid hb2; have hlk : (Instr.lookup 86 (.map (some b2)) (.int .u8 78) true).run Tryz.prog w2 = .ok (.tuple #[.func (.func 119) #[.string s] #[], .bool true]) w2 := (look_ok lawU8 Tryz.underlying86 (zeroG w2) hF.out.1 hF.out.2 78 Tryz.underlying5); clear hb2)
    | (go_at_call 119; refine Calls.mono (KX _).out ?_; rintro e w3 ⟨rfl, hb3⟩; have B3 := Lib.hid (Bl.step B2.out hb3); clear hb3)
    | (go_at_call 73; refine Calls.mono (KF _).out ?_; rintro e w5 ⟨b5, q5, D5, rfl, hF5, hb5⟩; have B5 := Lib.hid (Bl.step B3.out hb5); have hlk5 : (Instr.lookup 81 (.map (some b5)) (.int .u8 78) false).run Tryz.prog w5 = .ok (.func (.func 112) #[.int .i64 (c : Int)] #[]) w5 := (look_no lawU8 Tryz.underlying81 (zeroF w5) hF5.out.1 hF5.out.2 78 Tryz.underlying5); clear hb5)
    | (go_at_call 112; refine Calls.mono (KG _ (HE.out.below B5.out)).out ?_; rintro e w6 ⟨t, rfl, ht, hb6⟩; have B6 := Lib.hid (Bl.step B5.out hb6); have hne : ¬ t.toList = s.toList := (by rw [toList_bts, toList_bts, ht.out]; exact fun q => HF.out q.symm); have hne2 : (t.toList == s.toList) = false := (beq_eq_false_iff_ne.2 hne); clear hb6))
  go_ret2
  exact ⟨rfl, B6.out⟩
theorem ReadTime_N_any (s : ByteArray) (w : World) (hs : s.size ≤ 1000000) (hE : Env w) : Calls Tryz.prog 34 #[.string s, .int .u8 78] w (Gives w #[.int .i64 (tmV (cntR [3600000000, 60000000, 1000000] (bts s)) (fun c => hmsL c) (bts s)).1, .int .i64 (tmV (cntR [3600000000, 60000000, 1000000] (bts s)) (fun c => hmsL c) (bts s)).2]) := by
  cases hR : cntR [3600000000, 60000000, 1000000] (bts s) with
  | none => exact ReadTime_N_none s w hs hR
  | some c =>
    by_cases hf : bts s = hmsL c
    · rw [show tmV (some c) (fun c => hmsL c) (bts s) = ((c : Int), 0) by unfold tmV; exact if_pos hf]
      exact ReadTime_N_ok s c w hs hR hf hE
    · rw [show tmV (some c) (fun c => hmsL c) (bts s) = (0, 2) by unfold tmV; exact if_neg hf]
      exact ReadTime_N_ne s c w hs hR hf hE
set_option maxHeartbeats 4000000 in
theorem ReadTime_S_none (s : ByteArray) (w : World) (hs : s.size ≤ 1000000) (hR : cntR [1000000] (bts s) = none) :
    Calls Tryz.prog 34 #[.string s, .int .u8 83] w (Gives w #[.int .i64 0, .int .i64 2]) := by
  have KR := fun W => Lib.hid (timR_any s W)
  have KX := fun W => Lib.hid (show Calls Tryz.prog 120 #[.string s] W (fun e w' => e = .returned (.tuple #[.int .i64 0, .bool false]) ∧ Below W.heap.size W w') from by have h := t_seconds_any s W hs; rw [hR] at h; exact h)
  clear hs hR
  go_enter Tryz.func34, Tryz.ntmps34
  go_wp2_with (first
    | (go_at_call 74; refine Calls.mono (KR _).out ?_; rintro e w2 ⟨b2, q, Dd, rfl, hF, hb2⟩; have B2 := Lib.hid hb2; have hlk : (Instr.lookup 86 (.map (some b2)) (.int .u8 83) true).run Tryz.prog w2 = .ok (.tuple #[.func (.func 120) #[.string s] #[], .bool true]) w2 := (look_ok lawU8 Tryz.underlying86 (zeroG w2) hF.out.1 hF.out.2 83 Tryz.underlying5); clear hb2)
    | (go_at_call 120; refine Calls.mono (KX _).out ?_; rintro e w3 ⟨rfl, hb3⟩; have B3 := Lib.hid (Bl.step B2.out hb3); clear hb3))
  go_ret2
  exact ⟨rfl, B3.out⟩
set_option maxHeartbeats 4000000 in
theorem ReadTime_S_ok (s : ByteArray) (c : Nat) (w : World) (hs : s.size ≤ 1000000) (hR : cntR [1000000] (bts s) = some c) (hf : bts s = Lib.decDigits (c / 1000000)) (hE : Env w) :
    Calls Tryz.prog 34 #[.string s, .int .u8 83] w (Gives w #[.int .i64 (c : Int), .int .i64 0]) := by
  have KR := fun W => Lib.hid (timR_any s W)
  have KX := fun W => Lib.hid (show Calls Tryz.prog 120 #[.string s] W (fun e w' => e = .returned (.tuple #[.int .i64 (c : Int), .bool true]) ∧ Below W.heap.size W w') from by have h := t_seconds_any s W hs; rw [hR] at h; exact h)
  have hc9 := cntR_le hR
  have KF := fun W => Lib.hid (cloF_any c W)
  have KG := fun W hW => Lib.hid (c_seconds_any c W hc9 hW)
  have HE := Lib.hid hE
  have HF := Lib.hid hf
  clear hs hR hc9 hf hE
  go_enter Tryz.func34, Tryz.ntmps34
  go_wp2_with (first
    | (go_at_call 74; refine Calls.mono (KR _).out ?_; rintro e w2 ⟨b2, q, Dd, rfl, hF, hb2⟩; have B2 := Lib.hid hb2; have hlk : (Instr.lookup 86 (.map (some b2)) (.int .u8 83) true).run Tryz.prog w2 = .ok (.tuple #[.func (.func 120) #[.string s] #[], .bool true]) w2 := (look_ok lawU8 Tryz.underlying86 (zeroG w2) hF.out.1 hF.out.2 83 Tryz.underlying5); clear hb2)
    | (go_at_call 120; refine Calls.mono (KX _).out ?_; rintro e w3 ⟨rfl, hb3⟩; have B3 := Lib.hid (Bl.step B2.out hb3); clear hb3)
    | (go_at_call 73; refine Calls.mono (KF _).out ?_; rintro e w5 ⟨b5, q5, D5, rfl, hF5, hb5⟩; have B5 := Lib.hid (Bl.step B3.out hb5); have hlk5 : (Instr.lookup 81 (.map (some b5)) (.int .u8 83) false).run Tryz.prog w5 = .ok (.func (.func 113) #[.int .i64 (c : Int)] #[]) w5 := (look_no lawU8 Tryz.underlying81 (zeroF w5) hF5.out.1 hF5.out.2 83 Tryz.underlying5); clear hb5)
    | (go_at_call 113; refine Calls.mono (KG _ (HE.out.below B5.out)).out ?_; rintro e w6 ⟨t, rfl, ht, hb6⟩; have B6 := Lib.hid (Bl.step B5.out hb6); obtain rfl : t = s := bts_inj (ht.out.trans HF.out.symm); clear hb6))
  go_ret2
  exact ⟨rfl, B6.out⟩
set_option maxHeartbeats 4000000 in
theorem ReadTime_S_ne (s : ByteArray) (c : Nat) (w : World) (hs : s.size ≤ 1000000) (hR : cntR [1000000] (bts s) = some c) (hf : ¬ bts s = Lib.decDigits (c / 1000000)) (hE : Env w) :
    Calls Tryz.prog 34 #[.string s, .int .u8 83] w (Gives w #[.int .i64 0, .int .i64 2]) := by
  have KR := fun W => Lib.hid (timR_any s W)
  have KX := fun W => Lib.hid (show Calls Tryz.prog 120 #[.string s] W (fun e w' => e = .returned (.tuple #[.int .i64 (c : Int), .bool true]) ∧ Below W.heap.size W w') from by have h := t_seconds_any s W hs; rw [hR] at h; exact h)
  have hc9 := cntR_le hR
  have KF := fun W => Lib.hid (cloF_any c W)
  have KG := fun W hW => Lib.hid (c_seconds_any c W hc9 hW)
  have HE := Lib.hid hE
  have HF := Lib.hid hf
  clear hs hR hc9 hf hE
  go_enter Tryz.func34, Tryz.ntmps34
  go_wp2_with (first
    | (go_at_call 74; refine Calls.mono (KR _).out ?_; rintro e w2 ⟨b2, q, Dd, rfl, hF, hb2⟩; have B2 := Lib.hid hb2; have hlk : (Instr.lookup 86 (.map (some b2)) (.int .u8 83) true).run Tryz.prog w2 = .ok (.tuple #[.func (.func 120) #[.string s] #[], .bool true]) w2 := (look_ok lawU8 Tryz.underlying86 (zeroG w2) hF.out.1 hF.out.2 83 Tryz.underlying5); clear hb2)
    | (go_at_call 120; refine Calls.mono (KX _).out ?_; rintro e w3 ⟨rfl, hb3⟩; have B3 := Lib.hid (Bl.step B2.out hb3); clear hb3)
    | (go_at_call 73; refine Calls.mono (KF _).out ?_; rintro e w5 ⟨b5, q5, D5, rfl, hF5, hb5⟩; have B5 := Lib.hid (Bl.step B3.out hb5); have hlk5 : (Instr.lookup 81 (.map (some b5)) (.int .u8 83) false).run Tryz.prog w5 = .ok (.func (.func 113) #[.int .i64 (c : Int)] #[]) w5 := (look_no lawU8 Tryz.underlying81 (zeroF w5) hF5.out.1 hF5.out.2 83 Tryz.underlying5); clear hb5)
    | (go_at_call 113; refine Calls.mono (KG _ (HE.out.below B5.out)).out ?_; rintro e w6 ⟨t, rfl, ht, hb6⟩; have B6 := Lib.hid (Bl.step B5.out hb6); have hne : ¬ t.toList = s.toList := (by rw [toList_bts, toList_bts, ht.out]; exact fun q => HF.out q.symm); have hne2 : (t.toList == s.toList) = false := (beq_eq_false_iff_ne.2 hne); clear hb6))
  go_ret2
  exact ⟨rfl, B6.out⟩
theorem ReadTime_S_any (s : ByteArray) (w : World) (hs : s.size ≤ 1000000) (hE : Env w) : Calls Tryz.prog 34 #[.string s, .int .u8 83] w (Gives w #[.int .i64 (tmV (cntR [1000000] (bts s)) (fun c => Lib.decDigits (c / 1000000)) (bts s)).1, .int .i64 (tmV (cntR [1000000] (bts s)) (fun c => Lib.decDigits (c / 1000000)) (bts s)).2]) := by
  cases hR : cntR [1000000] (bts s) with
  | none => exact ReadTime_S_none s w hs hR
  | some c =>
    by_cases hf : bts s = Lib.decDigits (c / 1000000)
    · rw [show tmV (some c) (fun c => Lib.decDigits (c / 1000000)) (bts s) = ((c : Int), 0) by unfold tmV; exact if_pos hf]
      exact ReadTime_S_ok s c w hs hR hf hE
    · rw [show tmV (some c) (fun c => Lib.decDigits (c / 1000000)) (bts s) = (0, 2) by unfold tmV; exact if_neg hf]
      exact ReadTime_S_ne s c w hs hR hf hE
set_option maxHeartbeats 2000000 in
theorem ReadTime_none (s : ByteArray) (x : UInt8) (w : World) (hx : (timRL s).lookup x = none) : Calls Tryz.prog 34 #[.string s, .int .u8 (x.toNat : Int)] w (Gives w #[.int .i64 0, .int .i64 1]) := by
  have KR := fun W => Lib.hid (timR_any s W)
  have HX := Lib.hid hx
  clear hx
  go_enter Tryz.func34, Tryz.ntmps34
  go_wp2_with (go_at_call 74; refine Calls.mono (KR _).out ?_; rintro e w2 ⟨b2, q, Dd, rfl, hF, hb2⟩; have B2 := Lib.hid hb2; have hlk := look_ok lawU8 Tryz.underlying86 (zeroG w2) hF.out.1 hF.out.2 x Tryz.underlying5; rw [HX.out] at hlk; clear hb2)
  go_ret2
  exact ⟨rfl, B2.out⟩
end Go.Proofs.YtmjifmlibgpjiaaGreatDoor
