/- ReadTime of the format 'C'. -/
import Derived.Test.YtmjifmlibgpjiaaGreatDoorDq
namespace Go.Proofs.YtmjifmlibgpjiaaGreatDoor
open Go.RowKit Go.Shelf Tx Go.Maps
set_option linter.unusedVariables false
set_option maxRecDepth 100000

theorem rcFacts (t r h c : Nat) (ht : t ≤ 86399999999) (hr : r = t % 43200000000) (hh : h ≤ 1) (hc : c = r + h * 43200000000) : (t : Int) % 43200000000 = (r : Int) ∧ (t : Int).tmod 43200000000 = (r : Int) ∧ IntKind.i64.wrap ((r : Int) + (h : Int) * 43200000000) = (c : Int) ∧ wrap64 ((r : Int) + (h : Int) * 43200000000) = (c : Int) := by
  have e : (t : Int) % 43200000000 = (r : Int) := by omega
  have e2 : (r : Int) + (h : Int) * 43200000000 = (c : Int) := by omega
  exact ⟨e, by rw [Int.tmod_eq_emod_of_nonneg (by omega)]; exact e, by rw [e2]; exact i64i' (by omega) (by omega), by rw [e2]; exact w64 (by omega) (by omega)⟩
theorem rc0Facts (t r c : Nat) (ht : t ≤ 86399999999) (hr : r = t % 43200000000) (hc : c = r + 0 * 43200000000) : (t : Int) % 43200000000 = (r : Int) ∧ (t : Int).tmod 43200000000 = (r : Int) ∧ IntKind.i64.wrap ((r : Int) + 0) = (c : Int) ∧ wrap64 ((r : Int) + 0) = (c : Int) ∧ IntKind.i64.wrap (r : Int) = (c : Int) ∧ wrap64 (r : Int) = (c : Int) ∧ (r : Int) = (c : Int) := by
  have e : (t : Int) % 43200000000 = (r : Int) := by omega
  have e1 : r = c := by omega
  have e3 : r ≤ 86399999999 := by omega
  clear hr hc ht
  subst e1
  have e2 : (r : Int) + 0 = (r : Int) := Int.add_zero _
  have k1 : IntKind.i64.wrap (r : Int) = (r : Int) := i64i' (by omega) (by omega)
  have k2 : wrap64 (r : Int) = (r : Int) := w64 (by omega) (by omega)
  have e4 : (t : Int).tmod 43200000000 = (r : Int) := by rw [Int.tmod_eq_emod_of_nonneg (Int.natCast_nonneg t)]; exact e
  exact ⟨e, e4, by rw [e2]; exact k1, by rw [e2]; exact k2, k1, k2, rfl⟩
set_option maxHeartbeats 2000000 in
theorem r_civil0_ok (s : ByteArray) (a b c : Nat) (w : World) (hs : s.size ≤ 1000000) (hS : SufOk s) (h1 : num1 (bts s) = (a : Int)) (h2 : num2 (bts s) = (b : Int)) (ha : a ≤ 24) (hb : b ≤ 1440) (ht : a * 3600000000 + b * 60000000 ≤ 86399999999) (hh : Lib.hasSuffix (bts s) [97, 109] = true) (hc : c = (a * 3600000000 + b * 60000000) % 43200000000 + 0 * 43200000000) :
    Calls Tryz.prog 114 #[.string s] w fun e w' => e = .returned (.tuple #[.int .i64 (c : Int), .bool true]) ∧ Below w.heap.size w w' := by
  have hmf : ∀ (fn : Fn) (first cap : Array Value) (w : World), (Instr.makeFunc fn first cap).run Tryz.prog w = .ok (.func fn first cap) w := fun _ _ _ _ => rfl
  have KC := fun (W : World) (q : Nat) (hq : BoxC W q 3 #[.int .i64 3600000000, .int .i64 60000000]) => Lib.hid (counted2_ok q s a b W hs hS h1 h2 ha hb ht hq)
  have KF := fun (W : World) (p q : Nat) (hp2 : W.cell? ⟨p, 0, none⟩ = some (.string s)) (hq : BoxC W q 9 #[.string ⟨#[97, 109]⟩, .string ⟨#[112, 109]⟩]) => Lib.hid (find0_any s p q W hs hp2 hq hh)
  obtain ⟨t, htt⟩ : ∃ t, t = a * 3600000000 + b * 60000000 := ⟨_, rfl⟩
  rw [← htt] at KC ht hc
  obtain ⟨r, hr⟩ : ∃ r, r = t % 43200000000 := ⟨_, rfl⟩
  rw [← hr] at hc
  have F := Lib.hid (rc0Facts t r c ht hr hc)
  have HRB := Lib.hid (show r ≤ 43200000000 by omega)
  clear hs hS h1 h2 ha hb ht hh htt hr hc
  obtain ⟨f1, f2, g0, g0', g1, g2, g3⟩ := F.out
  have HRC := Lib.hid g3
  clear F g3
  go_enter Tryz.func114, Tryz.ntmps114
  go_wp2_with (first
    | (go_at_call 141; refine Calls.mono (halves_any _) ?_; rintro e w5 ⟨rfl, rfl⟩)
    | (go_at_call 135; refine Calls.mono (KF _ _ _ (by simp) (by repeat (first | exact BoxC.newAt (by simp) | refine BoxC.drew ?_ | refine BoxC.alloc ?_ _))).out ?_; rintro e w6 ⟨rfl, rfl⟩)
    | (go_at_call 144; refine Calls.mono (KC _ _ (by repeat (first | exact BoxC.newAt (by simp) | refine BoxC.drew ?_ | refine BoxC.alloc ?_ _))).out ?_; rintro e w7 ⟨rfl, hb7⟩; have B7 := Lib.hid (Bl.step (show Below w.heap.size w _ from by repeat (first | exact Below.refl _ _ | refine Bl.alloc ?_ _ | refine Bl.drew ?_)) hb7); clear hb7))
  go_ret2
  exact ⟨by first | rfl | rw [HRC.out] | simp [*], B7.out⟩
set_option maxHeartbeats 2000000 in
theorem r_civil1_ok (s : ByteArray) (a b c : Nat) (w : World) (hs : s.size ≤ 1000000) (hS : SufOk s) (h1 : num1 (bts s) = (a : Int)) (h2 : num2 (bts s) = (b : Int)) (ha : a ≤ 24) (hb : b ≤ 1440) (ht : a * 3600000000 + b * 60000000 ≤ 86399999999) (hh : Lib.hasSuffix (bts s) [97, 109] = false) (hp : Lib.hasSuffix (bts s) [112, 109] = true) (hc : c = (a * 3600000000 + b * 60000000) % 43200000000 + 1 * 43200000000) :
    Calls Tryz.prog 114 #[.string s] w fun e w' => e = .returned (.tuple #[.int .i64 (c : Int), .bool true]) ∧ Below w.heap.size w w' := by
  have hmf : ∀ (fn : Fn) (first cap : Array Value) (w : World), (Instr.makeFunc fn first cap).run Tryz.prog w = .ok (.func fn first cap) w := fun _ _ _ _ => rfl
  have KC := fun (W : World) (q : Nat) (hq : BoxC W q 3 #[.int .i64 3600000000, .int .i64 60000000]) => Lib.hid (counted2_ok q s a b W hs hS h1 h2 ha hb ht hq)
  have KF := fun (W : World) (p q : Nat) (hp2 : W.cell? ⟨p, 0, none⟩ = some (.string s)) (hq : BoxC W q 9 #[.string ⟨#[97, 109]⟩, .string ⟨#[112, 109]⟩]) => Lib.hid (find1_any s p q W hs hp2 hq hh hp)
  obtain ⟨t, htt⟩ : ∃ t, t = a * 3600000000 + b * 60000000 := ⟨_, rfl⟩
  rw [← htt] at KC ht hc
  obtain ⟨r, hr⟩ : ∃ r, r = t % 43200000000 := ⟨_, rfl⟩
  rw [← hr] at hc
  have F := Lib.hid (rcFacts t r 1 c ht hr (by decide) hc)
  have HC0 := Lib.hid hc
  have HRB := Lib.hid (show r ≤ 43200000000 by omega)
  clear hs hS h1 h2 ha hb ht hh hp htt hr hc
  obtain ⟨f1, f2, f3, f4⟩ := F.out
  clear F
  skip
  have g0 : IntKind.i64.wrap ((r : Int) + 43200000000) = (c : Int) := f3
  have g0' : wrap64 ((r : Int) + 43200000000) = (c : Int) := f4
  clear f3 f4
  go_enter Tryz.func114, Tryz.ntmps114
  go_wp2_with (first
    | (go_at_call 141; refine Calls.mono (halves_any _) ?_; rintro e w5 ⟨rfl, rfl⟩)
    | (go_at_call 135; refine Calls.mono (KF _ _ _ (by simp) (by repeat (first | exact BoxC.newAt (by simp) | refine BoxC.drew ?_ | refine BoxC.alloc ?_ _))).out ?_; rintro e w6 ⟨rfl, rfl⟩)
    | (go_at_call 144; refine Calls.mono (KC _ _ (by repeat (first | exact BoxC.newAt (by simp) | refine BoxC.drew ?_ | refine BoxC.alloc ?_ _))).out ?_; rintro e w7 ⟨rfl, hb7⟩; have B7 := Lib.hid (Bl.step (show Below w.heap.size w _ from by repeat (first | exact Below.refl _ _ | refine Bl.alloc ?_ _ | refine Bl.drew ?_)) hb7); clear hb7))
  go_ret2
  exact ⟨by first | rfl | simp [*], B7.out⟩
set_option maxHeartbeats 4000000 in
theorem ReadTime_C0_yes (s : ByteArray) (a b c : Nat) (w : World) (hs : s.size ≤ 1000000) (hS : SufOk s) (h1 : num1 (bts s) = (a : Int)) (h2 : num2 (bts s) = (b : Int)) (ha : a ≤ 24) (hb : b ≤ 1440) (ht : a * 3600000000 + b * 60000000 ≤ 86399999999) (hh : Lib.hasSuffix (bts s) [97, 109] = true) (hc : c = (a * 3600000000 + b * 60000000) % 43200000000 + 0 * 43200000000) (hc9 : c ≤ 86399999999) (hf : bts s = civL c) (hE : Env w) :
    Calls Tryz.prog 34 #[.string s, .int .u8 67] w (Gives w #[.int .i64 (c : Int), .int .i64 0]) := by
  have KR := fun W => Lib.hid (timR_any s W)
  have KX := fun W => Lib.hid (r_civil0_ok s a b c W hs hS h1 h2 ha hb ht hh hc)
  have KF := fun W => Lib.hid (cloF_any c W)
  have KG := fun W hW => Lib.hid (c_civil_any c W hc9 hW)
  have HE := Lib.hid hE
  have HF := Lib.hid hf
  clear hs hS h1 h2 ha hb ht hh hc hc9 hf hE
  go_enter Tryz.func34, Tryz.ntmps34
  go_wp2_with (first
    | (go_at_call 74; refine Calls.mono (KR _).out ?_; rintro e w2 ⟨b2, q, Dd, rfl, hF, hb2⟩; have B2 := Lib.hid hb2; have hlk : (Instr.lookup 86 (.map (some b2)) (.int .u8 67) true).run Tryz.prog w2 = .ok (.tuple #[.func (.func 114) #[.string s] #[], .bool true]) w2 := (look_ok lawU8 Tryz.underlying86 (zeroG w2) hF.out.1 hF.out.2 67 Tryz.underlying5); clear hb2)
    | (go_at_call 114; refine Calls.mono (KX _).out ?_; rintro e w3 ⟨rfl, hb3⟩; have B3 := Lib.hid (Bl.step B2.out hb3); clear hb3)
    | (go_at_call 73; refine Calls.mono (KF _).out ?_; rintro e w5 ⟨b5, q5, D5, rfl, hF5, hb5⟩; have B5 := Lib.hid (Bl.step B3.out hb5); have hlk5 : (Instr.lookup 81 (.map (some b5)) (.int .u8 67) false).run Tryz.prog w5 = .ok (.func (.func 107) #[.int .i64 (c : Int)] #[]) w5 := (look_no lawU8 Tryz.underlying81 (zeroF w5) hF5.out.1 hF5.out.2 67 Tryz.underlying5); clear hb5)
    | (go_at_call 107; refine Calls.mono (KG _ (HE.out.below B5.out)).out ?_; rintro e w6 ⟨t, rfl, ht, hb6⟩; have B6 := Lib.hid (Bl.step B5.out hb6); obtain rfl : t = s := bts_inj (ht.out.trans HF.out.symm); clear hb6))
  go_ret2
  exact ⟨rfl, B6.out⟩
set_option maxHeartbeats 4000000 in
theorem ReadTime_C1_yes (s : ByteArray) (a b c : Nat) (w : World) (hs : s.size ≤ 1000000) (hS : SufOk s) (h1 : num1 (bts s) = (a : Int)) (h2 : num2 (bts s) = (b : Int)) (ha : a ≤ 24) (hb : b ≤ 1440) (ht : a * 3600000000 + b * 60000000 ≤ 86399999999) (hh : Lib.hasSuffix (bts s) [97, 109] = false) (hp : Lib.hasSuffix (bts s) [112, 109] = true) (hc : c = (a * 3600000000 + b * 60000000) % 43200000000 + 1 * 43200000000) (hc9 : c ≤ 86399999999) (hf : bts s = civL c) (hE : Env w) :
    Calls Tryz.prog 34 #[.string s, .int .u8 67] w (Gives w #[.int .i64 (c : Int), .int .i64 0]) := by
  have KR := fun W => Lib.hid (timR_any s W)
  have KX := fun W => Lib.hid (r_civil1_ok s a b c W hs hS h1 h2 ha hb ht hh hp hc)
  have KF := fun W => Lib.hid (cloF_any c W)
  have KG := fun W hW => Lib.hid (c_civil_any c W hc9 hW)
  have HE := Lib.hid hE
  have HF := Lib.hid hf
  clear hs hS h1 h2 ha hb ht hh hp hc hc9 hf hE
  go_enter Tryz.func34, Tryz.ntmps34
  go_wp2_with (first
    | (go_at_call 74; refine Calls.mono (KR _).out ?_; rintro e w2 ⟨b2, q, Dd, rfl, hF, hb2⟩; have B2 := Lib.hid hb2; have hlk : (Instr.lookup 86 (.map (some b2)) (.int .u8 67) true).run Tryz.prog w2 = .ok (.tuple #[.func (.func 114) #[.string s] #[], .bool true]) w2 := (look_ok lawU8 Tryz.underlying86 (zeroG w2) hF.out.1 hF.out.2 67 Tryz.underlying5); clear hb2)
    | (go_at_call 114; refine Calls.mono (KX _).out ?_; rintro e w3 ⟨rfl, hb3⟩; have B3 := Lib.hid (Bl.step B2.out hb3); clear hb3)
    | (go_at_call 73; refine Calls.mono (KF _).out ?_; rintro e w5 ⟨b5, q5, D5, rfl, hF5, hb5⟩; have B5 := Lib.hid (Bl.step B3.out hb5); have hlk5 : (Instr.lookup 81 (.map (some b5)) (.int .u8 67) false).run Tryz.prog w5 = .ok (.func (.func 107) #[.int .i64 (c : Int)] #[]) w5 := (look_no lawU8 Tryz.underlying81 (zeroF w5) hF5.out.1 hF5.out.2 67 Tryz.underlying5); clear hb5)
    | (go_at_call 107; refine Calls.mono (KG _ (HE.out.below B5.out)).out ?_; rintro e w6 ⟨t, rfl, ht, hb6⟩; have B6 := Lib.hid (Bl.step B5.out hb6); obtain rfl : t = s := bts_inj (ht.out.trans HF.out.symm); clear hb6))
  go_ret2
  exact ⟨rfl, B6.out⟩
end Go.Proofs.YtmjifmlibgpjiaaGreatDoor
