/- The readers of times, at any text. -/
import Derived.Test.YtmjifmlibgpjiaaGreatDoorGc
namespace Go.Proofs.YtmjifmlibgpjiaaGreatDoor
open Go.RowKit Go.Shelf Tx Go.Maps
set_option linter.unusedVariables false
set_option maxRecDepth 100000

/-- What a reader gives. -/
def GivesO (w : World) (o : Option Nat) (e : Ending) (w' : World) : Prop := e = .returned (.tuple #[.int .i64 (optV o), .bool o.isSome]) ∧ Below w.heap.size w w'
theorem cntR_le {us : List Nat} {l : List UInt8} {t : Nat} (h : cntR us l = some t) : t ≤ 86399999999 := by
  unfold cntR at h
  split at h
  · split at h
    · cases h; assumption
    · cases h
  · cases h
namespace Tx
/-- Which half of the day a text names. -/
def halfV (l : List UInt8) : Int := if Lib.hasSuffix l [97, 109] then 0 else if Lib.hasSuffix l [112, 109] then 1 else -1
/-- The time of a text with a half of the day. -/
def civR (l : List UInt8) : Option Nat := match cntR [3600000000, 60000000] l with
  | some t => if halfV l = 0 then some (t % 43200000000) else if halfV l = 1 then some (t % 43200000000 + 43200000000) else none
  | none => none
end Tx
theorem civR_le {l : List UInt8} {t : Nat} (h : civR l = some t) : t ≤ 86399999999 := by
  unfold civR at h
  split at h
  · split at h
    · cases h; omega
    · split at h
      · cases h; omega
      · cases h
  · cases h
set_option maxHeartbeats 1000000 in
theorem t_fine_any (s : ByteArray) (w : World) (hs : s.size ≤ 1000000) : Calls Tryz.prog 115 #[.string s] w (GivesO w (cntR [1] (bts s))) := by
  have KC := fun (W : World) (q : Nat) (hq : BoxC W q 3 #[.int .i64 1]) => Lib.hid (counted_any [1] 1 q s W hs rfl (by decide) (by simp) (by simpa [rowU] using hq))
  obtain ⟨R, hR⟩ : ∃ R, R = cntR [1] (bts s) := ⟨_, rfl⟩
  rw [← hR] at KC ⊢
  clear hR hs
  go_enter Tryz.func115, Tryz.ntmps115
  go_wp2_with (go_at_call 144; refine Calls.mono (KC _ _ (by repeat (first | exact BoxC.newAt (by simp) | refine BoxC.drew ?_ | refine BoxC.alloc ?_ _))).out ?_; rintro e w7 ⟨rfl, hb7⟩; have B7 := Lib.hid (Bl.step (show Below w.heap.size w _ from by repeat (first | exact Below.refl _ _ | refine Bl.alloc ?_ _ | refine Bl.drew ?_)) hb7); clear hb7)
  go_ret2
  exact ⟨rfl, B7.out⟩
set_option maxHeartbeats 1000000 in
theorem t_hours_any (s : ByteArray) (w : World) (hs : s.size ≤ 1000000) : Calls Tryz.prog 116 #[.string s] w (GivesO w (cntR [3600000000] (bts s))) := by
  have KC := fun (W : World) (q : Nat) (hq : BoxC W q 3 #[.int .i64 3600000000]) => Lib.hid (counted_any [3600000000] 1 q s W hs rfl (by decide) (by simp) (by simpa [rowU] using hq))
  obtain ⟨R, hR⟩ : ∃ R, R = cntR [3600000000] (bts s) := ⟨_, rfl⟩
  rw [← hR] at KC ⊢
  clear hR hs
  go_enter Tryz.func116, Tryz.ntmps116
  go_wp2_with (go_at_call 144; refine Calls.mono (KC _ _ (by repeat (first | exact BoxC.newAt (by simp) | refine BoxC.drew ?_ | refine BoxC.alloc ?_ _))).out ?_; rintro e w7 ⟨rfl, hb7⟩; have B7 := Lib.hid (Bl.step (show Below w.heap.size w _ from by repeat (first | exact Below.refl _ _ | refine Bl.alloc ?_ _ | refine Bl.drew ?_)) hb7); clear hb7)
  go_ret2
  exact ⟨rfl, B7.out⟩
set_option maxHeartbeats 1000000 in
theorem t_minutes_any (s : ByteArray) (w : World) (hs : s.size ≤ 1000000) : Calls Tryz.prog 118 #[.string s] w (GivesO w (cntR [60000000] (bts s))) := by
  have KC := fun (W : World) (q : Nat) (hq : BoxC W q 3 #[.int .i64 60000000]) => Lib.hid (counted_any [60000000] 1 q s W hs rfl (by decide) (by simp) (by simpa [rowU] using hq))
  obtain ⟨R, hR⟩ : ∃ R, R = cntR [60000000] (bts s) := ⟨_, rfl⟩
  rw [← hR] at KC ⊢
  clear hR hs
  go_enter Tryz.func118, Tryz.ntmps118
  go_wp2_with (go_at_call 144; refine Calls.mono (KC _ _ (by repeat (first | exact BoxC.newAt (by simp) | refine BoxC.drew ?_ | refine BoxC.alloc ?_ _))).out ?_; rintro e w7 ⟨rfl, hb7⟩; have B7 := Lib.hid (Bl.step (show Below w.heap.size w _ from by repeat (first | exact Below.refl _ _ | refine Bl.alloc ?_ _ | refine Bl.drew ?_)) hb7); clear hb7)
  go_ret2
  exact ⟨rfl, B7.out⟩
set_option maxHeartbeats 1000000 in
theorem t_seconds_any (s : ByteArray) (w : World) (hs : s.size ≤ 1000000) : Calls Tryz.prog 120 #[.string s] w (GivesO w (cntR [1000000] (bts s))) := by
  have KC := fun (W : World) (q : Nat) (hq : BoxC W q 3 #[.int .i64 1000000]) => Lib.hid (counted_any [1000000] 1 q s W hs rfl (by decide) (by simp) (by simpa [rowU] using hq))
  obtain ⟨R, hR⟩ : ∃ R, R = cntR [1000000] (bts s) := ⟨_, rfl⟩
  rw [← hR] at KC ⊢
  clear hR hs
  go_enter Tryz.func120, Tryz.ntmps120
  go_wp2_with (go_at_call 144; refine Calls.mono (KC _ _ (by repeat (first | exact BoxC.newAt (by simp) | refine BoxC.drew ?_ | refine BoxC.alloc ?_ _))).out ?_; rintro e w7 ⟨rfl, hb7⟩; have B7 := Lib.hid (Bl.step (show Below w.heap.size w _ from by repeat (first | exact Below.refl _ _ | refine Bl.alloc ?_ _ | refine Bl.drew ?_)) hb7); clear hb7)
  go_ret2
  exact ⟨rfl, B7.out⟩
set_option maxHeartbeats 1000000 in
theorem t_normal_any (s : ByteArray) (w : World) (hs : s.size ≤ 1000000) : Calls Tryz.prog 119 #[.string s] w (GivesO w (cntR [3600000000, 60000000, 1000000] (bts s))) := by
  have KC := fun (W : World) (q : Nat) (hq : BoxC W q 3 #[.int .i64 3600000000, .int .i64 60000000, .int .i64 1000000]) => Lib.hid (counted_any [3600000000, 60000000, 1000000] 3 q s W hs rfl (by decide) (by simp) (by simpa [rowU] using hq))
  obtain ⟨R, hR⟩ : ∃ R, R = cntR [3600000000, 60000000, 1000000] (bts s) := ⟨_, rfl⟩
  rw [← hR] at KC ⊢
  clear hR hs
  go_enter Tryz.func119, Tryz.ntmps119
  go_wp2_with (go_at_call 144; refine Calls.mono (KC _ _ (by repeat (first | exact BoxC.newAt (by simp) | refine BoxC.drew ?_ | refine BoxC.alloc ?_ _))).out ?_; rintro e w7 ⟨rfl, hb7⟩; have B7 := Lib.hid (Bl.step (show Below w.heap.size w _ from by repeat (first | exact Below.refl _ _ | refine Bl.alloc ?_ _ | refine Bl.drew ?_)) hb7); clear hb7)
  go_ret2
  exact ⟨rfl, B7.out⟩
set_option maxHeartbeats 1000000 in
theorem t_long_any (s : ByteArray) (w : World) (hs : s.size ≤ 1000000) : Calls Tryz.prog 117 #[.string s] w (GivesO w (cntR [3600000000, 60000000, 1000000, 1] (bts s))) := by
  have KC := fun (W : World) (q : Nat) (hq : BoxC W q 3 #[.int .i64 3600000000, .int .i64 60000000, .int .i64 1000000, .int .i64 1]) => Lib.hid (counted_any [3600000000, 60000000, 1000000, 1] 4 q s W hs rfl (by decide) (by simp) (by simpa [rowU] using hq))
  obtain ⟨R, hR⟩ : ∃ R, R = cntR [3600000000, 60000000, 1000000, 1] (bts s) := ⟨_, rfl⟩
  rw [← hR] at KC ⊢
  clear hR hs
  go_enter Tryz.func117, Tryz.ntmps117
  go_wp2_with (go_at_call 144; refine Calls.mono (KC _ _ (by repeat (first | exact BoxC.newAt (by simp) | refine BoxC.drew ?_ | refine BoxC.alloc ?_ _))).out ?_; rintro e w7 ⟨rfl, hb7⟩; have B7 := Lib.hid (Bl.step (show Below w.heap.size w _ from by repeat (first | exact Below.refl _ _ | refine Bl.alloc ?_ _ | refine Bl.drew ?_)) hb7); clear hb7)
  go_ret2
  exact ⟨rfl, B7.out⟩
set_option maxHeartbeats 1000000 in
theorem find9_any (s : ByteArray) (b q : Nat) (w : World) (hs : s.size ≤ 1000000) (hb : w.cell? ⟨b, 0, none⟩ = some (.string s)) (hq : BoxC w q 9 #[.string ⟨#[97, 109]⟩, .string ⟨#[112, 109]⟩]) (ha : Lib.hasSuffix (bts s) [97, 109] = false) (hp : Lib.hasSuffix (bts s) [112, 109] = false) :
    Calls Tryz.prog 135 #[.slice (some ⟨q, 0, none⟩) 2 2, .func (.func 142) #[] #[.pointer (some ⟨b, 0, none⟩)]] w fun e w' => e = .returned (.int .i64 (-1)) ∧ w = w' := by
  have q0 := hq.cell (i := 0) rfl
  have q1 := hq.cell (i := 1) rfl
  have KA := Lib.hid (civil1_any s ⟨#[97, 109]⟩ b w hs hb)
  have KB := Lib.hid (civil1_any s ⟨#[112, 109]⟩ b w hs hb)
  rw [show bts (ByteArray.mk #[97, 109]) = [97, 109] from rfl, ha] at KA
  rw [show bts (ByteArray.mk #[112, 109]) = [112, 109] from rfl, hp] at KB
  clear hq hs hb ha hp
  go_enter Tryz.func135, Tryz.ntmps135
  go_wp2
  refine wp_loop_rounds 3 ?_
  rw [rounds_succ]
  go_wp2_with (go_at_call 142; refine Calls.mono KA.out ?_; rintro e w1 ⟨rfl, rfl⟩)
  rw [rounds_succ]
  go_wp2_with (go_at_call 142; refine Calls.mono KB.out ?_; rintro e w1 ⟨rfl, rfl⟩)
  rw [rounds_succ]
  go_wp2
  go_ret
  exact ⟨rfl, rfl⟩
theorem findH_any (s : ByteArray) (b q : Nat) (w : World) (hs : s.size ≤ 1000000) (hb : w.cell? ⟨b, 0, none⟩ = some (.string s)) (hq : BoxC w q 9 #[.string ⟨#[97, 109]⟩, .string ⟨#[112, 109]⟩]) :
    Calls Tryz.prog 135 #[.slice (some ⟨q, 0, none⟩) 2 2, .func (.func 142) #[] #[.pointer (some ⟨b, 0, none⟩)]] w fun e w' => e = .returned (.int .i64 (halfV (bts s))) ∧ w = w' := by
  unfold halfV
  cases ha : Lib.hasSuffix (bts s) [97, 109] with
  | true => exact find0_any s b q w hs hb hq ha
  | false =>
    cases hp : Lib.hasSuffix (bts s) [112, 109] with
    | true => exact find1_any s b q w hs hb hq ha hp
    | false => exact find9_any s b q w hs hb hq ha hp
set_option maxHeartbeats 2000000 in
theorem civ_none (s : ByteArray) (w : World)  (hs : s.size ≤ 1000000) (hC : cntR [3600000000, 60000000] (bts s) = none)  :
    Calls Tryz.prog 114 #[.string s] w fun e w' => e = .returned (.tuple #[.int .i64 0, .bool false]) ∧ Below w.heap.size w w' := by
  have hmf : ∀ (fn : Fn) (first cap : Array Value) (w : World), (Instr.makeFunc fn first cap).run Tryz.prog w = .ok (.func fn first cap) w := fun _ _ _ _ => rfl
  have KC := fun (W : World) (q : Nat) (hq : BoxC W q 3 #[.int .i64 3600000000, .int .i64 60000000]) => Lib.hid (counted_any [3600000000, 60000000] 2 q s W hs rfl (by decide) (by simp) (by simpa [rowU] using hq))
  have KF := fun (W : World) (p q : Nat) (hp2 : W.cell? ⟨p, 0, none⟩ = some (.string s)) (hq : BoxC W q 9 #[.string ⟨#[97, 109]⟩, .string ⟨#[112, 109]⟩]) => Lib.hid (findH_any s p q W hs hp2 hq)
  rw [hC] at KC
  dsimp only [optV, Option.isSome] at KC
  obtain ⟨h, hh⟩ : ∃ h, h = halfV (bts s) := ⟨_, rfl⟩
  rw [← hh] at KF
  clear hs hC hh
  go_enter Tryz.func114, Tryz.ntmps114
  go_wp2_with (first
    | (go_at_call 141; refine Calls.mono (halves_any _) ?_; rintro e w5 ⟨rfl, rfl⟩)
    | (go_at_call 135; refine Calls.mono (KF _ _ _ (by simp) (by repeat (first | exact BoxC.newAt (by simp) | refine BoxC.drew ?_ | refine BoxC.alloc ?_ _))).out ?_; rintro e w6 ⟨rfl, rfl⟩)
    | (go_at_call 144; refine Calls.mono (KC _ _ (by repeat (first | exact BoxC.newAt (by simp) | refine BoxC.drew ?_ | refine BoxC.alloc ?_ _))).out ?_; rintro e w7 ⟨rfl, hb7⟩; have B7 := Lib.hid (Bl.step (show Below w.heap.size w _ from by repeat (first | exact Below.refl _ _ | refine Bl.alloc ?_ _ | refine Bl.drew ?_)) hb7); clear hb7))
  go_ret2
  exact ⟨by first | rfl | simp [*], B7.out⟩
set_option maxHeartbeats 2000000 in
theorem civ_half (s : ByteArray) (w : World) (t : Nat) (hs : s.size ≤ 1000000) (hC : cntR [3600000000, 60000000] (bts s) = some t) (hh : halfV (bts s) = -1) :
    Calls Tryz.prog 114 #[.string s] w fun e w' => e = .returned (.tuple #[.int .i64 0, .bool false]) ∧ Below w.heap.size w w' := by
  have hmf : ∀ (fn : Fn) (first cap : Array Value) (w : World), (Instr.makeFunc fn first cap).run Tryz.prog w = .ok (.func fn first cap) w := fun _ _ _ _ => rfl
  have KC := fun (W : World) (q : Nat) (hq : BoxC W q 3 #[.int .i64 3600000000, .int .i64 60000000]) => Lib.hid (counted_any [3600000000, 60000000] 2 q s W hs rfl (by decide) (by simp) (by simpa [rowU] using hq))
  have KF := fun (W : World) (p q : Nat) (hp2 : W.cell? ⟨p, 0, none⟩ = some (.string s)) (hq : BoxC W q 9 #[.string ⟨#[97, 109]⟩, .string ⟨#[112, 109]⟩]) => Lib.hid (findH_any s p q W hs hp2 hq)
  rw [hC] at KC
  dsimp only [optV, Option.isSome] at KC
  rw [hh] at KF
  clear hs hC hh
  go_enter Tryz.func114, Tryz.ntmps114
  go_wp2_with (first
    | (go_at_call 141; refine Calls.mono (halves_any _) ?_; rintro e w5 ⟨rfl, rfl⟩)
    | (go_at_call 135; refine Calls.mono (KF _ _ _ (by simp) (by repeat (first | exact BoxC.newAt (by simp) | refine BoxC.drew ?_ | refine BoxC.alloc ?_ _))).out ?_; rintro e w6 ⟨rfl, rfl⟩)
    | (go_at_call 144; refine Calls.mono (KC _ _ (by repeat (first | exact BoxC.newAt (by simp) | refine BoxC.drew ?_ | refine BoxC.alloc ?_ _))).out ?_; rintro e w7 ⟨rfl, hb7⟩; have B7 := Lib.hid (Bl.step (show Below w.heap.size w _ from by repeat (first | exact Below.refl _ _ | refine Bl.alloc ?_ _ | refine Bl.drew ?_)) hb7); clear hb7))
  go_ret2
  exact ⟨by first | rfl | simp [*], B7.out⟩
set_option maxHeartbeats 2000000 in
theorem civ_am (s : ByteArray) (w : World) (t : Nat) (hs : s.size ≤ 1000000) (hC : cntR [3600000000, 60000000] (bts s) = some t) (hh : halfV (bts s) = 0) :
    Calls Tryz.prog 114 #[.string s] w fun e w' => e = .returned (.tuple #[.int .i64 ((t % 43200000000 : Nat) : Int), .bool true]) ∧ Below w.heap.size w w' := by
  have hmf : ∀ (fn : Fn) (first cap : Array Value) (w : World), (Instr.makeFunc fn first cap).run Tryz.prog w = .ok (.func fn first cap) w := fun _ _ _ _ => rfl
  have KC := fun (W : World) (q : Nat) (hq : BoxC W q 3 #[.int .i64 3600000000, .int .i64 60000000]) => Lib.hid (counted_any [3600000000, 60000000] 2 q s W hs rfl (by decide) (by simp) (by simpa [rowU] using hq))
  have KF := fun (W : World) (p q : Nat) (hp2 : W.cell? ⟨p, 0, none⟩ = some (.string s)) (hq : BoxC W q 9 #[.string ⟨#[97, 109]⟩, .string ⟨#[112, 109]⟩]) => Lib.hid (findH_any s p q W hs hp2 hq)
  rw [hC] at KC
  dsimp only [optV, Option.isSome] at KC
  rw [hh] at KF
  obtain ⟨r, hr⟩ : ∃ r, r = t % 43200000000 := ⟨_, rfl⟩
  have e1 : (t : Int) % 43200000000 = (r : Int) := by omega
  have e2 : (t : Int).tmod 43200000000 = (r : Int) := by rw [Int.tmod_eq_emod_of_nonneg (Int.natCast_nonneg t)]; exact e1
  have e3 : IntKind.i64.wrap (r : Int) = (r : Int) := i64i' (by omega) (by omega)
  have e4 : wrap64 (r : Int) = (r : Int) := w64 (by omega) (by omega)
  have e5 : IntKind.i64.wrap ((r : Int) + 43200000000) = (r : Int) + 43200000000 := i64i' (by omega) (by omega)
  have e6 : wrap64 ((r : Int) + 43200000000) = (r : Int) + 43200000000 := w64 (by omega) (by omega)
  have e7 : (r : Int) + 0 = (r : Int) := Int.add_zero _
  rw [← hr]
  clear hs hC hh hr
  go_enter Tryz.func114, Tryz.ntmps114
  go_wp2_with (first
    | (go_at_call 141; refine Calls.mono (halves_any _) ?_; rintro e w5 ⟨rfl, rfl⟩)
    | (go_at_call 135; refine Calls.mono (KF _ _ _ (by simp) (by repeat (first | exact BoxC.newAt (by simp) | refine BoxC.drew ?_ | refine BoxC.alloc ?_ _))).out ?_; rintro e w6 ⟨rfl, rfl⟩)
    | (go_at_call 144; refine Calls.mono (KC _ _ (by repeat (first | exact BoxC.newAt (by simp) | refine BoxC.drew ?_ | refine BoxC.alloc ?_ _))).out ?_; rintro e w7 ⟨rfl, hb7⟩; have B7 := Lib.hid (Bl.step (show Below w.heap.size w _ from by repeat (first | exact Below.refl _ _ | refine Bl.alloc ?_ _ | refine Bl.drew ?_)) hb7); clear hb7))
  go_ret2
  exact ⟨by first | rfl | simp [*], B7.out⟩
set_option maxHeartbeats 2000000 in
theorem civ_pm (s : ByteArray) (w : World) (t : Nat) (hs : s.size ≤ 1000000) (hC : cntR [3600000000, 60000000] (bts s) = some t) (hh : halfV (bts s) = 1) :
    Calls Tryz.prog 114 #[.string s] w fun e w' => e = .returned (.tuple #[.int .i64 (((t % 43200000000 : Nat) : Int) + 43200000000), .bool true]) ∧ Below w.heap.size w w' := by
  have hmf : ∀ (fn : Fn) (first cap : Array Value) (w : World), (Instr.makeFunc fn first cap).run Tryz.prog w = .ok (.func fn first cap) w := fun _ _ _ _ => rfl
  have KC := fun (W : World) (q : Nat) (hq : BoxC W q 3 #[.int .i64 3600000000, .int .i64 60000000]) => Lib.hid (counted_any [3600000000, 60000000] 2 q s W hs rfl (by decide) (by simp) (by simpa [rowU] using hq))
  have KF := fun (W : World) (p q : Nat) (hp2 : W.cell? ⟨p, 0, none⟩ = some (.string s)) (hq : BoxC W q 9 #[.string ⟨#[97, 109]⟩, .string ⟨#[112, 109]⟩]) => Lib.hid (findH_any s p q W hs hp2 hq)
  rw [hC] at KC
  dsimp only [optV, Option.isSome] at KC
  rw [hh] at KF
  obtain ⟨r, hr⟩ : ∃ r, r = t % 43200000000 := ⟨_, rfl⟩
  have e1 : (t : Int) % 43200000000 = (r : Int) := by omega
  have e2 : (t : Int).tmod 43200000000 = (r : Int) := by rw [Int.tmod_eq_emod_of_nonneg (Int.natCast_nonneg t)]; exact e1
  have e3 : IntKind.i64.wrap (r : Int) = (r : Int) := i64i' (by omega) (by omega)
  have e4 : wrap64 (r : Int) = (r : Int) := w64 (by omega) (by omega)
  have e5 : IntKind.i64.wrap ((r : Int) + 43200000000) = (r : Int) + 43200000000 := i64i' (by omega) (by omega)
  have e6 : wrap64 ((r : Int) + 43200000000) = (r : Int) + 43200000000 := w64 (by omega) (by omega)
  have e7 : (r : Int) + 0 = (r : Int) := Int.add_zero _
  rw [← hr]
  clear hs hC hh hr
  go_enter Tryz.func114, Tryz.ntmps114
  go_wp2_with (first
    | (go_at_call 141; refine Calls.mono (halves_any _) ?_; rintro e w5 ⟨rfl, rfl⟩)
    | (go_at_call 135; refine Calls.mono (KF _ _ _ (by simp) (by repeat (first | exact BoxC.newAt (by simp) | refine BoxC.drew ?_ | refine BoxC.alloc ?_ _))).out ?_; rintro e w6 ⟨rfl, rfl⟩)
    | (go_at_call 144; refine Calls.mono (KC _ _ (by repeat (first | exact BoxC.newAt (by simp) | refine BoxC.drew ?_ | refine BoxC.alloc ?_ _))).out ?_; rintro e w7 ⟨rfl, hb7⟩; have B7 := Lib.hid (Bl.step (show Below w.heap.size w _ from by repeat (first | exact Below.refl _ _ | refine Bl.alloc ?_ _ | refine Bl.drew ?_)) hb7); clear hb7))
  go_ret2
  exact ⟨by first | rfl | simp [*], B7.out⟩
theorem t_civil_any (s : ByteArray) (w : World) (hs : s.size ≤ 1000000) : Calls Tryz.prog 114 #[.string s] w (GivesO w (civR (bts s))) := by
  cases hC : cntR [3600000000, 60000000] (bts s) with
  | none =>
    have e : civR (bts s) = none := by unfold civR; rw [hC]
    rw [e]
    exact civ_none s w hs hC
  | some t =>
    by_cases h0 : halfV (bts s) = 0
    · have e : civR (bts s) = some (t % 43200000000) := by unfold civR; rw [hC]; simp [h0]
      rw [e]
      exact civ_am s w t hs hC h0
    · by_cases h1 : halfV (bts s) = 1
      · have e : civR (bts s) = some (t % 43200000000 + 43200000000) := by unfold civR; rw [hC]; simp [h1]
        rw [e]
        refine (civ_pm s w t hs hC h1).mono ?_
        rintro e' w' ⟨rfl, hb⟩
        exact ⟨by simp [optV], hb⟩
      · have hm : halfV (bts s) = -1 := by
          have q : halfV (bts s) = 0 ∨ halfV (bts s) = 1 ∨ halfV (bts s) = -1 := by
            unfold halfV
            split
            · exact .inl rfl
            · split
              · exact .inr (.inl rfl)
              · exact .inr (.inr rfl)
          rcases q with q | q | q
          · exact absurd q h0
          · exact absurd q h1
          · exact q
        have e : civR (bts s) = none := by unfold civR; rw [hC]; simp [hm]
        rw [e]
        exact civ_half s w t hs hC hm
end Go.Proofs.YtmjifmlibgpjiaaGreatDoor
