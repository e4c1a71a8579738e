/- Times with halves of the day, read. -/
import Derived.Test.YtmjifmlibgpjiaaGreatDoorDp
namespace Go.Proofs.YtmjifmlibgpjiaaGreatDoor
open Go.RowKit Go.Shelf Tx Go.Maps
set_option linter.unusedVariables false
set_option maxRecDepth 100000

set_option maxHeartbeats 400000 in
theorem civil1_any (s p : ByteArray) (b : Nat) (w : World) (hs : s.size ≤ 1000000) (hb : w.cell? ⟨b, 0, none⟩ = some (.string s)) :
    Calls Tryz.prog 142 #[.string p, .pointer (some ⟨b, 0, none⟩)] w fun e w' => e = .returned (.bool (Lib.hasSuffix (bts s) (bts p))) ∧ w = w' := by
  have K := fun W => Lib.hid (Tryz.strings_HasSuffix s p W (by omega))
  go_enter Tryz.func142, Tryz.ntmps142
  go_wp2_with (go_at_call 143; refine Calls.mono (K _).out ?_; rintro e w1 ⟨rfl, rfl⟩)
  go_ret
  exact ⟨rfl, rfl⟩
set_option maxHeartbeats 1000000 in
theorem find0_any (s : ByteArray) (b q : Nat) (w : World) (hs : s.size ≤ 1000000) (hb : w.cell? ⟨b, 0, none⟩ = some (.string s)) (hq : BoxC w q 9 #[.string ⟨#[97, 109]⟩, .string ⟨#[112, 109]⟩]) (ha : Lib.hasSuffix (bts s) [97, 109] = true) :
    Calls Tryz.prog 135 #[.slice (some ⟨q, 0, none⟩) 2 2, .func (.func 142) #[] #[.pointer (some ⟨b, 0, none⟩)]] w fun e w' => e = .returned (.int .i64 0) ∧ w = w' := by
  have q0 := hq.cell (i := 0) rfl
  have q1 := hq.cell (i := 1) rfl
  have KA := Lib.hid (civil1_any s ⟨#[97, 109]⟩ b w hs hb)
  have KB := Lib.hid (civil1_any s ⟨#[112, 109]⟩ b w hs hb)
  rw [show bts (ByteArray.mk #[97, 109]) = [97, 109] from rfl, ha] at KA
  rw [show bts (ByteArray.mk #[112, 109]) = [112, 109] from rfl] at KB
  clear hq hs hb ha
  go_enter Tryz.func135, Tryz.ntmps135
  go_wp2
  refine wp_loop_rounds 3 ?_
  rw [rounds_succ]
  go_wp2_with (go_at_call 142; refine Calls.mono KA.out ?_; rintro e w1 ⟨rfl, rfl⟩)
  go_ret
  exact ⟨rfl, rfl⟩
set_option maxHeartbeats 1000000 in
theorem find1_any (s : ByteArray) (b q : Nat) (w : World) (hs : s.size ≤ 1000000) (hb : w.cell? ⟨b, 0, none⟩ = some (.string s)) (hq : BoxC w q 9 #[.string ⟨#[97, 109]⟩, .string ⟨#[112, 109]⟩]) (ha : Lib.hasSuffix (bts s) [97, 109] = false) (hp : Lib.hasSuffix (bts s) [112, 109] = true) :
    Calls Tryz.prog 135 #[.slice (some ⟨q, 0, none⟩) 2 2, .func (.func 142) #[] #[.pointer (some ⟨b, 0, none⟩)]] w fun e w' => e = .returned (.int .i64 1) ∧ w = w' := by
  have q0 := hq.cell (i := 0) rfl
  have q1 := hq.cell (i := 1) rfl
  have KA := Lib.hid (civil1_any s ⟨#[97, 109]⟩ b w hs hb)
  have KB := Lib.hid (civil1_any s ⟨#[112, 109]⟩ b w hs hb)
  rw [show bts (ByteArray.mk #[97, 109]) = [97, 109] from rfl, ha] at KA
  rw [show bts (ByteArray.mk #[112, 109]) = [112, 109] from rfl, hp] at KB
  clear hq hs hb ha hp
  go_enter Tryz.func135, Tryz.ntmps135
  go_wp2
  refine wp_loop_rounds 3 ?_
  rw [rounds_succ]
  go_wp2_with (go_at_call 142; refine Calls.mono KA.out ?_; rintro e w1 ⟨rfl, rfl⟩)
  rw [rounds_succ]
  go_wp2_with (go_at_call 142; refine Calls.mono KB.out ?_; rintro e w1 ⟨rfl, rfl⟩)
  go_ret
  exact ⟨rfl, rfl⟩
theorem cntFacts (a b : Nat) (ha : a ≤ 24) (hb : b ≤ 1440) : IntKind.i64.wrap ((a : Int) * 3600000000) = ((a * 3600000000 : Nat) : Int) ∧ wrap64 ((a : Int) * 3600000000) = ((a * 3600000000 : Nat) : Int) ∧ IntKind.i64.wrap ((a * 3600000000 : Nat) : Int) = ((a * 3600000000 : Nat) : Int) ∧ wrap64 ((a * 3600000000 : Nat) : Int) = ((a * 3600000000 : Nat) : Int) ∧ IntKind.i64.wrap ((b : Int) * 60000000) = ((b * 60000000 : Nat) : Int) ∧ wrap64 ((b : Int) * 60000000) = ((b * 60000000 : Nat) : Int) ∧
    IntKind.i64.wrap (((a * 3600000000 : Nat) : Int) + ((b * 60000000 : Nat) : Int)) = ((a * 3600000000 + b * 60000000 : Nat) : Int) ∧ wrap64 (((a * 3600000000 : Nat) : Int) + ((b * 60000000 : Nat) : Int)) = ((a * 3600000000 + b * 60000000 : Nat) : Int) := by
  have e1 : (a : Int) * 3600000000 = ((a * 3600000000 : Nat) : Int) := by omega
  have e2 : (b : Int) * 60000000 = ((b * 60000000 : Nat) : Int) := by omega
  have e3 : ((a * 3600000000 : Nat) : Int) + ((b * 60000000 : Nat) : Int) = ((a * 3600000000 + b * 60000000 : Nat) : Int) := by omega
  refine ⟨?_, ?_, i64i' (by omega) (by omega), w64 (by omega) (by omega), ?_, ?_, ?_, ?_⟩
  · rw [e1]; exact i64i' (by omega) (by omega)
  · rw [e1]; exact w64 (by omega) (by omega)
  · rw [e2]; exact i64i' (by omega) (by omega)
  · rw [e2]; exact w64 (by omega) (by omega)
  · rw [e3]; exact i64i' (by omega) (by omega)
  · rw [e3]; exact w64 (by omega) (by omega)
set_option maxHeartbeats 4000000 in
theorem counted2_ok (q : Nat) (s : ByteArray) (a b : Nat) (w : World) (hs : s.size ≤ 1000000) (hS : SufOk s) (h1 : num1 (bts s) = (a : Int)) (h2 : num2 (bts s) = (b : Int)) (ha : a ≤ 24) (hb : b ≤ 1440) (ht : a * 3600000000 + b * 60000000 ≤ 86399999999) (hq : BoxC w q 3 #[.int .i64 3600000000, .int .i64 60000000]) :
    Calls Tryz.prog 144 #[.string s, .slice (some ⟨q, 0, none⟩) 2 2] w fun e w' => e = .returned (.tuple #[.int .i64 ((a * 3600000000 + b * 60000000 : Nat) : Int), .bool true]) ∧ Below w.heap.size w w' := by
  have hlt := hq.lt
  have q0 : w.cell? ⟨q, 0, none⟩ = some (.int .i64 3600000000) := hq.cell (i := 0) rfl
  have q1 : w.cell? ⟨q, 1, none⟩ = some (.int .i64 60000000) := hq.cell (i := 1) rfl
  have HQ := Lib.hid hq
  have H1 := Lib.hid h1
  have H2 := Lib.hid h2
  have KR0 := fun W => Lib.hid (inRange_any (a : Int) 0 24 W)
  rw [inR_true (by omega) (by omega)] at KR0
  have KR1 := fun W => Lib.hid (inRange_any (b : Int) 0 1440 W)
  rw [inR_true (by omega) (by omega)] at KR1
  have KT := fun W => Lib.hid (isTime_any ((a * 3600000000 + b * 60000000 : Nat) : Int) W)
  rw [inR_true (by omega) (by omega)] at KT
  have F := Lib.hid (cntFacts a b ha hb)
  obtain ⟨c, hc⟩ : ∃ c, c = a * 3600000000 + b * 60000000 := ⟨_, rfl⟩
  obtain ⟨d, hd⟩ : ∃ d, d = a * 3600000000 := ⟨_, rfl⟩
  obtain ⟨g, hg⟩ : ∃ g, g = b * 60000000 := ⟨_, rfl⟩
  rw [← hd, ← hg] at F hc
  rw [← hd, ← hg, ← hc] at KT ⊢
  rw [← hc] at F
  have bl := Bl.alloc (Below.refl _ w) (.cells #[.string s] 9)
  have bN := BoxC.new w 9 #[.string s]
  obtain ⟨W0, hW0⟩ : ∃ W0, W0 = w.alloc (.cells #[.string s] 9) := ⟨_, rfl⟩
  rw [← hW0] at bl bN
  have K0 := Lib.hid (number_next s w.heap.size W0 hs hS.self bN)
  have K0' : Calls Tryz.prog 155 #[.pointer (some ⟨w.heap.size, 0, none⟩)] W0 fun e w' => ∃ r : ByteArray, e = .returned (.int .i64 (a : Int)) ∧ Hid (bts r = numR (bts s)) ∧ BoxC w' w.heap.size 9 #[.string r] ∧ W0.grownBy w' (some w.heap.size) := by
    refine K0.out.mono ?_
    rintro e w' ⟨r, rfl, hr⟩
    exact ⟨r, by rw [show numV (bts s) = (a : Int) from H1.out], hr⟩
  have K0 := Lib.hid K0'
  have HS := Lib.hid hS
  have HZ := Lib.hid hs
  have HW := Lib.hid hW0
  have HP := Lib.hid bl
  clear hq h1 h2 ha hb ht hs hS hc hd hg bl bN K0' hW0
  obtain ⟨f1, f2, f3, f4, f5, f6, f7, f8⟩ := F.out
  clear F
  go_enter Tryz.func144, Tryz.ntmps144
  go_wp2_with (go_at_call 138; refine Calls.mono (numbersIn_any _ _) ?_; rintro e w9 ⟨rfl, rfl⟩)
  rw [← HW.out]
  have qq := BoxC.below HQ.out HP.out hlt
  have p0 : W0.cell? ⟨q, 0, none⟩ = some (.int .i64 3600000000) := qq.cell (i := 0) rfl
  have p1 : W0.cell? ⟨q, 1, none⟩ = some (.int .i64 60000000) := qq.cell (i := 1) rfl
  clear qq q0 q1
  refine wp_loop_rounds 3 ?_
  rw [rounds_succ]
  go_wp2_with (first
    | (go_at_call 155; refine Calls.mono K0.out ?_; rintro e V1 ⟨r1, rfl, hr1, hN1, hg1⟩; have HN1 := Lib.hid (And.intro hN1 hg1); have Q1 := BoxC.kept (BoxC.below HQ.out HP.out hlt) hg1 (by simp; omega); have t0 : V1.cell? ⟨q, 0, none⟩ = some (.int .i64 3600000000) := Q1.cell (i := 0) rfl; have t1 : V1.cell? ⟨q, 1, none⟩ = some (.int .i64 60000000) := Q1.cell (i := 1) rfl; have HQ1 := Lib.hid Q1; clear hN1 hg1 Q1)
    | (go_at_call 58; refine Calls.mono (KR0 _).out ?_; rintro e w2 ⟨rfl, rfl⟩))
  have hsz1 : r1.size ≤ 1000000 := by have h := HZ.out; have h1 := numR_len (bts s); rw [← hr1.out, bts_length, bts_length] at h1; omega
  have K1 := Lib.hid (number_next r1 w.heap.size V1 hsz1 (SufOk.next HS.out hr1.out).self HN1.out.1)
  have K1' : Calls Tryz.prog 155 #[.pointer (some ⟨w.heap.size, 0, none⟩)] V1 fun e w' => e = .returned (.int .i64 (b : Int)) ∧ V1.grownBy w' (some w.heap.size) := by
    refine K1.out.mono ?_
    rintro e w' ⟨r, rfl, _, _, hg⟩
    exact ⟨by rw [hr1.out, show numV (numR (bts s)) = (b : Int) from H2.out], hg⟩
  have K1 := Lib.hid K1'
  clear hsz1 K1'
  rw [rounds_succ]
  go_wp2_with (first
    | (go_at_call 155; refine Calls.mono K1.out ?_; rintro e V2 ⟨rfl, hg2⟩; have HG2 := Lib.hid hg2; have Q2 := BoxC.kept HQ1.out hg2 (by simp; omega); have u0 : V2.cell? ⟨q, 0, none⟩ = some (.int .i64 3600000000) := Q2.cell (i := 0) rfl; have u1 : V2.cell? ⟨q, 1, none⟩ = some (.int .i64 60000000) := Q2.cell (i := 1) rfl; clear hg2 Q2)
    | (go_at_call 58; refine Calls.mono (KR1 _).out ?_; rintro e w2 ⟨rfl, rfl⟩))
  rw [rounds_succ]
  go_wp2_with (go_at_call 72; refine Calls.mono (KT _).out ?_; rintro e w2 ⟨rfl, rfl⟩)
  go_ret2
  have hb1 := (HP.out).grown HN1.out.2 HP.out.size (fun k hk => by simp at hk; omega)
  exact ⟨rfl, hb1.grown HG2.out hb1.size (fun k hk => by simp at hk; omega)⟩
end Go.Proofs.YtmjifmlibgpjiaaGreatDoor
