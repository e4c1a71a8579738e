/- The format 'N'. -/
import Derived.Test.YtmjifmlibgpjiaaGreatDoorDf
namespace Go.Proofs.YtmjifmlibgpjiaaGreatDoor
open Go.RowKit Go.Shelf Tx
set_option linter.unusedVariables false
set_option maxRecDepth 100000

theorem boxC_below {W W' : World} {B : Nat} {t : TypeId} {cs : Array Value} (h : BoxC W B t cs) (hb : Below W.heap.size W W') : BoxC W' B t cs := h.below hb h.lt
theorem itoaS (k : Nat) (w : World) (hk : k < 100) : Calls Tryz.prog 121 #[.int .i64 (k : Int)] w fun e w' => ∃ t : ByteArray, e = .returned (.string t) ∧ Hid (bts t = Lib.decDigits k) ∧ w = w' := by
  refine (Tryz.strconv_Itoa_small k hk w).mono ?_
  rintro e w' ⟨rfl, rfl⟩
  exact ⟨_, rfl, Lib.hid (bts_mk _), rfl⟩
namespace Tx
def normL (y m k : Nat) : List UInt8 := Lib.decDigits k ++ [32] ++ (monN m).take 3 ++ [32] ++ padd y 4
theorem monN_len : ∀ m, 1 ≤ m → m ≤ 12 → 3 ≤ (monN m).length ∧ (monN m).length ≤ 9 := by
  intro m h1 h2
  match m, h1, h2 with
  | 1, _, _ | 2, _, _ | 3, _, _ | 4, _, _ | 5, _, _ | 6, _, _ | 7, _, _ | 8, _, _ | 9, _, _ | 10, _, _ | 11, _, _ | 12, _, _ => decide
end Tx
set_option maxHeartbeats 16000000 in
theorem normal_any (y m k : Nat) (w : World) (hy : y ≤ 9999) (h1 : 1 ≤ m) (hm : m ≤ 12) (hk : k ≤ 31) (hE : Env w) :
    Calls Tryz.prog 93 #[dtV y m k] w (GivesS w (normL y m k)) := by
  have KI := fun W => Lib.hid (itoaS k W (by omega))
  have KM := fun W hW => Lib.hid (month_any y m k W h1 hm hW)
  have KB := fun (s : ByteArray) (W : World) (h3 : 3 ≤ s.size) (h4 : s.size ≤ 1000) => Lib.hid (brief_any s W h3 h4)
  have KF := fun W => Lib.hid (fullYear_any (y : Int) m k W)
  have KJ := fun (W : World) (B : Nat) (hB : BoxC W B 99 #[.int .i64 (y : Int), .int .i64 4]) (hW : Env W) => Lib.hid (joined_any ⟨#[]⟩ B [(y, 4)] W (by simp) (by simp) (by
    intro f hf
    rw [pow19]
    simp at hf
    subst hf; dsimp only; omega) (by decide) (fieldsAt_one y 4 hB) hB.lt hW)
  have hml := monN_len m h1 hm
  have HML := Lib.hid hml
  have HDL := Lib.hid (show (Lib.decDigits k).length ≤ 19 from dd_len (k := 18) (by rw [pow19]; omega))
  have HPL := Lib.hid (show (padd y 4).length ≤ 100 by rw [padd_len]; have : (Lib.decDigits y).length ≤ 19 := dd_len (k := 18) (by rw [pow19]; omega); omega)
  have HE := Lib.hid hE
  unfold dtV at KM ⊢
  clear hE hy hm hk h1 hml
  go_enter Tryz.func93, Tryz.ntmps93
  go_wp2
  obtain ⟨W0, hW0⟩ : ∃ W0, W0 = w.alloc (.cells #[.int .i64 (y : Int), .int .i64 (m : Int), .int .i64 (k : Int)] 70) := ⟨_, rfl⟩
  have bF : BoxC W0 w.heap.size 70 #[.int .i64 (y : Int), .int .i64 (m : Int), .int .i64 (k : Int)] := by rw [hW0]; exact BoxC.new _ _ _
  have HB0 := Lib.hid (show Below w.heap.size w W0 by rw [hW0]; exact Bl.alloc (Below.refl _ w) _)
  have HE0 := Lib.hid (HE.out.below HB0.out)
  rw [← hW0]
  have c0 := bF.cell (i := 0) rfl
  have c1 := bF.cell (i := 1) rfl
  have c2 := bF.cell (i := 2) rfl
  have hlt := bF.lt
  have hS := Lib.hid (show ∀ W, Below W0.heap.size W0 W → W.cell? ⟨w.heap.size, 0, none⟩ = some (.int .i64 (y : Int)) ∧ W.cell? ⟨w.heap.size, 1, none⟩ = some (.int .i64 (m : Int)) ∧ W.cell? ⟨w.heap.size, 2, none⟩ = some (.int .i64 (k : Int)) from fun W hb => ⟨(bF.below hb hlt).cell (i := 0) rfl, (bF.below hb hlt).cell (i := 1) rfl, (bF.below hb hlt).cell (i := 2) rfl⟩)
  clear hW0 bF
  go_region_held3 (fun w' => w'.cell? ⟨w.heap.size, 0, none⟩ = some (.int .i64 (y : Int)) ∧ w'.cell? ⟨w.heap.size, 1, none⟩ = some (.int .i64 (m : Int)) ∧ w'.cell? ⟨w.heap.size, 2, none⟩ = some (.int .i64 (k : Int)))
    (first | exact ⟨c0, c1, c2⟩ | exact hS.out _ (by repeat (first | exact Below.refl _ _ | exact BM.out | exact BJ.out | refine Bl.alloc ?_ _ | refine Bl.drew ?_)))
    (first
      | (go_at_call 121; refine Calls.mono (KI _).out ?_; rintro e w1 ⟨t1, rfl, ht1, rfl⟩; have HT1 := Lib.hid (show t1.size ≤ 19 by have := HDL.out; rw [← ht1.out, bts_length] at this; exact this); have z1 : ¬ 9223372036854775807 < t1.size + 1 := (by have := HT1.out; omega); (first | have z2 : ¬ 9223372036854775807 < t1.size + 1 + u.size := (by have a := HT1.out; have b := HU.out; omega) | skip); (first | have z3 : ¬ 9223372036854775807 < t1.size + 1 + u.size + 1 := (by have a := HT1.out; have b := HU.out; omega) | skip); (first | have z4 : ¬ 9223372036854775807 < t1.size + 1 + u.size + 1 + j.size := (by have a := HT1.out; have b := HU.out; have c := HJ.out; omega) | skip))
      | (go_at_call 92; refine Calls.mono (KM _ (HE0.out.below (by repeat (first | exact Below.refl _ _ | exact BM.out | exact BJ.out | refine Bl.alloc ?_ _ | refine Bl.drew ?_)))).out ?_; rintro e w3 ⟨t2, rfl, ht2, hb3⟩; have BM := Lib.hid (Bl.step (show Below W0.heap.size W0 _ from by repeat (first | exact Below.refl _ _ | exact BM.out | exact BJ.out | refine Bl.alloc ?_ _ | refine Bl.drew ?_)) hb3); have hm9 := Lib.hid hb3; have hz2 : 3 ≤ t2.size ∧ t2.size ≤ 9 := (by have := HML.out; rw [← ht2.out, bts_length] at this; exact this); have HZ2 := Lib.hid hz2; clear hb3 hz2)
      | (go_at_call 129; refine Calls.mono (KB t2 _ HZ2.out.1 (by have := HZ2.out.2; omega)).out ?_; rintro e w4 ⟨u, rfl, hu, rfl⟩; have HU := Lib.hid (show u.size ≤ 3 by have q := congrArg List.length hu.out; rw [bts_length, List.length_take] at q; omega); (first | have z2 : ¬ 9223372036854775807 < t1.size + 1 + u.size := (by have a := HT1.out; have b := HU.out; omega) | skip); (first | have z3 : ¬ 9223372036854775807 < t1.size + 1 + u.size + 1 := (by have a := HT1.out; have b := HU.out; omega) | skip); (first | have z4 : ¬ 9223372036854775807 < t1.size + 1 + u.size + 1 + j.size := (by have a := HT1.out; have b := HU.out; have c := HJ.out; omega) | skip))
      | (go_at_call 130; refine Calls.mono (KF _).out ?_; rintro e w5 ⟨rfl, rfl⟩)
      | (go_at_call 79; refine Calls.mono (KJ _ _ (by repeat (first | exact BoxC.newAt (by simp) | refine BoxC.drew ?_ | refine BoxC.alloc ?_ _ | refine boxC_below ?_ hm9.out)) (HE0.out.below (by repeat (first | exact Below.refl _ _ | exact BM.out | exact BJ.out | refine Bl.alloc ?_ _ | refine Bl.drew ?_)))).out ?_; rintro e w6 ⟨j, rfl, hj, hb6⟩; have BJ := Lib.hid (Bl.step (show Below W0.heap.size W0 _ from by repeat (first | exact Below.refl _ _ | exact BM.out | exact BJ.out | refine Bl.alloc ?_ _ | refine Bl.drew ?_)) hb6); have HJ := Lib.hid (show j.size ≤ 100 by have q := congrArg List.length hj.out; rw [bts_length] at q; have r := HPL.out; simp [Lib.join_one, fldL] at q; omega); (first | have z2 : ¬ 9223372036854775807 < t1.size + 1 + u.size := (by have a := HT1.out; have b := HU.out; omega) | skip); (first | have z3 : ¬ 9223372036854775807 < t1.size + 1 + u.size + 1 := (by have a := HT1.out; have b := HU.out; omega) | skip); (first | have z4 : ¬ 9223372036854775807 < t1.size + 1 + u.size + 1 + j.size := (by have a := HT1.out; have b := HU.out; have c := HJ.out; omega) | skip); clear hb6))
  all_goals
    go_wp2
    go_ret
    refine ⟨_, rfl, Lib.hid ?_, HB0.out.trans (Below.mono (by repeat (first | exact Below.refl _ _ | exact BM.out | exact BJ.out | refine Bl.alloc ?_ _ | refine Bl.drew ?_)) HB0.out.size)⟩
    rw [bts_append, bts_append, bts_append, bts_append, ht1.out, hu.out, ht2.out, hj.out]
    simp [normL, Lib.join_one, fldL, bts]
end Go.Proofs.YtmjifmlibgpjiaaGreatDoor
