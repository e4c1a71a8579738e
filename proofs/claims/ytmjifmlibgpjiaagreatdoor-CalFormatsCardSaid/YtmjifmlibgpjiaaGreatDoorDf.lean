/- The names of a date's month and weekday. -/
import Derived.Test.YtmjifmlibgpjiaaGreatDoorDe
namespace Go.Proofs.YtmjifmlibgpjiaaGreatDoor
open Go.RowKit Go.Shelf Tx
set_option linter.unusedVariables false
set_option maxRecDepth 100000

theorem qFacts (q b : Nat) (hq : q < b) (hb : b ≤ 100) : IntKind.i64.wrap (q : Int) = (q : Int) ∧ wrap64 (q : Int) = (q : Int) ∧ (0 : Int) ≤ (q : Int) ∧ (q : Int) < (b : Int) ∧ IntKind.i64.wrap ((q : Int) + 1 - 1) = (q : Int) := by
  have e : (q : Int) + 1 - 1 = (q : Int) := by omega
  exact ⟨i64i' (by omega) (by omega), w64 (by omega) (by omega), by omega, by omega, by rw [e]; exact i64i' (by omega) (by omega)⟩
set_option maxHeartbeats 4000000 in
theorem month_any (y m k : Nat) (w : World) (h1 : 1 ≤ m) (hm : m ≤ 12) (hE : Env w) :
    Calls Tryz.prog 92 #[dtV y m k] w (GivesS w (monN m)) := by
  obtain ⟨q, rfl⟩ : ∃ q, m = q + 1 := ⟨m - 1, by omega⟩
  have hg : monL[q]? = some (monN (q + 1)) := by
    have h := List.getElem?_eq_getElem (l := monL) (i := q) (by rw [monLen]; omega)
    rw [monN, List.getD_eq_getElem?_getD, Nat.add_sub_cancel, h]; rfl
  obtain ⟨nm, hnm⟩ : ∃ nm, nm = monN (q + 1) := ⟨_, rfl⟩
  rw [← hnm] at hg ⊢
  have KM := fun W hW => Lib.hid (monthNames_any W hW)
  have HG := Lib.hid hg
  have HE := Lib.hid hE
  have s1 : IntKind.i64.wrap (((q + 1 : Nat) : Int) - 1) = (q : Int) := by rw [show ((q + 1 : Nat) : Int) - 1 = (q : Int) by omega]; exact IntWalk.i64_in _ (by omega)
  have s1' : IntKind.i64.wrap ((q : Int) + 1 - 1) = (q : Int) := by rw [show (q : Int) + 1 - 1 = (q : Int) by omega]; exact IntWalk.i64_in _ (by omega)
  have s4 : IntKind.i64.wrap (q : Int) = (q : Int) := IntWalk.i64_in _ (by omega)
  have s4' : wrap64 (q : Int) = (q : Int) := w64 (by omega) (by omega)
  have s2 : (0 : Int) ≤ (q : Int) := by omega
  have s3 : (q : Int) < 12 := by omega
  unfold dtV
  rw [show ((q + 1 : Nat) : Int) = (q : Int) + 1 by omega] at *
  clear hE h1 hm hg hnm
  go_enter Tryz.func92, Tryz.ntmps92
  go_wp2
  obtain ⟨W0, hW0⟩ : ∃ W0, W0 = w.alloc (.cells #[.int .i64 (y : Int), .int .i64 ((q : Int) + 1), .int .i64 (k : Int)] 70) := ⟨_, rfl⟩
  have bF : BoxC W0 w.heap.size 70 #[.int .i64 (y : Int), .int .i64 ((q : Int) + 1), .int .i64 (k : Int)] := by rw [hW0]; exact BoxC.new _ _ _
  have HB0 := Lib.hid (show Below w.heap.size w W0 by rw [hW0]; exact Bl.alloc (Below.refl _ w) _)
  have HE0 := Lib.hid (HE.out.below HB0.out)
  rw [← hW0]
  have c0 := bF.cell (i := 0) rfl
  have c1 := bF.cell (i := 1) rfl
  have c2 := bF.cell (i := 2) rfl
  have hlt := bF.lt
  have hS := Lib.hid (show ∀ W, Below W0.heap.size W0 W → W.cell? ⟨w.heap.size, 0, none⟩ = some (.int .i64 (y : Int)) ∧ W.cell? ⟨w.heap.size, 1, none⟩ = some (.int .i64 ((q : Int) + 1)) ∧ W.cell? ⟨w.heap.size, 2, none⟩ = some (.int .i64 (k : Int)) from fun W hb => ⟨(bF.below hb hlt).cell (i := 0) rfl, (bF.below hb hlt).cell (i := 1) rfl, (bF.below hb hlt).cell (i := 2) rfl⟩)
  clear hW0 bF
  go_region_with (first
    | (go_at_call 128; refine Calls.mono (KM _ (HE0.out.below (by repeat (first | exact Below.refl _ _ | refine Bl.alloc ?_ _ | refine Bl.drew ?_)))).out ?_; rintro e w2 ⟨rfl, hst, hb2⟩; have B2 := Lib.hid (Bl.step (show Below W0.heap.size W0 _ from by repeat (first | exact Below.refl _ _ | refine Bl.alloc ?_ _ | refine Bl.drew ?_)) hb2); have r1 : w2.cell? ⟨W0.heap.size, q, none⟩ = some (.string ⟨nm.toArray⟩) := hst.get HG.out; obtain ⟨e0, e1, e2⟩ := hS.out _ B2.out; clear hst hb2))
  all_goals
    go_wp2
    go_ret
    exact ⟨_, rfl, Lib.hid (bts_mk nm), HB0.out.trans ((below_drewN' B2.out 0).mono HB0.out.size)⟩
theorem strs_below {W W' : World} {B q : Nat} {l : List (List UInt8)} {x : List UInt8} (h : StrsAt W B l) (hb : Below W.heap.size W W') (hx : l[q]? = some x) : W'.cell? ⟨B, q, none⟩ = some (.string ⟨x.toArray⟩) :=
  StrsAt.get (show StrsAt W' B l from BoxC.below h hb (BoxC.lt h)) hx
set_option maxHeartbeats 4000000 in
theorem weekday_any (n y m k : Nat) (w : World) (hd : IsDate n y m k) (h9 : y ≤ 9999) (hE : Env w) :
    Calls Tryz.prog 97 #[dtV y m k] w (GivesS w (dayN (n % 7))) := by
  obtain ⟨p, rfl⟩ : ∃ p, y = p + 1 := ⟨y - 1, by have := hd.y1; omega⟩
  have hdm := dim_pos (p + 1) m
  have hkd := hd.kd
  have KN := fun W => Lib.hid (number_any p m k W h9 hd.m1 hd.m12 hd.k1 (by omega))
  have he := hd.eq
  rw [show p + 1 - 1 = p by omega] at he
  rw [← he] at KN
  have KO := fun W => Lib.hid (weekdayOf_any n W)
  obtain ⟨q, hq⟩ : ∃ q, q = n % 7 := ⟨_, rfl⟩
  have hg : dayL[q]? = some (dayN q) := by
    have h := List.getElem?_eq_getElem (l := dayL) (i := q) (by rw [dayLen, hq]; exact Nat.mod_lt _ (by decide))
    rw [dayN, List.getD_eq_getElem?_getD, h]; rfl
  have QF := Lib.hid (qFacts q 7 (by rw [hq]; exact Nat.mod_lt _ (by decide)) (by decide))
  rw [← hq] at KO ⊢
  obtain ⟨nm, hnm⟩ : ∃ nm, nm = dayN q := ⟨_, rfl⟩
  rw [← hnm] at hg ⊢
  have KM := fun W hW => Lib.hid (weekdayNames_any W hW)
  have HG := Lib.hid hg
  have HE := Lib.hid hE
  unfold dtV
  rw [show ((p + 1 : Nat) : Int) = (p : Int) + 1 from rfl]
  clear hE hd h9 hdm hkd he hq hg hnm
  obtain ⟨s4, s4', s2, s3, s5⟩ := QF.out
  rw [show ((7 : Nat) : Int) = 7 from rfl] at s3
  clear QF
  go_enter Tryz.func97, Tryz.ntmps97
  go_wp2
  obtain ⟨W0, hW0⟩ : ∃ W0, W0 = w.alloc (.cells #[.int .i64 ((p : Int) + 1), .int .i64 (m : Int), .int .i64 (k : Int)] 70) := ⟨_, rfl⟩
  have bF : BoxC W0 w.heap.size 70 #[.int .i64 ((p : Int) + 1), .int .i64 (m : Int), .int .i64 (k : Int)] := by rw [hW0]; exact BoxC.new _ _ _
  have HB0 := Lib.hid (show Below w.heap.size w W0 by rw [hW0]; exact Bl.alloc (Below.refl _ w) _)
  have HE0 := Lib.hid (HE.out.below HB0.out)
  rw [← hW0]
  have c0 := bF.cell (i := 0) rfl
  have c1 := bF.cell (i := 1) rfl
  have c2 := bF.cell (i := 2) rfl
  have hlt := bF.lt
  have hS := Lib.hid (show ∀ W, Below W0.heap.size W0 W → W.cell? ⟨w.heap.size, 0, none⟩ = some (.int .i64 ((p : Int) + 1)) ∧ W.cell? ⟨w.heap.size, 1, none⟩ = some (.int .i64 (m : Int)) ∧ W.cell? ⟨w.heap.size, 2, none⟩ = some (.int .i64 (k : Int)) from fun W hb => ⟨(bF.below hb hlt).cell (i := 0) rfl, (bF.below hb hlt).cell (i := 1) rfl, (bF.below hb hlt).cell (i := 2) rfl⟩)
  clear hW0 bF
  go_region_with (first
    | (go_at_call 131; refine Calls.mono (KM _ (HE0.out.below (by repeat (first | exact Below.refl _ _ | exact B3.out | refine Bl.alloc ?_ _ | refine Bl.drew ?_)))).out ?_; rintro e w2 ⟨rfl, hst, hb2⟩; have B2 := Lib.hid (Bl.step (show Below W0.heap.size W0 _ from by repeat (first | exact Below.refl _ _ | exact B3.out | refine Bl.alloc ?_ _ | refine Bl.drew ?_)) hb2); have r1 := hst.get HG.out; (try simp only [World.size_drew] at r1); have HST := Lib.hid hst; obtain ⟨e0, e1, e2⟩ := hS.out _ B2.out; clear hst hb2)
    | (go_at_call 82; refine Calls.mono (KN _).out ?_; rintro e w3 ⟨rfl, hb3⟩; have B3 := Lib.hid (Bl.step (show Below W0.heap.size W0 _ from by repeat (first | exact Below.refl _ _ | exact B2.out | refine Bl.alloc ?_ _ | refine Bl.drew ?_)) hb3); (first | (have r2 := strs_below HST.out hb3 HG.out; (try simp only [World.size_drew] at r2)) | skip); clear hb3)
    | (go_at_call 53; refine Calls.mono (KO _).out ?_; rintro e w4 ⟨rfl, rfl⟩))
  all_goals
    go_wp2
    go_ret
    exact ⟨_, rfl, Lib.hid (bts_mk nm), HB0.out.trans (Below.mono (by repeat (first | exact Below.refl _ _ | exact B3.out | exact B2.out | refine Bl.alloc ?_ _ | refine Bl.drew ?_)) HB0.out.size)⟩
end Go.Proofs.YtmjifmlibgpjiaaGreatDoor
