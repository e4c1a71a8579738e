/- CalDates, as a call. -/
import Derived.Test.YtmjifmlibgpjiaaGreatDoorDv
namespace Go.Proofs.YtmjifmlibgpjiaaGreatDoor
open Go.RowKit Go.Shelf Tx Go.Maps
set_option linter.unusedVariables false
set_option maxRecDepth 100000

theorem dayOf_both (y m k : Int) : ∃ r e : Int, (∀ W, Calls Tryz.prog 15 #[.int .i64 y, .int .i64 m, .int .i64 k] W (Gives W #[.int .i64 r, .int .i64 e])) ∧ (∀ W, Calls Tryz.prog 16 #[.int .i64 y, .int .i64 m, .int .i64 k] W (GivesA W #[.int .i64 r, .int .i64 e])) := by
  by_cases h : ∃ n, IsCal n y m k
  · obtain ⟨n, y', m', k', rfl, rfl, rfl, hd, h9⟩ := h
    exact ⟨n, 0, fun W => DayOf_ok n y' m' k' W hd h9, fun W => RDayOf_ok n y' m' k' W hd h9⟩
  · have h' : ∀ n, ¬ IsCal n y m k := fun n hn => h ⟨n, hn⟩
    exact ⟨0, 1, fun W => DayOf_bad y m k W h', fun W => RDayOf_bad y m k W h'⟩
theorem dateOf_both (n : Int) : ∃ y m k e : Int, (∀ W, Calls Tryz.prog 17 #[.int .i64 n] W (Gives W #[.int .i64 y, .int .i64 m, .int .i64 k, .int .i64 e])) ∧ (∀ W, Calls Tryz.prog 18 #[.int .i64 n] W (GivesA W #[.int .i64 y, .int .i64 m, .int .i64 k, .int .i64 e])) := by
  by_cases h : 0 ≤ n ∧ n ≤ 3652058
  · obtain ⟨d, rfl⟩ : ∃ d : Nat, n = (d : Int) := ⟨n.toNat, by omega⟩
    obtain ⟨y, m, k, hd⟩ := isDate_ex d
    have h9 : y ≤ 9999 := hd.isYear.le (by omega)
    exact ⟨y, m, k, 0, fun W => DateOf_ok d y m k W hd h9, fun W => RDateOf_ok d y m k W hd h9⟩
  · exact ⟨0, 0, 0, 1, fun W => DateOf_bad n W h, fun W => RDateOf_bad n W h⟩
set_option maxHeartbeats 4000000 in
theorem cd_y1i (yr mo dm dy d g y m k h x : Int) (w : World) (hE : Env w) (q1 : yr < 1) (ht : dy.tmod 7 = x) (hx : wrap64 x = x) (hx2 : IntKind.i64.wrap x = x) 
    (KA : ∀ W, Calls Tryz.prog 13 #[.int .i64 yr] W (Gives W #[.bool false, .int .i64 1])) (KB : ∀ W, Calls Tryz.prog 14 #[.int .i64 yr, .int .i64 mo] W (Gives W #[.int .i64 0, .int .i64 1])) (KC : ∀ W, Calls Tryz.prog 15 #[.int .i64 yr, .int .i64 mo, .int .i64 dm] W (Gives W #[.int .i64 d, .int .i64 g])) (KD : ∀ W, Calls Tryz.prog 16 #[.int .i64 yr, .int .i64 mo, .int .i64 dm] W (GivesA W #[.int .i64 d, .int .i64 g])) (KE : ∀ W, Calls Tryz.prog 17 #[.int .i64 dy] W (Gives W #[.int .i64 y, .int .i64 m, .int .i64 k, .int .i64 h])) (KF : ∀ W, Calls Tryz.prog 18 #[.int .i64 dy] W (GivesA W #[.int .i64 y, .int .i64 m, .int .i64 k, .int .i64 h])) (KG : ∀ W, Calls Tryz.prog 19 #[.int .i64 dy] W (Gives W #[.int .i64 x, .int .i64 0])) (KJ : ∀ W, Calls Tryz.prog 22 #[.int .i64 dy] W fun e w' => e = .returned (.bool true) ∧ W = w') :
    Calls Tryz.prog 3 #[.int .i64 yr, .int .i64 mo, .int .i64 dm, .int .i64 dy] w fun e w' => e = .returned (.bool true) ∧ Below w.heap.size w w' := by
  have KA' := fun W => Lib.hid (KA W)
  have KB' := fun W => Lib.hid (KB W)
  have KC' := fun W => Lib.hid (KC W)
  have KD' := fun W => Lib.hid (KD W)
  have KE' := fun W => Lib.hid (KE W)
  have KF' := fun W => Lib.hid (KF W)
  have KG' := fun W => Lib.hid (KG W)
  have KJ' := fun W => Lib.hid (KJ W)
  have KZ' := fun W (hW : Env W) => Lib.hid (sane_any W hW)
  have HE := Lib.hid hE
  clear hE KA KB KC KD KE KF KG KJ
  go_enter Tryz.func3, Tryz.ntmps3
  go_wp2_with (first
    | (go_at_call 13; refine Calls.mono (KA' _).out ?_; rintro e w1 ⟨rfl, hb⟩; have B1 := Lib.hid hb; clear hb)
    | (go_at_call 14; refine Calls.mono (KB' _).out ?_; rintro e w2 ⟨rfl, hb⟩; have B2 := Lib.hid (Bl.step B1.out hb); clear hb)
    | (go_at_call 15; refine Calls.mono (KC' _).out ?_; rintro e w3 ⟨rfl, hb⟩; have B3 := Lib.hid (Bl.step B2.out hb); clear hb)
    | (go_at_call 16; refine Calls.mono (KD' _).out ?_; rintro e w4 ⟨rfl, hb⟩; have B4 := Lib.hid (Bl.step B3.out hb); clear hb)
    | (go_at_call 17; refine Calls.mono (KE' _).out ?_; rintro e w5 ⟨rfl, hb⟩; have B5 := Lib.hid (Bl.step (Bl.alloc B4.out _) hb); have X5 := Lib.hid ((BoxC.new w4 29 #[.int .i64 d, .int .i64 g]).stay hb); clear hb)
    | (go_at_call 18; refine Calls.mono (KF' _).out ?_; rintro e w6 ⟨rfl, hb⟩; have B6 := Lib.hid (Bl.step B5.out hb); have X6 := Lib.hid (X5.out.stay hb); clear hb)
    | (go_at_call 19; refine Calls.mono (KG' _).out ?_; rintro e w7 ⟨rfl, hb⟩; have B7 := Lib.hid (Bl.step (Bl.alloc B6.out _) hb); have X7 := Lib.hid ((X6.out.alloc _).stay hb); have Y7 := Lib.hid ((BoxC.new w6 34 #[.int .i64 y, .int .i64 m, .int .i64 k, .int .i64 h]).stay hb); have d0 := X7.out.cell (i := 0) rfl; have d1 := X7.out.cell (i := 1) rfl; have c0 := Y7.out.cell (i := 0) rfl; have c1 := Y7.out.cell (i := 1) rfl; have c2 := Y7.out.cell (i := 2) rfl; have c3 := Y7.out.cell (i := 3) rfl; clear hb)
    | (go_at_call 22; refine Calls.mono (KJ' _).out ?_; rintro e v0 ⟨rfl, hv⟩; subst v0)
    | (go_at_call 23; refine Calls.mono (KZ' _ (HE.out.below B7.out)).out ?_; rintro e w8 ⟨rfl, hb⟩; have B8 := Lib.hid (Bl.step B7.out hb); clear hb))
  go_ret
  exact ⟨by first | rfl | simp [*], B8.out⟩
set_option maxHeartbeats 4000000 in
theorem cd_y1o (yr mo dm dy d g y m k h : Int) (w : World) (hE : Env w) (q1 : yr < 1) 
    (KA : ∀ W, Calls Tryz.prog 13 #[.int .i64 yr] W (Gives W #[.bool false, .int .i64 1])) (KB : ∀ W, Calls Tryz.prog 14 #[.int .i64 yr, .int .i64 mo] W (Gives W #[.int .i64 0, .int .i64 1])) (KC : ∀ W, Calls Tryz.prog 15 #[.int .i64 yr, .int .i64 mo, .int .i64 dm] W (Gives W #[.int .i64 d, .int .i64 g])) (KD : ∀ W, Calls Tryz.prog 16 #[.int .i64 yr, .int .i64 mo, .int .i64 dm] W (GivesA W #[.int .i64 d, .int .i64 g])) (KE : ∀ W, Calls Tryz.prog 17 #[.int .i64 dy] W (Gives W #[.int .i64 y, .int .i64 m, .int .i64 k, .int .i64 h])) (KF : ∀ W, Calls Tryz.prog 18 #[.int .i64 dy] W (GivesA W #[.int .i64 y, .int .i64 m, .int .i64 k, .int .i64 h])) (KG : ∀ W, Calls Tryz.prog 19 #[.int .i64 dy] W (Gives W #[.int .i64 0, .int .i64 1])) (KJ : ∀ W, Calls Tryz.prog 22 #[.int .i64 dy] W fun e w' => e = .returned (.bool false) ∧ W = w') :
    Calls Tryz.prog 3 #[.int .i64 yr, .int .i64 mo, .int .i64 dm, .int .i64 dy] w fun e w' => e = .returned (.bool true) ∧ Below w.heap.size w w' := by
  have KA' := fun W => Lib.hid (KA W)
  have KB' := fun W => Lib.hid (KB W)
  have KC' := fun W => Lib.hid (KC W)
  have KD' := fun W => Lib.hid (KD W)
  have KE' := fun W => Lib.hid (KE W)
  have KF' := fun W => Lib.hid (KF W)
  have KG' := fun W => Lib.hid (KG W)
  have KJ' := fun W => Lib.hid (KJ W)
  have KZ' := fun W (hW : Env W) => Lib.hid (sane_any W hW)
  have HE := Lib.hid hE
  clear hE KA KB KC KD KE KF KG KJ
  go_enter Tryz.func3, Tryz.ntmps3
  go_wp2_with (first
    | (go_at_call 13; refine Calls.mono (KA' _).out ?_; rintro e w1 ⟨rfl, hb⟩; have B1 := Lib.hid hb; clear hb)
    | (go_at_call 14; refine Calls.mono (KB' _).out ?_; rintro e w2 ⟨rfl, hb⟩; have B2 := Lib.hid (Bl.step B1.out hb); clear hb)
    | (go_at_call 15; refine Calls.mono (KC' _).out ?_; rintro e w3 ⟨rfl, hb⟩; have B3 := Lib.hid (Bl.step B2.out hb); clear hb)
    | (go_at_call 16; refine Calls.mono (KD' _).out ?_; rintro e w4 ⟨rfl, hb⟩; have B4 := Lib.hid (Bl.step B3.out hb); clear hb)
    | (go_at_call 17; refine Calls.mono (KE' _).out ?_; rintro e w5 ⟨rfl, hb⟩; have B5 := Lib.hid (Bl.step (Bl.alloc B4.out _) hb); have X5 := Lib.hid ((BoxC.new w4 29 #[.int .i64 d, .int .i64 g]).stay hb); clear hb)
    | (go_at_call 18; refine Calls.mono (KF' _).out ?_; rintro e w6 ⟨rfl, hb⟩; have B6 := Lib.hid (Bl.step B5.out hb); have X6 := Lib.hid (X5.out.stay hb); clear hb)
    | (go_at_call 19; refine Calls.mono (KG' _).out ?_; rintro e w7 ⟨rfl, hb⟩; have B7 := Lib.hid (Bl.step (Bl.alloc B6.out _) hb); have X7 := Lib.hid ((X6.out.alloc _).stay hb); have Y7 := Lib.hid ((BoxC.new w6 34 #[.int .i64 y, .int .i64 m, .int .i64 k, .int .i64 h]).stay hb); have d0 := X7.out.cell (i := 0) rfl; have d1 := X7.out.cell (i := 1) rfl; have c0 := Y7.out.cell (i := 0) rfl; have c1 := Y7.out.cell (i := 1) rfl; have c2 := Y7.out.cell (i := 2) rfl; have c3 := Y7.out.cell (i := 3) rfl; clear hb)
    | (go_at_call 22; refine Calls.mono (KJ' _).out ?_; rintro e v0 ⟨rfl, hv⟩; subst v0)
    | (go_at_call 23; refine Calls.mono (KZ' _ (HE.out.below B7.out)).out ?_; rintro e w8 ⟨rfl, hb⟩; have B8 := Lib.hid (Bl.step B7.out hb); clear hb))
  go_ret
  exact ⟨by first | rfl | simp [*], B8.out⟩
set_option maxHeartbeats 4000000 in
theorem cd_y2i (yr mo dm dy d g y m k h x : Int) (w : World) (hE : Env w) (q0 : ¬ yr < 1) (q1 : 9999 < yr) (ht : dy.tmod 7 = x) (hx : wrap64 x = x) (hx2 : IntKind.i64.wrap x = x) 
    (KA : ∀ W, Calls Tryz.prog 13 #[.int .i64 yr] W (Gives W #[.bool false, .int .i64 1])) (KB : ∀ W, Calls Tryz.prog 14 #[.int .i64 yr, .int .i64 mo] W (Gives W #[.int .i64 0, .int .i64 1])) (KC : ∀ W, Calls Tryz.prog 15 #[.int .i64 yr, .int .i64 mo, .int .i64 dm] W (Gives W #[.int .i64 d, .int .i64 g])) (KD : ∀ W, Calls Tryz.prog 16 #[.int .i64 yr, .int .i64 mo, .int .i64 dm] W (GivesA W #[.int .i64 d, .int .i64 g])) (KE : ∀ W, Calls Tryz.prog 17 #[.int .i64 dy] W (Gives W #[.int .i64 y, .int .i64 m, .int .i64 k, .int .i64 h])) (KF : ∀ W, Calls Tryz.prog 18 #[.int .i64 dy] W (GivesA W #[.int .i64 y, .int .i64 m, .int .i64 k, .int .i64 h])) (KG : ∀ W, Calls Tryz.prog 19 #[.int .i64 dy] W (Gives W #[.int .i64 x, .int .i64 0])) (KJ : ∀ W, Calls Tryz.prog 22 #[.int .i64 dy] W fun e w' => e = .returned (.bool true) ∧ W = w') :
    Calls Tryz.prog 3 #[.int .i64 yr, .int .i64 mo, .int .i64 dm, .int .i64 dy] w fun e w' => e = .returned (.bool true) ∧ Below w.heap.size w w' := by
  have KA' := fun W => Lib.hid (KA W)
  have KB' := fun W => Lib.hid (KB W)
  have KC' := fun W => Lib.hid (KC W)
  have KD' := fun W => Lib.hid (KD W)
  have KE' := fun W => Lib.hid (KE W)
  have KF' := fun W => Lib.hid (KF W)
  have KG' := fun W => Lib.hid (KG W)
  have KJ' := fun W => Lib.hid (KJ W)
  have KZ' := fun W (hW : Env W) => Lib.hid (sane_any W hW)
  have HE := Lib.hid hE
  clear hE KA KB KC KD KE KF KG KJ
  go_enter Tryz.func3, Tryz.ntmps3
  go_wp2_with (first
    | (go_at_call 13; refine Calls.mono (KA' _).out ?_; rintro e w1 ⟨rfl, hb⟩; have B1 := Lib.hid hb; clear hb)
    | (go_at_call 14; refine Calls.mono (KB' _).out ?_; rintro e w2 ⟨rfl, hb⟩; have B2 := Lib.hid (Bl.step B1.out hb); clear hb)
    | (go_at_call 15; refine Calls.mono (KC' _).out ?_; rintro e w3 ⟨rfl, hb⟩; have B3 := Lib.hid (Bl.step B2.out hb); clear hb)
    | (go_at_call 16; refine Calls.mono (KD' _).out ?_; rintro e w4 ⟨rfl, hb⟩; have B4 := Lib.hid (Bl.step B3.out hb); clear hb)
    | (go_at_call 17; refine Calls.mono (KE' _).out ?_; rintro e w5 ⟨rfl, hb⟩; have B5 := Lib.hid (Bl.step (Bl.alloc B4.out _) hb); have X5 := Lib.hid ((BoxC.new w4 29 #[.int .i64 d, .int .i64 g]).stay hb); clear hb)
    | (go_at_call 18; refine Calls.mono (KF' _).out ?_; rintro e w6 ⟨rfl, hb⟩; have B6 := Lib.hid (Bl.step B5.out hb); have X6 := Lib.hid (X5.out.stay hb); clear hb)
    | (go_at_call 19; refine Calls.mono (KG' _).out ?_; rintro e w7 ⟨rfl, hb⟩; have B7 := Lib.hid (Bl.step (Bl.alloc B6.out _) hb); have X7 := Lib.hid ((X6.out.alloc _).stay hb); have Y7 := Lib.hid ((BoxC.new w6 34 #[.int .i64 y, .int .i64 m, .int .i64 k, .int .i64 h]).stay hb); have d0 := X7.out.cell (i := 0) rfl; have d1 := X7.out.cell (i := 1) rfl; have c0 := Y7.out.cell (i := 0) rfl; have c1 := Y7.out.cell (i := 1) rfl; have c2 := Y7.out.cell (i := 2) rfl; have c3 := Y7.out.cell (i := 3) rfl; clear hb)
    | (go_at_call 22; refine Calls.mono (KJ' _).out ?_; rintro e v0 ⟨rfl, hv⟩; subst v0)
    | (go_at_call 23; refine Calls.mono (KZ' _ (HE.out.below B7.out)).out ?_; rintro e w8 ⟨rfl, hb⟩; have B8 := Lib.hid (Bl.step B7.out hb); clear hb))
  go_ret
  exact ⟨by first | rfl | simp [*], B8.out⟩
set_option maxHeartbeats 4000000 in
theorem cd_y2o (yr mo dm dy d g y m k h : Int) (w : World) (hE : Env w) (q0 : ¬ yr < 1) (q1 : 9999 < yr) 
    (KA : ∀ W, Calls Tryz.prog 13 #[.int .i64 yr] W (Gives W #[.bool false, .int .i64 1])) (KB : ∀ W, Calls Tryz.prog 14 #[.int .i64 yr, .int .i64 mo] W (Gives W #[.int .i64 0, .int .i64 1])) (KC : ∀ W, Calls Tryz.prog 15 #[.int .i64 yr, .int .i64 mo, .int .i64 dm] W (Gives W #[.int .i64 d, .int .i64 g])) (KD : ∀ W, Calls Tryz.prog 16 #[.int .i64 yr, .int .i64 mo, .int .i64 dm] W (GivesA W #[.int .i64 d, .int .i64 g])) (KE : ∀ W, Calls Tryz.prog 17 #[.int .i64 dy] W (Gives W #[.int .i64 y, .int .i64 m, .int .i64 k, .int .i64 h])) (KF : ∀ W, Calls Tryz.prog 18 #[.int .i64 dy] W (GivesA W #[.int .i64 y, .int .i64 m, .int .i64 k, .int .i64 h])) (KG : ∀ W, Calls Tryz.prog 19 #[.int .i64 dy] W (Gives W #[.int .i64 0, .int .i64 1])) (KJ : ∀ W, Calls Tryz.prog 22 #[.int .i64 dy] W fun e w' => e = .returned (.bool false) ∧ W = w') :
    Calls Tryz.prog 3 #[.int .i64 yr, .int .i64 mo, .int .i64 dm, .int .i64 dy] w fun e w' => e = .returned (.bool true) ∧ Below w.heap.size w w' := by
  have KA' := fun W => Lib.hid (KA W)
  have KB' := fun W => Lib.hid (KB W)
  have KC' := fun W => Lib.hid (KC W)
  have KD' := fun W => Lib.hid (KD W)
  have KE' := fun W => Lib.hid (KE W)
  have KF' := fun W => Lib.hid (KF W)
  have KG' := fun W => Lib.hid (KG W)
  have KJ' := fun W => Lib.hid (KJ W)
  have KZ' := fun W (hW : Env W) => Lib.hid (sane_any W hW)
  have HE := Lib.hid hE
  clear hE KA KB KC KD KE KF KG KJ
  go_enter Tryz.func3, Tryz.ntmps3
  go_wp2_with (first
    | (go_at_call 13; refine Calls.mono (KA' _).out ?_; rintro e w1 ⟨rfl, hb⟩; have B1 := Lib.hid hb; clear hb)
    | (go_at_call 14; refine Calls.mono (KB' _).out ?_; rintro e w2 ⟨rfl, hb⟩; have B2 := Lib.hid (Bl.step B1.out hb); clear hb)
    | (go_at_call 15; refine Calls.mono (KC' _).out ?_; rintro e w3 ⟨rfl, hb⟩; have B3 := Lib.hid (Bl.step B2.out hb); clear hb)
    | (go_at_call 16; refine Calls.mono (KD' _).out ?_; rintro e w4 ⟨rfl, hb⟩; have B4 := Lib.hid (Bl.step B3.out hb); clear hb)
    | (go_at_call 17; refine Calls.mono (KE' _).out ?_; rintro e w5 ⟨rfl, hb⟩; have B5 := Lib.hid (Bl.step (Bl.alloc B4.out _) hb); have X5 := Lib.hid ((BoxC.new w4 29 #[.int .i64 d, .int .i64 g]).stay hb); clear hb)
    | (go_at_call 18; refine Calls.mono (KF' _).out ?_; rintro e w6 ⟨rfl, hb⟩; have B6 := Lib.hid (Bl.step B5.out hb); have X6 := Lib.hid (X5.out.stay hb); clear hb)
    | (go_at_call 19; refine Calls.mono (KG' _).out ?_; rintro e w7 ⟨rfl, hb⟩; have B7 := Lib.hid (Bl.step (Bl.alloc B6.out _) hb); have X7 := Lib.hid ((X6.out.alloc _).stay hb); have Y7 := Lib.hid ((BoxC.new w6 34 #[.int .i64 y, .int .i64 m, .int .i64 k, .int .i64 h]).stay hb); have d0 := X7.out.cell (i := 0) rfl; have d1 := X7.out.cell (i := 1) rfl; have c0 := Y7.out.cell (i := 0) rfl; have c1 := Y7.out.cell (i := 1) rfl; have c2 := Y7.out.cell (i := 2) rfl; have c3 := Y7.out.cell (i := 3) rfl; clear hb)
    | (go_at_call 22; refine Calls.mono (KJ' _).out ?_; rintro e v0 ⟨rfl, hv⟩; subst v0)
    | (go_at_call 23; refine Calls.mono (KZ' _ (HE.out.below B7.out)).out ?_; rintro e w8 ⟨rfl, hb⟩; have B8 := Lib.hid (Bl.step B7.out hb); clear hb))
  go_ret
  exact ⟨by first | rfl | simp [*], B8.out⟩
set_option maxHeartbeats 4000000 in
theorem cd_m1i (yr mo dm dy d g y m k h x : Int) (lb : Bool) (w : World) (hE : Env w) (q0 : ¬ yr < 1) (q1 : ¬ 9999 < yr) (q2 : mo < 1) (ht : dy.tmod 7 = x) (hx : wrap64 x = x) (hx2 : IntKind.i64.wrap x = x) 
    (KA : ∀ W, Calls Tryz.prog 13 #[.int .i64 yr] W (Gives W #[.bool lb, .int .i64 0])) (KB : ∀ W, Calls Tryz.prog 14 #[.int .i64 yr, .int .i64 mo] W (Gives W #[.int .i64 0, .int .i64 1])) (KC : ∀ W, Calls Tryz.prog 15 #[.int .i64 yr, .int .i64 mo, .int .i64 dm] W (Gives W #[.int .i64 d, .int .i64 g])) (KD : ∀ W, Calls Tryz.prog 16 #[.int .i64 yr, .int .i64 mo, .int .i64 dm] W (GivesA W #[.int .i64 d, .int .i64 g])) (KE : ∀ W, Calls Tryz.prog 17 #[.int .i64 dy] W (Gives W #[.int .i64 y, .int .i64 m, .int .i64 k, .int .i64 h])) (KF : ∀ W, Calls Tryz.prog 18 #[.int .i64 dy] W (GivesA W #[.int .i64 y, .int .i64 m, .int .i64 k, .int .i64 h])) (KG : ∀ W, Calls Tryz.prog 19 #[.int .i64 dy] W (Gives W #[.int .i64 x, .int .i64 0])) (KH : ∀ W, Calls Tryz.prog 20 #[.int .i64 yr] W fun e w' => e = .returned (.bool lb) ∧ W = w') (KJ : ∀ W, Calls Tryz.prog 22 #[.int .i64 dy] W fun e w' => e = .returned (.bool true) ∧ W = w') :
    Calls Tryz.prog 3 #[.int .i64 yr, .int .i64 mo, .int .i64 dm, .int .i64 dy] w fun e w' => e = .returned (.bool true) ∧ Below w.heap.size w w' := by
  have KA' := fun W => Lib.hid (KA W)
  have KB' := fun W => Lib.hid (KB W)
  have KC' := fun W => Lib.hid (KC W)
  have KD' := fun W => Lib.hid (KD W)
  have KE' := fun W => Lib.hid (KE W)
  have KF' := fun W => Lib.hid (KF W)
  have KG' := fun W => Lib.hid (KG W)
  have KH' := fun W => Lib.hid (KH W)
  have KJ' := fun W => Lib.hid (KJ W)
  have KZ' := fun W (hW : Env W) => Lib.hid (sane_any W hW)
  have HE := Lib.hid hE
  clear hE KA KB KC KD KE KF KG KH KJ
  go_enter Tryz.func3, Tryz.ntmps3
  go_wp2_with (first
    | (go_at_call 13; refine Calls.mono (KA' _).out ?_; rintro e w1 ⟨rfl, hb⟩; have B1 := Lib.hid hb; clear hb)
    | (go_at_call 14; refine Calls.mono (KB' _).out ?_; rintro e w2 ⟨rfl, hb⟩; have B2 := Lib.hid (Bl.step B1.out hb); clear hb)
    | (go_at_call 15; refine Calls.mono (KC' _).out ?_; rintro e w3 ⟨rfl, hb⟩; have B3 := Lib.hid (Bl.step B2.out hb); clear hb)
    | (go_at_call 16; refine Calls.mono (KD' _).out ?_; rintro e w4 ⟨rfl, hb⟩; have B4 := Lib.hid (Bl.step B3.out hb); clear hb)
    | (go_at_call 17; refine Calls.mono (KE' _).out ?_; rintro e w5 ⟨rfl, hb⟩; have B5 := Lib.hid (Bl.step (Bl.alloc B4.out _) hb); have X5 := Lib.hid ((BoxC.new w4 29 #[.int .i64 d, .int .i64 g]).stay hb); clear hb)
    | (go_at_call 18; refine Calls.mono (KF' _).out ?_; rintro e w6 ⟨rfl, hb⟩; have B6 := Lib.hid (Bl.step B5.out hb); have X6 := Lib.hid (X5.out.stay hb); clear hb)
    | (go_at_call 19; refine Calls.mono (KG' _).out ?_; rintro e w7 ⟨rfl, hb⟩; have B7 := Lib.hid (Bl.step (Bl.alloc B6.out _) hb); have X7 := Lib.hid ((X6.out.alloc _).stay hb); have Y7 := Lib.hid ((BoxC.new w6 34 #[.int .i64 y, .int .i64 m, .int .i64 k, .int .i64 h]).stay hb); have d0 := X7.out.cell (i := 0) rfl; have d1 := X7.out.cell (i := 1) rfl; have c0 := Y7.out.cell (i := 0) rfl; have c1 := Y7.out.cell (i := 1) rfl; have c2 := Y7.out.cell (i := 2) rfl; have c3 := Y7.out.cell (i := 3) rfl; clear hb)
    | (go_at_call 20; refine Calls.mono (KH' _).out ?_; rintro e v0 ⟨rfl, hv⟩; subst v0)
    | (go_at_call 22; refine Calls.mono (KJ' _).out ?_; rintro e v1 ⟨rfl, hv⟩; subst v1)
    | (go_at_call 23; refine Calls.mono (KZ' _ (HE.out.below B7.out)).out ?_; rintro e w8 ⟨rfl, hb⟩; have B8 := Lib.hid (Bl.step B7.out hb); clear hb))
  go_ret
  exact ⟨by first | rfl | simp [*], B8.out⟩
set_option maxHeartbeats 4000000 in
theorem cd_m1o (yr mo dm dy d g y m k h : Int) (lb : Bool) (w : World) (hE : Env w) (q0 : ¬ yr < 1) (q1 : ¬ 9999 < yr) (q2 : mo < 1) 
    (KA : ∀ W, Calls Tryz.prog 13 #[.int .i64 yr] W (Gives W #[.bool lb, .int .i64 0])) (KB : ∀ W, Calls Tryz.prog 14 #[.int .i64 yr, .int .i64 mo] W (Gives W #[.int .i64 0, .int .i64 1])) (KC : ∀ W, Calls Tryz.prog 15 #[.int .i64 yr, .int .i64 mo, .int .i64 dm] W (Gives W #[.int .i64 d, .int .i64 g])) (KD : ∀ W, Calls Tryz.prog 16 #[.int .i64 yr, .int .i64 mo, .int .i64 dm] W (GivesA W #[.int .i64 d, .int .i64 g])) (KE : ∀ W, Calls Tryz.prog 17 #[.int .i64 dy] W (Gives W #[.int .i64 y, .int .i64 m, .int .i64 k, .int .i64 h])) (KF : ∀ W, Calls Tryz.prog 18 #[.int .i64 dy] W (GivesA W #[.int .i64 y, .int .i64 m, .int .i64 k, .int .i64 h])) (KG : ∀ W, Calls Tryz.prog 19 #[.int .i64 dy] W (Gives W #[.int .i64 0, .int .i64 1])) (KH : ∀ W, Calls Tryz.prog 20 #[.int .i64 yr] W fun e w' => e = .returned (.bool lb) ∧ W = w') (KJ : ∀ W, Calls Tryz.prog 22 #[.int .i64 dy] W fun e w' => e = .returned (.bool false) ∧ W = w') :
    Calls Tryz.prog 3 #[.int .i64 yr, .int .i64 mo, .int .i64 dm, .int .i64 dy] w fun e w' => e = .returned (.bool true) ∧ Below w.heap.size w w' := by
  have KA' := fun W => Lib.hid (KA W)
  have KB' := fun W => Lib.hid (KB W)
  have KC' := fun W => Lib.hid (KC W)
  have KD' := fun W => Lib.hid (KD W)
  have KE' := fun W => Lib.hid (KE W)
  have KF' := fun W => Lib.hid (KF W)
  have KG' := fun W => Lib.hid (KG W)
  have KH' := fun W => Lib.hid (KH W)
  have KJ' := fun W => Lib.hid (KJ W)
  have KZ' := fun W (hW : Env W) => Lib.hid (sane_any W hW)
  have HE := Lib.hid hE
  clear hE KA KB KC KD KE KF KG KH KJ
  go_enter Tryz.func3, Tryz.ntmps3
  go_wp2_with (first
    | (go_at_call 13; refine Calls.mono (KA' _).out ?_; rintro e w1 ⟨rfl, hb⟩; have B1 := Lib.hid hb; clear hb)
    | (go_at_call 14; refine Calls.mono (KB' _).out ?_; rintro e w2 ⟨rfl, hb⟩; have B2 := Lib.hid (Bl.step B1.out hb); clear hb)
    | (go_at_call 15; refine Calls.mono (KC' _).out ?_; rintro e w3 ⟨rfl, hb⟩; have B3 := Lib.hid (Bl.step B2.out hb); clear hb)
    | (go_at_call 16; refine Calls.mono (KD' _).out ?_; rintro e w4 ⟨rfl, hb⟩; have B4 := Lib.hid (Bl.step B3.out hb); clear hb)
    | (go_at_call 17; refine Calls.mono (KE' _).out ?_; rintro e w5 ⟨rfl, hb⟩; have B5 := Lib.hid (Bl.step (Bl.alloc B4.out _) hb); have X5 := Lib.hid ((BoxC.new w4 29 #[.int .i64 d, .int .i64 g]).stay hb); clear hb)
    | (go_at_call 18; refine Calls.mono (KF' _).out ?_; rintro e w6 ⟨rfl, hb⟩; have B6 := Lib.hid (Bl.step B5.out hb); have X6 := Lib.hid (X5.out.stay hb); clear hb)
    | (go_at_call 19; refine Calls.mono (KG' _).out ?_; rintro e w7 ⟨rfl, hb⟩; have B7 := Lib.hid (Bl.step (Bl.alloc B6.out _) hb); have X7 := Lib.hid ((X6.out.alloc _).stay hb); have Y7 := Lib.hid ((BoxC.new w6 34 #[.int .i64 y, .int .i64 m, .int .i64 k, .int .i64 h]).stay hb); have d0 := X7.out.cell (i := 0) rfl; have d1 := X7.out.cell (i := 1) rfl; have c0 := Y7.out.cell (i := 0) rfl; have c1 := Y7.out.cell (i := 1) rfl; have c2 := Y7.out.cell (i := 2) rfl; have c3 := Y7.out.cell (i := 3) rfl; clear hb)
    | (go_at_call 20; refine Calls.mono (KH' _).out ?_; rintro e v0 ⟨rfl, hv⟩; subst v0)
    | (go_at_call 22; refine Calls.mono (KJ' _).out ?_; rintro e v1 ⟨rfl, hv⟩; subst v1)
    | (go_at_call 23; refine Calls.mono (KZ' _ (HE.out.below B7.out)).out ?_; rintro e w8 ⟨rfl, hb⟩; have B8 := Lib.hid (Bl.step B7.out hb); clear hb))
  go_ret
  exact ⟨by first | rfl | simp [*], B8.out⟩
set_option maxHeartbeats 4000000 in
theorem cd_m2i (yr mo dm dy d g y m k h x : Int) (lb : Bool) (w : World) (hE : Env w) (q0 : ¬ yr < 1) (q1 : ¬ 9999 < yr) (q2 : ¬ mo < 1) (q3 : 12 < mo) (ht : dy.tmod 7 = x) (hx : wrap64 x = x) (hx2 : IntKind.i64.wrap x = x) 
    (KA : ∀ W, Calls Tryz.prog 13 #[.int .i64 yr] W (Gives W #[.bool lb, .int .i64 0])) (KB : ∀ W, Calls Tryz.prog 14 #[.int .i64 yr, .int .i64 mo] W (Gives W #[.int .i64 0, .int .i64 1])) (KC : ∀ W, Calls Tryz.prog 15 #[.int .i64 yr, .int .i64 mo, .int .i64 dm] W (Gives W #[.int .i64 d, .int .i64 g])) (KD : ∀ W, Calls Tryz.prog 16 #[.int .i64 yr, .int .i64 mo, .int .i64 dm] W (GivesA W #[.int .i64 d, .int .i64 g])) (KE : ∀ W, Calls Tryz.prog 17 #[.int .i64 dy] W (Gives W #[.int .i64 y, .int .i64 m, .int .i64 k, .int .i64 h])) (KF : ∀ W, Calls Tryz.prog 18 #[.int .i64 dy] W (GivesA W #[.int .i64 y, .int .i64 m, .int .i64 k, .int .i64 h])) (KG : ∀ W, Calls Tryz.prog 19 #[.int .i64 dy] W (Gives W #[.int .i64 x, .int .i64 0])) (KH : ∀ W, Calls Tryz.prog 20 #[.int .i64 yr] W fun e w' => e = .returned (.bool lb) ∧ W = w') (KJ : ∀ W, Calls Tryz.prog 22 #[.int .i64 dy] W fun e w' => e = .returned (.bool true) ∧ W = w') :
    Calls Tryz.prog 3 #[.int .i64 yr, .int .i64 mo, .int .i64 dm, .int .i64 dy] w fun e w' => e = .returned (.bool true) ∧ Below w.heap.size w w' := by
  have KA' := fun W => Lib.hid (KA W)
  have KB' := fun W => Lib.hid (KB W)
  have KC' := fun W => Lib.hid (KC W)
  have KD' := fun W => Lib.hid (KD W)
  have KE' := fun W => Lib.hid (KE W)
  have KF' := fun W => Lib.hid (KF W)
  have KG' := fun W => Lib.hid (KG W)
  have KH' := fun W => Lib.hid (KH W)
  have KJ' := fun W => Lib.hid (KJ W)
  have KZ' := fun W (hW : Env W) => Lib.hid (sane_any W hW)
  have HE := Lib.hid hE
  clear hE KA KB KC KD KE KF KG KH KJ
  go_enter Tryz.func3, Tryz.ntmps3
  go_wp2_with (first
    | (go_at_call 13; refine Calls.mono (KA' _).out ?_; rintro e w1 ⟨rfl, hb⟩; have B1 := Lib.hid hb; clear hb)
    | (go_at_call 14; refine Calls.mono (KB' _).out ?_; rintro e w2 ⟨rfl, hb⟩; have B2 := Lib.hid (Bl.step B1.out hb); clear hb)
    | (go_at_call 15; refine Calls.mono (KC' _).out ?_; rintro e w3 ⟨rfl, hb⟩; have B3 := Lib.hid (Bl.step B2.out hb); clear hb)
    | (go_at_call 16; refine Calls.mono (KD' _).out ?_; rintro e w4 ⟨rfl, hb⟩; have B4 := Lib.hid (Bl.step B3.out hb); clear hb)
    | (go_at_call 17; refine Calls.mono (KE' _).out ?_; rintro e w5 ⟨rfl, hb⟩; have B5 := Lib.hid (Bl.step (Bl.alloc B4.out _) hb); have X5 := Lib.hid ((BoxC.new w4 29 #[.int .i64 d, .int .i64 g]).stay hb); clear hb)
    | (go_at_call 18; refine Calls.mono (KF' _).out ?_; rintro e w6 ⟨rfl, hb⟩; have B6 := Lib.hid (Bl.step B5.out hb); have X6 := Lib.hid (X5.out.stay hb); clear hb)
    | (go_at_call 19; refine Calls.mono (KG' _).out ?_; rintro e w7 ⟨rfl, hb⟩; have B7 := Lib.hid (Bl.step (Bl.alloc B6.out _) hb); have X7 := Lib.hid ((X6.out.alloc _).stay hb); have Y7 := Lib.hid ((BoxC.new w6 34 #[.int .i64 y, .int .i64 m, .int .i64 k, .int .i64 h]).stay hb); have d0 := X7.out.cell (i := 0) rfl; have d1 := X7.out.cell (i := 1) rfl; have c0 := Y7.out.cell (i := 0) rfl; have c1 := Y7.out.cell (i := 1) rfl; have c2 := Y7.out.cell (i := 2) rfl; have c3 := Y7.out.cell (i := 3) rfl; clear hb)
    | (go_at_call 20; refine Calls.mono (KH' _).out ?_; rintro e v0 ⟨rfl, hv⟩; subst v0)
    | (go_at_call 22; refine Calls.mono (KJ' _).out ?_; rintro e v1 ⟨rfl, hv⟩; subst v1)
    | (go_at_call 23; refine Calls.mono (KZ' _ (HE.out.below B7.out)).out ?_; rintro e w8 ⟨rfl, hb⟩; have B8 := Lib.hid (Bl.step B7.out hb); clear hb))
  go_ret
  exact ⟨by first | rfl | simp [*], B8.out⟩
set_option maxHeartbeats 4000000 in
theorem cd_m2o (yr mo dm dy d g y m k h : Int) (lb : Bool) (w : World) (hE : Env w) (q0 : ¬ yr < 1) (q1 : ¬ 9999 < yr) (q2 : ¬ mo < 1) (q3 : 12 < mo) 
    (KA : ∀ W, Calls Tryz.prog 13 #[.int .i64 yr] W (Gives W #[.bool lb, .int .i64 0])) (KB : ∀ W, Calls Tryz.prog 14 #[.int .i64 yr, .int .i64 mo] W (Gives W #[.int .i64 0, .int .i64 1])) (KC : ∀ W, Calls Tryz.prog 15 #[.int .i64 yr, .int .i64 mo, .int .i64 dm] W (Gives W #[.int .i64 d, .int .i64 g])) (KD : ∀ W, Calls Tryz.prog 16 #[.int .i64 yr, .int .i64 mo, .int .i64 dm] W (GivesA W #[.int .i64 d, .int .i64 g])) (KE : ∀ W, Calls Tryz.prog 17 #[.int .i64 dy] W (Gives W #[.int .i64 y, .int .i64 m, .int .i64 k, .int .i64 h])) (KF : ∀ W, Calls Tryz.prog 18 #[.int .i64 dy] W (GivesA W #[.int .i64 y, .int .i64 m, .int .i64 k, .int .i64 h])) (KG : ∀ W, Calls Tryz.prog 19 #[.int .i64 dy] W (Gives W #[.int .i64 0, .int .i64 1])) (KH : ∀ W, Calls Tryz.prog 20 #[.int .i64 yr] W fun e w' => e = .returned (.bool lb) ∧ W = w') (KJ : ∀ W, Calls Tryz.prog 22 #[.int .i64 dy] W fun e w' => e = .returned (.bool false) ∧ W = w') :
    Calls Tryz.prog 3 #[.int .i64 yr, .int .i64 mo, .int .i64 dm, .int .i64 dy] w fun e w' => e = .returned (.bool true) ∧ Below w.heap.size w w' := by
  have KA' := fun W => Lib.hid (KA W)
  have KB' := fun W => Lib.hid (KB W)
  have KC' := fun W => Lib.hid (KC W)
  have KD' := fun W => Lib.hid (KD W)
  have KE' := fun W => Lib.hid (KE W)
  have KF' := fun W => Lib.hid (KF W)
  have KG' := fun W => Lib.hid (KG W)
  have KH' := fun W => Lib.hid (KH W)
  have KJ' := fun W => Lib.hid (KJ W)
  have KZ' := fun W (hW : Env W) => Lib.hid (sane_any W hW)
  have HE := Lib.hid hE
  clear hE KA KB KC KD KE KF KG KH KJ
  go_enter Tryz.func3, Tryz.ntmps3
  go_wp2_with (first
    | (go_at_call 13; refine Calls.mono (KA' _).out ?_; rintro e w1 ⟨rfl, hb⟩; have B1 := Lib.hid hb; clear hb)
    | (go_at_call 14; refine Calls.mono (KB' _).out ?_; rintro e w2 ⟨rfl, hb⟩; have B2 := Lib.hid (Bl.step B1.out hb); clear hb)
    | (go_at_call 15; refine Calls.mono (KC' _).out ?_; rintro e w3 ⟨rfl, hb⟩; have B3 := Lib.hid (Bl.step B2.out hb); clear hb)
    | (go_at_call 16; refine Calls.mono (KD' _).out ?_; rintro e w4 ⟨rfl, hb⟩; have B4 := Lib.hid (Bl.step B3.out hb); clear hb)
    | (go_at_call 17; refine Calls.mono (KE' _).out ?_; rintro e w5 ⟨rfl, hb⟩; have B5 := Lib.hid (Bl.step (Bl.alloc B4.out _) hb); have X5 := Lib.hid ((BoxC.new w4 29 #[.int .i64 d, .int .i64 g]).stay hb); clear hb)
    | (go_at_call 18; refine Calls.mono (KF' _).out ?_; rintro e w6 ⟨rfl, hb⟩; have B6 := Lib.hid (Bl.step B5.out hb); have X6 := Lib.hid (X5.out.stay hb); clear hb)
    | (go_at_call 19; refine Calls.mono (KG' _).out ?_; rintro e w7 ⟨rfl, hb⟩; have B7 := Lib.hid (Bl.step (Bl.alloc B6.out _) hb); have X7 := Lib.hid ((X6.out.alloc _).stay hb); have Y7 := Lib.hid ((BoxC.new w6 34 #[.int .i64 y, .int .i64 m, .int .i64 k, .int .i64 h]).stay hb); have d0 := X7.out.cell (i := 0) rfl; have d1 := X7.out.cell (i := 1) rfl; have c0 := Y7.out.cell (i := 0) rfl; have c1 := Y7.out.cell (i := 1) rfl; have c2 := Y7.out.cell (i := 2) rfl; have c3 := Y7.out.cell (i := 3) rfl; clear hb)
    | (go_at_call 20; refine Calls.mono (KH' _).out ?_; rintro e v0 ⟨rfl, hv⟩; subst v0)
    | (go_at_call 22; refine Calls.mono (KJ' _).out ?_; rintro e v1 ⟨rfl, hv⟩; subst v1)
    | (go_at_call 23; refine Calls.mono (KZ' _ (HE.out.below B7.out)).out ?_; rintro e w8 ⟨rfl, hb⟩; have B8 := Lib.hid (Bl.step B7.out hb); clear hb))
  go_ret
  exact ⟨by first | rfl | simp [*], B8.out⟩
set_option maxHeartbeats 4000000 in
theorem cd_oki (yr mo dm dy d g y m k h x L : Int) (lb : Bool) (w : World) (hE : Env w) (q0 : ¬ yr < 1) (q1 : ¬ 9999 < yr) (q2 : ¬ mo < 1) (q3 : ¬ 12 < mo) (ht : dy.tmod 7 = x) (hx : wrap64 x = x) (hx2 : IntKind.i64.wrap x = x) 
    (KA : ∀ W, Calls Tryz.prog 13 #[.int .i64 yr] W (Gives W #[.bool lb, .int .i64 0])) (KB : ∀ W, Calls Tryz.prog 14 #[.int .i64 yr, .int .i64 mo] W (Gives W #[.int .i64 L, .int .i64 0])) (KC : ∀ W, Calls Tryz.prog 15 #[.int .i64 yr, .int .i64 mo, .int .i64 dm] W (Gives W #[.int .i64 d, .int .i64 g])) (KD : ∀ W, Calls Tryz.prog 16 #[.int .i64 yr, .int .i64 mo, .int .i64 dm] W (GivesA W #[.int .i64 d, .int .i64 g])) (KE : ∀ W, Calls Tryz.prog 17 #[.int .i64 dy] W (Gives W #[.int .i64 y, .int .i64 m, .int .i64 k, .int .i64 h])) (KF : ∀ W, Calls Tryz.prog 18 #[.int .i64 dy] W (GivesA W #[.int .i64 y, .int .i64 m, .int .i64 k, .int .i64 h])) (KG : ∀ W, Calls Tryz.prog 19 #[.int .i64 dy] W (Gives W #[.int .i64 x, .int .i64 0])) (KH : ∀ W, Calls Tryz.prog 20 #[.int .i64 yr] W fun e w' => e = .returned (.bool lb) ∧ W = w') (KI : ∀ W, Calls Tryz.prog 21 #[.int .i64 yr, .int .i64 mo] W fun e w' => e = .returned (.int .i64 L) ∧ W = w') (KJ : ∀ W, Calls Tryz.prog 22 #[.int .i64 dy] W fun e w' => e = .returned (.bool true) ∧ W = w') :
    Calls Tryz.prog 3 #[.int .i64 yr, .int .i64 mo, .int .i64 dm, .int .i64 dy] w fun e w' => e = .returned (.bool true) ∧ Below w.heap.size w w' := by
  have KA' := fun W => Lib.hid (KA W)
  have KB' := fun W => Lib.hid (KB W)
  have KC' := fun W => Lib.hid (KC W)
  have KD' := fun W => Lib.hid (KD W)
  have KE' := fun W => Lib.hid (KE W)
  have KF' := fun W => Lib.hid (KF W)
  have KG' := fun W => Lib.hid (KG W)
  have KH' := fun W => Lib.hid (KH W)
  have KI' := fun W => Lib.hid (KI W)
  have KJ' := fun W => Lib.hid (KJ W)
  have KZ' := fun W (hW : Env W) => Lib.hid (sane_any W hW)
  have HE := Lib.hid hE
  clear hE KA KB KC KD KE KF KG KH KI KJ
  go_enter Tryz.func3, Tryz.ntmps3
  go_wp2_with (first
    | (go_at_call 13; refine Calls.mono (KA' _).out ?_; rintro e w1 ⟨rfl, hb⟩; have B1 := Lib.hid hb; clear hb)
    | (go_at_call 14; refine Calls.mono (KB' _).out ?_; rintro e w2 ⟨rfl, hb⟩; have B2 := Lib.hid (Bl.step B1.out hb); clear hb)
    | (go_at_call 15; refine Calls.mono (KC' _).out ?_; rintro e w3 ⟨rfl, hb⟩; have B3 := Lib.hid (Bl.step B2.out hb); clear hb)
    | (go_at_call 16; refine Calls.mono (KD' _).out ?_; rintro e w4 ⟨rfl, hb⟩; have B4 := Lib.hid (Bl.step B3.out hb); clear hb)
    | (go_at_call 17; refine Calls.mono (KE' _).out ?_; rintro e w5 ⟨rfl, hb⟩; have B5 := Lib.hid (Bl.step (Bl.alloc B4.out _) hb); have X5 := Lib.hid ((BoxC.new w4 29 #[.int .i64 d, .int .i64 g]).stay hb); clear hb)
    | (go_at_call 18; refine Calls.mono (KF' _).out ?_; rintro e w6 ⟨rfl, hb⟩; have B6 := Lib.hid (Bl.step B5.out hb); have X6 := Lib.hid (X5.out.stay hb); clear hb)
    | (go_at_call 19; refine Calls.mono (KG' _).out ?_; rintro e w7 ⟨rfl, hb⟩; have B7 := Lib.hid (Bl.step (Bl.alloc B6.out _) hb); have X7 := Lib.hid ((X6.out.alloc _).stay hb); have Y7 := Lib.hid ((BoxC.new w6 34 #[.int .i64 y, .int .i64 m, .int .i64 k, .int .i64 h]).stay hb); have d0 := X7.out.cell (i := 0) rfl; have d1 := X7.out.cell (i := 1) rfl; have c0 := Y7.out.cell (i := 0) rfl; have c1 := Y7.out.cell (i := 1) rfl; have c2 := Y7.out.cell (i := 2) rfl; have c3 := Y7.out.cell (i := 3) rfl; clear hb)
    | (go_at_call 20; refine Calls.mono (KH' _).out ?_; rintro e v0 ⟨rfl, hv⟩; subst v0)
    | (go_at_call 21; refine Calls.mono (KI' _).out ?_; rintro e v1 ⟨rfl, hv⟩; subst v1)
    | (go_at_call 22; refine Calls.mono (KJ' _).out ?_; rintro e v2 ⟨rfl, hv⟩; subst v2)
    | (go_at_call 23; refine Calls.mono (KZ' _ (HE.out.below B7.out)).out ?_; rintro e w8 ⟨rfl, hb⟩; have B8 := Lib.hid (Bl.step B7.out hb); clear hb))
  go_ret
  exact ⟨by first | rfl | simp [*], B8.out⟩
set_option maxHeartbeats 4000000 in
theorem cd_oko (yr mo dm dy d g y m k h L : Int) (lb : Bool) (w : World) (hE : Env w) (q0 : ¬ yr < 1) (q1 : ¬ 9999 < yr) (q2 : ¬ mo < 1) (q3 : ¬ 12 < mo) 
    (KA : ∀ W, Calls Tryz.prog 13 #[.int .i64 yr] W (Gives W #[.bool lb, .int .i64 0])) (KB : ∀ W, Calls Tryz.prog 14 #[.int .i64 yr, .int .i64 mo] W (Gives W #[.int .i64 L, .int .i64 0])) (KC : ∀ W, Calls Tryz.prog 15 #[.int .i64 yr, .int .i64 mo, .int .i64 dm] W (Gives W #[.int .i64 d, .int .i64 g])) (KD : ∀ W, Calls Tryz.prog 16 #[.int .i64 yr, .int .i64 mo, .int .i64 dm] W (GivesA W #[.int .i64 d, .int .i64 g])) (KE : ∀ W, Calls Tryz.prog 17 #[.int .i64 dy] W (Gives W #[.int .i64 y, .int .i64 m, .int .i64 k, .int .i64 h])) (KF : ∀ W, Calls Tryz.prog 18 #[.int .i64 dy] W (GivesA W #[.int .i64 y, .int .i64 m, .int .i64 k, .int .i64 h])) (KG : ∀ W, Calls Tryz.prog 19 #[.int .i64 dy] W (Gives W #[.int .i64 0, .int .i64 1])) (KH : ∀ W, Calls Tryz.prog 20 #[.int .i64 yr] W fun e w' => e = .returned (.bool lb) ∧ W = w') (KI : ∀ W, Calls Tryz.prog 21 #[.int .i64 yr, .int .i64 mo] W fun e w' => e = .returned (.int .i64 L) ∧ W = w') (KJ : ∀ W, Calls Tryz.prog 22 #[.int .i64 dy] W fun e w' => e = .returned (.bool false) ∧ W = w') :
    Calls Tryz.prog 3 #[.int .i64 yr, .int .i64 mo, .int .i64 dm, .int .i64 dy] w fun e w' => e = .returned (.bool true) ∧ Below w.heap.size w w' := by
  have KA' := fun W => Lib.hid (KA W)
  have KB' := fun W => Lib.hid (KB W)
  have KC' := fun W => Lib.hid (KC W)
  have KD' := fun W => Lib.hid (KD W)
  have KE' := fun W => Lib.hid (KE W)
  have KF' := fun W => Lib.hid (KF W)
  have KG' := fun W => Lib.hid (KG W)
  have KH' := fun W => Lib.hid (KH W)
  have KI' := fun W => Lib.hid (KI W)
  have KJ' := fun W => Lib.hid (KJ W)
  have KZ' := fun W (hW : Env W) => Lib.hid (sane_any W hW)
  have HE := Lib.hid hE
  clear hE KA KB KC KD KE KF KG KH KI KJ
  go_enter Tryz.func3, Tryz.ntmps3
  go_wp2_with (first
    | (go_at_call 13; refine Calls.mono (KA' _).out ?_; rintro e w1 ⟨rfl, hb⟩; have B1 := Lib.hid hb; clear hb)
    | (go_at_call 14; refine Calls.mono (KB' _).out ?_; rintro e w2 ⟨rfl, hb⟩; have B2 := Lib.hid (Bl.step B1.out hb); clear hb)
    | (go_at_call 15; refine Calls.mono (KC' _).out ?_; rintro e w3 ⟨rfl, hb⟩; have B3 := Lib.hid (Bl.step B2.out hb); clear hb)
    | (go_at_call 16; refine Calls.mono (KD' _).out ?_; rintro e w4 ⟨rfl, hb⟩; have B4 := Lib.hid (Bl.step B3.out hb); clear hb)
    | (go_at_call 17; refine Calls.mono (KE' _).out ?_; rintro e w5 ⟨rfl, hb⟩; have B5 := Lib.hid (Bl.step (Bl.alloc B4.out _) hb); have X5 := Lib.hid ((BoxC.new w4 29 #[.int .i64 d, .int .i64 g]).stay hb); clear hb)
    | (go_at_call 18; refine Calls.mono (KF' _).out ?_; rintro e w6 ⟨rfl, hb⟩; have B6 := Lib.hid (Bl.step B5.out hb); have X6 := Lib.hid (X5.out.stay hb); clear hb)
    | (go_at_call 19; refine Calls.mono (KG' _).out ?_; rintro e w7 ⟨rfl, hb⟩; have B7 := Lib.hid (Bl.step (Bl.alloc B6.out _) hb); have X7 := Lib.hid ((X6.out.alloc _).stay hb); have Y7 := Lib.hid ((BoxC.new w6 34 #[.int .i64 y, .int .i64 m, .int .i64 k, .int .i64 h]).stay hb); have d0 := X7.out.cell (i := 0) rfl; have d1 := X7.out.cell (i := 1) rfl; have c0 := Y7.out.cell (i := 0) rfl; have c1 := Y7.out.cell (i := 1) rfl; have c2 := Y7.out.cell (i := 2) rfl; have c3 := Y7.out.cell (i := 3) rfl; clear hb)
    | (go_at_call 20; refine Calls.mono (KH' _).out ?_; rintro e v0 ⟨rfl, hv⟩; subst v0)
    | (go_at_call 21; refine Calls.mono (KI' _).out ?_; rintro e v1 ⟨rfl, hv⟩; subst v1)
    | (go_at_call 22; refine Calls.mono (KJ' _).out ?_; rintro e v2 ⟨rfl, hv⟩; subst v2)
    | (go_at_call 23; refine Calls.mono (KZ' _ (HE.out.below B7.out)).out ?_; rintro e w8 ⟨rfl, hb⟩; have B8 := Lib.hid (Bl.step B7.out hb); clear hb))
  go_ret
  exact ⟨by first | rfl | simp [*], B8.out⟩
theorem CalDates_any (yr mo dm dy : Int) (w : World) (hE : Env w) : Calls Tryz.prog 3 #[.int .i64 yr, .int .i64 mo, .int .i64 dm, .int .i64 dy] w fun e w' => e = .returned (.bool true) ∧ Below w.heap.size w w' := by
  obtain ⟨d, g, KC, KD⟩ := dayOf_both yr mo dm
  obtain ⟨y, m, k, h, KE, KF⟩ := dateOf_both dy
  have KB : ¬ ((1 ≤ yr ∧ yr ≤ 9999) ∧ (1 ≤ mo ∧ mo ≤ 12)) → ∀ W, Calls Tryz.prog 14 #[.int .i64 yr, .int .i64 mo] W (Gives W #[.int .i64 0, .int .i64 1]) := fun q W => DaysIn_bad yr mo W q
  have KA : ¬ (1 ≤ yr ∧ yr ≤ 9999) → ∀ W, Calls Tryz.prog 13 #[.int .i64 yr] W (Gives W #[.bool false, .int .i64 1]) := fun q W => Leap_bad yr W q
  by_cases hi : 0 ≤ dy ∧ dy ≤ 3652058
  · obtain ⟨n, rfl⟩ : ∃ n : Nat, dy = (n : Int) := ⟨dy.toNat, by omega⟩
    have KG := fun W => Weekday_ok n W (by omega)
    have KJ := fun W => RIn_ok n W (by omega)
    have ht : ((n : Int)).tmod 7 = ((n % 7 : Nat) : Int) := tmodN n 7
    have hx : wrap64 ((n % 7 : Nat) : Int) = ((n % 7 : Nat) : Int) := w64 (by omega) (by omega)
    have hx2 : IntKind.i64.wrap ((n % 7 : Nat) : Int) = ((n % 7 : Nat) : Int) := i64i' (by omega) (by omega)
    rcases Int.lt_or_le yr 1 with q0 | q0
    · exact cd_y1i yr mo dm n d g y m k h _ w hE q0 ht hx hx2 (KA (by omega)) (KB (by omega)) KC KD KE KF KG KJ
    rcases Int.lt_or_le 9999 yr with q1 | q1
    · exact cd_y2i yr mo dm n d g y m k h _ w hE (by omega) q1 ht hx hx2 (KA (by omega)) (KB (by omega)) KC KD KE KF KG KJ
    obtain ⟨Y, rfl⟩ : ∃ Y : Nat, yr = (Y : Int) := ⟨yr.toNat, by omega⟩
    have KA := fun W => Leap_ok Y W (by omega) (by omega)
    have KH := fun W => RLeap_any Y W
    rcases Int.lt_or_le mo 1 with q2 | q2
    · exact cd_m1i Y mo dm n d g y m k h _ _ w hE (by omega) (by omega) q2 ht hx hx2 KA (KB (by omega)) KC KD KE KF KG KH KJ
    rcases Int.lt_or_le 12 mo with q3 | q3
    · exact cd_m2i Y mo dm n d g y m k h _ _ w hE (by omega) (by omega) (by omega) q3 ht hx hx2 KA (KB (by omega)) KC KD KE KF KG KH KJ
    obtain ⟨M, rfl⟩ : ∃ M : Nat, mo = (M : Int) := ⟨mo.toNat, by omega⟩
    exact cd_oki Y M dm n d g y m k h _ _ _ w hE (by omega) (by omega) (by omega) (by omega) ht hx hx2 KA (fun W => DaysIn_ok Y M W (by omega) (by omega) (by omega) (by omega)) KC KD KE KF KG KH (fun W => RDaysIn_any Y M W (by omega) (by omega)) KJ
  · have KG := fun W => Weekday_bad dy W hi
    have KJ := fun W => RIn_bad dy W hi
    rcases Int.lt_or_le yr 1 with q0 | q0
    · exact cd_y1o yr mo dm dy d g y m k h w hE q0 (KA (by omega)) (KB (by omega)) KC KD KE KF KG KJ
    rcases Int.lt_or_le 9999 yr with q1 | q1
    · exact cd_y2o yr mo dm dy d g y m k h w hE (by omega) q1 (KA (by omega)) (KB (by omega)) KC KD KE KF KG KJ
    obtain ⟨Y, rfl⟩ : ∃ Y : Nat, yr = (Y : Int) := ⟨yr.toNat, by omega⟩
    have KA := fun W => Leap_ok Y W (by omega) (by omega)
    have KH := fun W => RLeap_any Y W
    rcases Int.lt_or_le mo 1 with q2 | q2
    · exact cd_m1o Y mo dm dy d g y m k h _ w hE (by omega) (by omega) q2 KA (KB (by omega)) KC KD KE KF KG KH KJ
    rcases Int.lt_or_le 12 mo with q3 | q3
    · exact cd_m2o Y mo dm dy d g y m k h _ w hE (by omega) (by omega) (by omega) q3 KA (KB (by omega)) KC KD KE KF KG KH KJ
    obtain ⟨M, rfl⟩ : ∃ M : Nat, mo = (M : Int) := ⟨mo.toNat, by omega⟩
    exact cd_oko Y M dm dy d g y m k h _ _ w hE (by omega) (by omega) (by omega) (by omega) KA (fun W => DaysIn_ok Y M W (by omega) (by omega) (by omega) (by omega)) KC KD KE KF KG KH (fun W => RDaysIn_any Y M W (by omega) (by omega)) KJ
end Go.Proofs.YtmjifmlibgpjiaaGreatDoor
