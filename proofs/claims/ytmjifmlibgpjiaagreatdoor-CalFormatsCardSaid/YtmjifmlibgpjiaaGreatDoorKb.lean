/- The reference's Date. -/
import Derived.Test.YtmjifmlibgpjiaaGreatDoorKa
namespace Go.Proofs.YtmjifmlibgpjiaaGreatDoor
open Go.RowKit Go.Shelf Tx
set_option linter.unusedVariables false
set_option maxRecDepth 100000

theorem sinF (n b q : Nat) (hb : b ≤ n) (hn : n ≤ 4000000) (hq : q = n - b + 1) : IntKind.i64.wrap ((n : Int) - (b : Int)) = (n : Int) - (b : Int) ∧ wrap64 ((n : Int) - (b : Int)) = (n : Int) - (b : Int) ∧ IntKind.i64.wrap ((n : Int) - (b : Int) + 1) = (q : Int) ∧ wrap64 ((n : Int) - (b : Int) + 1) = (q : Int) ∧ q ≤ 9223372036854775807 := by
  have e : (n : Int) - (b : Int) + 1 = (q : Int) := by omega
  rw [e]
  exact ⟨i64i' (by omega) (by omega), w64 (by omega) (by omega), i64i' (by omega) (by omega), w64 (by omega) (by omega), by omega⟩
theorem cenF (y r p : Nat) (hy : y ≤ 9999) (hr : r = y % 100) (hp : p = cenY y - 1) : IntKind.i64.wrap ((y : Int) - (r : Int)) = (y : Int) - (r : Int) ∧ wrap64 ((y : Int) - (r : Int)) = (y : Int) - (r : Int) ∧ max (1 : Int) ((y : Int) - (r : Int)) = (p : Int) + 1 := by
  have h : 1 ≤ cenY y := by unfold cenY; omega
  have e : max (1 : Int) ((y : Int) - (r : Int)) = (cenY y : Int) := by unfold cenY; omega
  exact ⟨i64i' (by omega) (by omega), w64 (by omega) (by omega), by rw [e]; omega⟩
theorem le63 {n k : Nat} (h : n ≤ k) (hk : k ≤ 4000000) : n ≤ 9223372036854775807 := Nat.le_trans h (Nat.le_trans hk (by decide))
set_option maxHeartbeats 2000000 in
theorem RDate_bad (n x : Int) (w : World) (h : ¬ (0 ≤ n ∧ n ≤ 3652058)) : Calls Tryz.prog 29 #[.int .i64 n, .int .u8 x] w (GivesAT w [] 1) := by
  have K0 := fun W => Lib.hid (RDateOf_bad n W h)
  clear h
  go_enter Tryz.func29, Tryz.ntmps29
  go_wp2_with (go_at_call 18; refine Calls.mono (K0 _).out ?_; rintro e w1 ⟨rfl, hbb⟩; clear K0; have B1 := Lib.hid (Bl.step (show Below w.heap.size w _ by repeat (first | exact Below.refl _ _ | refine Bl.alloc ?_ _ | refine Bl.drew ?_ | refine Below.setCell ?_ (by simp) _)) hbb); have X1 := Lib.hid ((BoxC.new w 44 #[.string ⟨#[]⟩, .int .i64 0]).stayC hbb); have y0 := X1.out.cell (i := 0) rfl; have y1 := X1.out.cell (i := 1) rfl; have z0 := X1.out.frozen 0; have zz1 := X1.out.frozen 1; have s1 := X1.out.lt; clear hbb)
  have XF := ((X1.out.set 0 (.string ⟨#[]⟩)).set 1 (.int .i64 1)).alloc (.cells #[.int .i64 0, .int .i64 0, .int .i64 0, .int .i64 1] 34)
  have e0 := XF.cell (i := 0) rfl
  have e1 := XF.cell (i := 1) rfl
  refine bodyPost_ret (v := .agg #[.string ⟨#[]⟩, .int .i64 1]) (by simp [results, Tryz.results29, go_sem, e0, e1]) rfl ?_
  exact ⟨_, rfl, Lib.hid rfl, by repeat (first | exact Below.refl _ _ | exact B1.out | refine Bl.alloc ?_ _ | refine Bl.drew ?_ | refine Below.setCell ?_ (by simp) _)⟩
set_option maxHeartbeats 8000000 in
theorem RDate_E (n y m k : Nat) (w : World) (hd : IsDate n y m k) (h9 : y ≤ 9999) : Calls Tryz.prog 29 #[.int .i64 (n : Int), .int .u8 69] w (GivesAT w (shortL (k % 100) (m % 100) (y % 100)) 0) := by
  have K0 := fun W => Lib.hid (RDateOf_ok n y m k W hd h9)
  have h12 := hd.m12
  have h1 := hd.m1
  have h31 := day31 hd
  have hn9 := isDate_max hd h9
  obtain ⟨r, hr⟩ : ∃ r, r = y % 100 := ⟨_, rfl⟩
  have r100 : r < 100 := by rw [hr]; exact Nat.mod_lt _ (by decide)
  have LM : m ≤ 9223372036854775807 := le63 h12 (by decide)
  have LK : k ≤ 9223372036854775807 := le63 h31 (by decide)
  have LR : r ≤ 9223372036854775807 := le63 (Nat.le_of_lt r100) (by decide)
  have LY : y ≤ 9223372036854775807 := le63 h9 (by decide)
  have LN : n ≤ 9223372036854775807 := le63 hn9 (by decide)
  obtain ⟨m1, m2, m3, m4⟩ := tmlit y r 100 100 (by decide) hr LY
  have KM := fun W => Lib.hid (rpadded_any m 2 W LM (by decide))
  have KD := fun W => Lib.hid (rpadded_any k 2 W LK (by decide))
  have KR := fun W => Lib.hid (rpadded_any r 2 W LR (by decide))
  have KY := fun W => Lib.hid (rpadded_any y 4 W LY (by decide))
  have SM := Lib.hid LM
  have SK := Lib.hid LK
  have SR := Lib.hid LR
  have SY := Lib.hid LY
  have HL := Lib.hid (show shortL (k % 100) (m % 100) (y % 100) = _ from shortL_eq _ _ _)
  rw [Nat.mod_eq_of_lt (show k < 100 by omega), Nat.mod_eq_of_lt (show m < 100 by omega), ← hr] at HL ⊢
  clear hd h9 h12 h1 h31 hn9 hr r100 LM LK LR LY LN
  go_enter Tryz.func29, Tryz.ntmps29
  go_wp2_with (first
    | (go_at_call 18; refine Calls.mono (K0 _).out ?_; rintro e w1 ⟨rfl, hbb⟩; clear K0; have B1 := Lib.hid (Bl.step (show Below w.heap.size w _ by repeat (first | exact Below.refl _ _ | refine Bl.alloc ?_ _ | refine Bl.drew ?_ | refine Below.setCell ?_ (by simp) _)) hbb); have X1 := Lib.hid ((BoxC.new w 44 #[.string ⟨#[]⟩, .int .i64 0]).stayC hbb); clear hbb)
    | (go_at_call 61; (with_reducible refine Calls.mono (KM _).out ?_); rintro e w2 ⟨t2, rfl, ht2, hbb⟩; clear KM; have B2 := Lib.hid (Bl.step (show Below w.heap.size w _ by repeat (first | exact Below.refl _ _ | exact B1.out | refine Bl.alloc ?_ _ | refine Bl.drew ?_ | refine Below.setCell ?_ (by simp) _)) hbb); have X2 := Lib.hid ((X1.out.alloc _).stayC hbb); have D2 := Lib.hid ((BoxC.new w1 34 #[.int .i64 (y : Int), .int .i64 (m : Int), .int .i64 (k : Int), .int .i64 0]).stayC hbb); clear hbb; have D2c := D2.out.cell (i := 0) rfl; have D2d := D2.out.cell (i := 1) rfl; have D2e := D2.out.cell (i := 2) rfl; have D2f := D2.out.cell (i := 3) rfl; have Z2 := Lib.hid (tsize ht2 SM.out (by decide)))
    | (go_at_call 61; (with_reducible refine Calls.mono (KD _).out ?_); rintro e w3 ⟨t3, rfl, ht3, hbb⟩; clear KD; have B3 := Lib.hid (Bl.step (show Below w.heap.size w _ by repeat (first | exact Below.refl _ _ | exact B2.out | refine Bl.alloc ?_ _ | refine Bl.drew ?_ | refine Below.setCell ?_ (by simp) _)) hbb); have X3 := Lib.hid (X2.out.stayC hbb); have D3 := Lib.hid (D2.out.stayC hbb); clear hbb; have D3c := D3.out.cell (i := 0) rfl; have D3d := D3.out.cell (i := 1) rfl; have D3e := D3.out.cell (i := 2) rfl; have D3f := D3.out.cell (i := 3) rfl; have Z3 := Lib.hid (tsize ht3 SK.out (by decide)))
    | (go_at_call 61; (with_reducible refine Calls.mono (KR _).out ?_); rintro e w4 ⟨t4, rfl, ht4, hbb⟩; clear KR; have B4 := Lib.hid (Bl.step (show Below w.heap.size w _ by repeat (first | exact Below.refl _ _ | exact B3.out | refine Bl.alloc ?_ _ | refine Bl.drew ?_ | refine Below.setCell ?_ (by simp) _)) hbb); have X4 := Lib.hid (X3.out.stayC hbb); have D4 := Lib.hid (D3.out.stayC hbb); clear hbb; have D4c := D4.out.cell (i := 0) rfl; have D4d := D4.out.cell (i := 1) rfl; have D4e := D4.out.cell (i := 2) rfl; have D4f := D4.out.cell (i := 3) rfl; have Z4 := Lib.hid (tsize ht4 SR.out (by decide)))
    | (go_at_call 61; (with_reducible refine Calls.mono (KY _).out ?_); rintro e w5 ⟨t5, rfl, ht5, hbb⟩; clear KY; have B5 := Lib.hid (Bl.step (show Below w.heap.size w _ by repeat (first | exact Below.refl _ _ | exact B4.out | refine Bl.alloc ?_ _ | refine Bl.drew ?_ | refine Below.setCell ?_ (by simp) _)) hbb); have X5 := Lib.hid (X4.out.stayC hbb); have D5 := Lib.hid (D4.out.stayC hbb); clear hbb; have D5c := D5.out.cell (i := 0) rfl; have D5d := D5.out.cell (i := 1) rfl; have D5e := D5.out.cell (i := 2) rfl; have D5f := D5.out.cell (i := 3) rfl; have y0 := X5.out.cell (i := 0) rfl; have y1 := X5.out.cell (i := 1) rfl; have z0 := X5.out.frozen 0; have zz1 := X5.out.frozen 1; have s1 := X5.out.lt; have Z5 := Lib.hid (tsize ht5 SY.out (by decide)); have z19 : ¬ 9223372036854775807 < t3.size + 1 := (by have := Z2.out; have := Z3.out; have := Z4.out; have := Z5.out; omega); have z29 : ¬ 9223372036854775807 < t3.size + 1 + t2.size := (by have := Z2.out; have := Z3.out; have := Z4.out; have := Z5.out; omega); have z39 : ¬ 9223372036854775807 < t3.size + 1 + t2.size + 1 := (by have := Z2.out; have := Z3.out; have := Z4.out; have := Z5.out; omega); have z49 : ¬ 9223372036854775807 < t3.size + 1 + t2.size + 1 + t4.size := (by have := Z2.out; have := Z3.out; have := Z4.out; have := Z5.out; omega)))
  have e0 := (X5.out.set 0 (.string (t3 ++ ⟨#[47]⟩ ++ t2 ++ ⟨#[47]⟩ ++ t4))).cell (i := 0) rfl
  have e1 := ((X5.out.set 0 (.string (t3 ++ ⟨#[47]⟩ ++ t2 ++ ⟨#[47]⟩ ++ t4))).set 1 (.int .i64 0)).cell (i := 1) rfl
  refine bodyPost_ret (v := .agg #[.string (t3 ++ ⟨#[47]⟩ ++ t2 ++ ⟨#[47]⟩ ++ t4), .int .i64 0]) (by simp [results, Tryz.results29, go_sem, e0, e1]) rfl ?_
  exact ⟨_, rfl, Lib.hid (by rw [HL.out, bts_append, bts_append, bts_append, bts_append, ht2.out, ht3.out, ht4.out]; simp [bts_lit]), by repeat (first | exact Below.refl _ _ | exact B5.out | refine Bl.alloc ?_ _ | refine Bl.drew ?_ | refine Below.setCell ?_ (by simp) _)⟩
set_option maxHeartbeats 8000000 in
theorem RDate_none (n y m k : Nat) (x : Int) (x66 : (x == 66) = false) (y66 : ¬ x = 66) (x67 : (x == 67) = false) (y67 : ¬ x = 67) (x68 : (x == 68) = false) (y68 : ¬ x = 68) (x69 : (x == 69) = false) (y69 : ¬ x = 69) (x73 : (x == 73) = false) (y73 : ¬ x = 73) (x77 : (x == 77) = false) (y77 : ¬ x = 77) (x78 : (x == 78) = false) (y78 : ¬ x = 78) (x79 : (x == 79) = false) (y79 : ¬ x = 79) (x83 : (x == 83) = false) (y83 : ¬ x = 83) (x85 : (x == 85) = false) (y85 : ¬ x = 85) (x87 : (x == 87) = false) (y87 : ¬ x = 87) (w : World) (hd : IsDate n y m k) (h9 : y ≤ 9999) : Calls Tryz.prog 29 #[.int .i64 (n : Int), .int .u8 x] w (GivesAT w ([]) 1) := by
  have K0 := fun W => Lib.hid (RDateOf_ok n y m k W hd h9)
  have h12 := hd.m12
  have h1 := hd.m1
  have h31 := day31 hd
  have hn9 := isDate_max hd h9
  obtain ⟨r, hr⟩ : ∃ r, r = y % 100 := ⟨_, rfl⟩
  have r100 : r < 100 := by rw [hr]; exact Nat.mod_lt _ (by decide)
  have LM : m ≤ 9223372036854775807 := le63 h12 (by decide)
  have LK : k ≤ 9223372036854775807 := le63 h31 (by decide)
  have LR : r ≤ 9223372036854775807 := le63 (Nat.le_of_lt r100) (by decide)
  have LY : y ≤ 9223372036854775807 := le63 h9 (by decide)
  have LN : n ≤ 9223372036854775807 := le63 hn9 (by decide)
  obtain ⟨m1, m2, m3, m4⟩ := tmlit y r 100 100 (by decide) hr LY
  have KM := fun W => Lib.hid (rpadded_any m 2 W LM (by decide))
  have KD := fun W => Lib.hid (rpadded_any k 2 W LK (by decide))
  have KR := fun W => Lib.hid (rpadded_any r 2 W LR (by decide))
  have KY := fun W => Lib.hid (rpadded_any y 4 W LY (by decide))
  have SM := Lib.hid LM
  have SK := Lib.hid LK
  have SR := Lib.hid LR
  have SY := Lib.hid LY
  clear hd h9 h12 h1 h31 hn9 hr r100 LM LK LR LY LN
  go_enter Tryz.func29, Tryz.ntmps29
  go_wp2_with (first
    | (go_at_call 18; refine Calls.mono (K0 _).out ?_; rintro e w1 ⟨rfl, hbb⟩; clear K0; have B1 := Lib.hid (Bl.step (show Below w.heap.size w _ by repeat (first | exact Below.refl _ _ | refine Bl.alloc ?_ _ | refine Bl.drew ?_ | refine Below.setCell ?_ (by simp) _)) hbb); have X1 := Lib.hid ((BoxC.new w 44 #[.string ⟨#[]⟩, .int .i64 0]).stayC hbb); clear hbb)
    | (go_at_call 61; (with_reducible refine Calls.mono (KM _).out ?_); rintro e w2 ⟨t2, rfl, ht2, hbb⟩; clear KM; have B2 := Lib.hid (Bl.step (show Below w.heap.size w _ by repeat (first | exact Below.refl _ _ | exact B1.out | refine Bl.alloc ?_ _ | refine Bl.drew ?_ | refine Below.setCell ?_ (by simp) _)) hbb); have X2 := Lib.hid ((X1.out.alloc _).stayC hbb); have D2 := Lib.hid ((BoxC.new w1 34 #[.int .i64 (y : Int), .int .i64 (m : Int), .int .i64 (k : Int), .int .i64 0]).stayC hbb); clear hbb; have D2c := D2.out.cell (i := 0) rfl; have D2d := D2.out.cell (i := 1) rfl; have D2e := D2.out.cell (i := 2) rfl; have D2f := D2.out.cell (i := 3) rfl; have Z2 := Lib.hid (tsize ht2 SM.out (by decide)))
    | (go_at_call 61; (with_reducible refine Calls.mono (KD _).out ?_); rintro e w3 ⟨t3, rfl, ht3, hbb⟩; clear KD; have B3 := Lib.hid (Bl.step (show Below w.heap.size w _ by repeat (first | exact Below.refl _ _ | exact B2.out | refine Bl.alloc ?_ _ | refine Bl.drew ?_ | refine Below.setCell ?_ (by simp) _)) hbb); have X3 := Lib.hid (X2.out.stayC hbb); have D3 := Lib.hid (D2.out.stayC hbb); clear hbb; have D3c := D3.out.cell (i := 0) rfl; have D3d := D3.out.cell (i := 1) rfl; have D3e := D3.out.cell (i := 2) rfl; have D3f := D3.out.cell (i := 3) rfl; have Z3 := Lib.hid (tsize ht3 SK.out (by decide)))
    | (go_at_call 61; (with_reducible refine Calls.mono (KR _).out ?_); rintro e w4 ⟨t4, rfl, ht4, hbb⟩; clear KR; have B4 := Lib.hid (Bl.step (show Below w.heap.size w _ by repeat (first | exact Below.refl _ _ | exact B3.out | refine Bl.alloc ?_ _ | refine Bl.drew ?_ | refine Below.setCell ?_ (by simp) _)) hbb); have X4 := Lib.hid (X3.out.stayC hbb); have D4 := Lib.hid (D3.out.stayC hbb); clear hbb; have D4c := D4.out.cell (i := 0) rfl; have D4d := D4.out.cell (i := 1) rfl; have D4e := D4.out.cell (i := 2) rfl; have D4f := D4.out.cell (i := 3) rfl; have Z4 := Lib.hid (tsize ht4 SR.out (by decide)))
    | (go_at_call 61; (with_reducible refine Calls.mono (KY _).out ?_); rintro e w5 ⟨t5, rfl, ht5, hbb⟩; clear KY; have B5 := Lib.hid (Bl.step (show Below w.heap.size w _ by repeat (first | exact Below.refl _ _ | exact B4.out | refine Bl.alloc ?_ _ | refine Bl.drew ?_ | refine Below.setCell ?_ (by simp) _)) hbb); have X5 := Lib.hid (X4.out.stayC hbb); have D5 := Lib.hid (D4.out.stayC hbb); clear hbb; have D5c := D5.out.cell (i := 0) rfl; have D5d := D5.out.cell (i := 1) rfl; have D5e := D5.out.cell (i := 2) rfl; have D5f := D5.out.cell (i := 3) rfl; have y0 := X5.out.cell (i := 0) rfl; have y1 := X5.out.cell (i := 1) rfl; have z0 := X5.out.frozen 0; have zz1 := X5.out.frozen 1; have s1 := X5.out.lt; have Z5 := Lib.hid (tsize ht5 SY.out (by decide))))
  have e0 := (X5.out.set 0 (.string ⟨#[]⟩)).cell (i := 0) rfl
  have e1 := ((X5.out.set 0 (.string ⟨#[]⟩)).set 1 (.int .i64 1)).cell (i := 1) rfl
  refine bodyPost_ret (v := .agg #[.string ⟨#[]⟩, .int .i64 1]) (by simp [results, Tryz.results29, go_sem, e0, e1]) rfl ?_
  exact ⟨_, rfl, Lib.hid (by rfl), by repeat (first | exact Below.refl _ _ | exact B5.out | refine Bl.alloc ?_ _ | refine Bl.drew ?_ | refine Below.setCell ?_ (by simp) _)⟩
end Go.Proofs.YtmjifmlibgpjiaaGreatDoor
namespace Go.Proofs.YtmjifmlibgpjiaaGreatDoor
open Go.RowKit Go.Shelf Tx
set_option linter.unusedVariables false
set_option maxRecDepth 100000

set_option maxHeartbeats 8000000 in
theorem RDate_B (n y m k : Nat) (w : World) (hd : IsDate n y m k) (h9 : y ≤ 9999) : Calls Tryz.prog 29 #[.int .i64 (n : Int), .int .u8 66] w (GivesAT w (Lib.decDigits n) 0) := by
  have K0 := fun W => Lib.hid (RDateOf_ok n y m k W hd h9)
  have h12 := hd.m12
  have h1 := hd.m1
  have h31 := day31 hd
  have hn9 := isDate_max hd h9
  obtain ⟨r, hr⟩ : ∃ r, r = y % 100 := ⟨_, rfl⟩
  have r100 : r < 100 := by rw [hr]; exact Nat.mod_lt _ (by decide)
  have LM : m ≤ 9223372036854775807 := le63 h12 (by decide)
  have LK : k ≤ 9223372036854775807 := le63 h31 (by decide)
  have LR : r ≤ 9223372036854775807 := le63 (Nat.le_of_lt r100) (by decide)
  have LY : y ≤ 9223372036854775807 := le63 h9 (by decide)
  have LN : n ≤ 9223372036854775807 := le63 hn9 (by decide)
  obtain ⟨m1, m2, m3, m4⟩ := tmlit y r 100 100 (by decide) hr LY
  have KM := fun W => Lib.hid (rpadded_any m 2 W LM (by decide))
  have KD := fun W => Lib.hid (rpadded_any k 2 W LK (by decide))
  have KR := fun W => Lib.hid (rpadded_any r 2 W LR (by decide))
  have KY := fun W => Lib.hid (rpadded_any y 4 W LY (by decide))
  have SM := Lib.hid LM
  have SK := Lib.hid LK
  have SR := Lib.hid LR
  have SY := Lib.hid LY
  have KX := fun W => Lib.hid (rtext_any n LN W)
  clear hd h9 h12 h1 h31 hn9 hr r100 LM LK LR LY LN
  go_enter Tryz.func29, Tryz.ntmps29
  go_wp2_with (first
    | (go_at_call 18; refine Calls.mono (K0 _).out ?_; rintro e w1 ⟨rfl, hbb⟩; clear K0; have B1 := Lib.hid (Bl.step (show Below w.heap.size w _ by repeat (first | exact Below.refl _ _ | refine Bl.alloc ?_ _ | refine Bl.drew ?_ | refine Below.setCell ?_ (by simp) _)) hbb); have X1 := Lib.hid ((BoxC.new w 44 #[.string ⟨#[]⟩, .int .i64 0]).stayC hbb); clear hbb)
    | (go_at_call 61; (with_reducible refine Calls.mono (KM _).out ?_); rintro e w2 ⟨t2, rfl, ht2, hbb⟩; clear KM; have B2 := Lib.hid (Bl.step (show Below w.heap.size w _ by repeat (first | exact Below.refl _ _ | exact B1.out | refine Bl.alloc ?_ _ | refine Bl.drew ?_ | refine Below.setCell ?_ (by simp) _)) hbb); have X2 := Lib.hid ((X1.out.alloc _).stayC hbb); have D2 := Lib.hid ((BoxC.new w1 34 #[.int .i64 (y : Int), .int .i64 (m : Int), .int .i64 (k : Int), .int .i64 0]).stayC hbb); clear hbb; have D2c := D2.out.cell (i := 0) rfl; have D2d := D2.out.cell (i := 1) rfl; have D2e := D2.out.cell (i := 2) rfl; have D2f := D2.out.cell (i := 3) rfl; have Z2 := Lib.hid (tsize ht2 SM.out (by decide)))
    | (go_at_call 61; (with_reducible refine Calls.mono (KD _).out ?_); rintro e w3 ⟨t3, rfl, ht3, hbb⟩; clear KD; have B3 := Lib.hid (Bl.step (show Below w.heap.size w _ by repeat (first | exact Below.refl _ _ | exact B2.out | refine Bl.alloc ?_ _ | refine Bl.drew ?_ | refine Below.setCell ?_ (by simp) _)) hbb); have X3 := Lib.hid (X2.out.stayC hbb); have D3 := Lib.hid (D2.out.stayC hbb); clear hbb; have D3c := D3.out.cell (i := 0) rfl; have D3d := D3.out.cell (i := 1) rfl; have D3e := D3.out.cell (i := 2) rfl; have D3f := D3.out.cell (i := 3) rfl; have Z3 := Lib.hid (tsize ht3 SK.out (by decide)))
    | (go_at_call 61; (with_reducible refine Calls.mono (KR _).out ?_); rintro e w4 ⟨t4, rfl, ht4, hbb⟩; clear KR; have B4 := Lib.hid (Bl.step (show Below w.heap.size w _ by repeat (first | exact Below.refl _ _ | exact B3.out | refine Bl.alloc ?_ _ | refine Bl.drew ?_ | refine Below.setCell ?_ (by simp) _)) hbb); have X4 := Lib.hid (X3.out.stayC hbb); have D4 := Lib.hid (D3.out.stayC hbb); clear hbb; have D4c := D4.out.cell (i := 0) rfl; have D4d := D4.out.cell (i := 1) rfl; have D4e := D4.out.cell (i := 2) rfl; have D4f := D4.out.cell (i := 3) rfl; have Z4 := Lib.hid (tsize ht4 SR.out (by decide)))
    | (go_at_call 61; (with_reducible refine Calls.mono (KY _).out ?_); rintro e w5 ⟨t5, rfl, ht5, hbb⟩; clear KY; have B5 := Lib.hid (Bl.step (show Below w.heap.size w _ by repeat (first | exact Below.refl _ _ | exact B4.out | refine Bl.alloc ?_ _ | refine Bl.drew ?_ | refine Below.setCell ?_ (by simp) _)) hbb); have X5 := Lib.hid (X4.out.stayC hbb); have D5 := Lib.hid (D4.out.stayC hbb); clear hbb; have D5c := D5.out.cell (i := 0) rfl; have D5d := D5.out.cell (i := 1) rfl; have D5e := D5.out.cell (i := 2) rfl; have D5f := D5.out.cell (i := 3) rfl; have Z5 := Lib.hid (tsize ht5 SY.out (by decide)))
    | (go_at_call 62; (with_reducible refine Calls.mono (KX _).out ?_); rintro e w6 ⟨t6, rfl, ht6, hbb⟩; clear KX; have B6 := Lib.hid (Bl.step (show Below w.heap.size w _ by repeat (first | exact Below.refl _ _ | exact B5.out | refine Bl.alloc ?_ _ | refine Bl.drew ?_ | refine Below.setCell ?_ (by simp) _)) hbb); have X6 := Lib.hid (X5.out.stayC hbb); have D6 := Lib.hid (D5.out.stayC hbb); clear hbb; have D6c := D6.out.cell (i := 0) rfl; have D6d := D6.out.cell (i := 1) rfl; have D6e := D6.out.cell (i := 2) rfl; have D6f := D6.out.cell (i := 3) rfl; have y0 := X6.out.cell (i := 0) rfl; have y1 := X6.out.cell (i := 1) rfl; have z0 := X6.out.frozen 0; have zz1 := X6.out.frozen 1; have s1 := X6.out.lt))
  have e0 := (X6.out.set 0 (.string t6)).cell (i := 0) rfl
  have e1 := ((X6.out.set 0 (.string t6)).set 1 (.int .i64 0)).cell (i := 1) rfl
  refine bodyPost_ret (v := .agg #[.string t6, .int .i64 0]) (by simp [results, Tryz.results29, go_sem, e0, e1]) rfl ?_
  exact ⟨_, rfl, Lib.hid (by exact ht6.out), by repeat (first | exact Below.refl _ _ | exact B6.out | refine Bl.alloc ?_ _ | refine Bl.drew ?_ | refine Below.setCell ?_ (by simp) _)⟩
set_option maxHeartbeats 8000000 in
theorem RDate_C (n y m k : Nat) (w : World) (hd : IsDate n y m k) (h9 : y ≤ 9999) : Calls Tryz.prog 29 #[.int .i64 (n : Int), .int .u8 67] w (GivesAT w (Lib.decDigits (n - bef (cenY y - 1) + 1)) 0) := by
  have K0 := fun W => Lib.hid (RDateOf_ok n y m k W hd h9)
  have h12 := hd.m12
  have h1 := hd.m1
  have h31 := day31 hd
  have hn9 := isDate_max hd h9
  obtain ⟨r, hr⟩ : ∃ r, r = y % 100 := ⟨_, rfl⟩
  have r100 : r < 100 := by rw [hr]; exact Nat.mod_lt _ (by decide)
  have LM : m ≤ 9223372036854775807 := le63 h12 (by decide)
  have LK : k ≤ 9223372036854775807 := le63 h31 (by decide)
  have LR : r ≤ 9223372036854775807 := le63 (Nat.le_of_lt r100) (by decide)
  have LY : y ≤ 9223372036854775807 := le63 h9 (by decide)
  have LN : n ≤ 9223372036854775807 := le63 hn9 (by decide)
  obtain ⟨m1, m2, m3, m4⟩ := tmlit y r 100 100 (by decide) hr LY
  have KM := fun W => Lib.hid (rpadded_any m 2 W LM (by decide))
  have KD := fun W => Lib.hid (rpadded_any k 2 W LK (by decide))
  have KR := fun W => Lib.hid (rpadded_any r 2 W LR (by decide))
  have KY := fun W => Lib.hid (rpadded_any y 4 W LY (by decide))
  have SM := Lib.hid LM
  have SK := Lib.hid LK
  have SR := Lib.hid LR
  have SY := Lib.hid LY
  obtain ⟨p, hp⟩ : ∃ p, p = cenY y - 1 := ⟨_, rfl⟩
  have hy1 := hd.y1
  have hcy : 1 ≤ cenY y ∧ cenY y ≤ y := by unfold cenY; omega
  have hbl : bef p ≤ n := by rw [hp]; exact Nat.le_trans (bef_mono (by omega)) hd.isYear.lo
  obtain ⟨g1, g2, g3⟩ := cenF y r p h9 hr hp
  have hp9 : p ≤ 20000 := by omega
  rw [← hp]
  obtain ⟨b, hb⟩ : ∃ b, b = bef p := ⟨_, rfl⟩
  obtain ⟨q, hq⟩ : ∃ q, q = n - b + 1 := ⟨_, rfl⟩
  rw [← hb] at hbl ⊢
  rw [← hq]
  obtain ⟨g4, g5, g6, g7, LQ⟩ := sinF n b q hbl (Nat.le_trans hn9 (by decide)) hq
  have KB := fun W => Lib.hid (Rbefore_any p W hp9)
  rw [← hb] at KB
  clear hcy
  have KX := fun W => Lib.hid (rtext_any q LQ W)
  clear hp hy1 hbl hb hq LQ hp9
  clear hd h9 h12 h1 h31 hn9 hr r100 LM LK LR LY LN
  go_enter Tryz.func29, Tryz.ntmps29
  go_wp2_with (first
    | (go_at_call 18; refine Calls.mono (K0 _).out ?_; rintro e w1 ⟨rfl, hbb⟩; clear K0; have B1 := Lib.hid (Bl.step (show Below w.heap.size w _ by repeat (first | exact Below.refl _ _ | refine Bl.alloc ?_ _ | refine Bl.drew ?_ | refine Below.setCell ?_ (by simp) _)) hbb); have X1 := Lib.hid ((BoxC.new w 44 #[.string ⟨#[]⟩, .int .i64 0]).stayC hbb); clear hbb)
    | (go_at_call 61; (with_reducible refine Calls.mono (KM _).out ?_); rintro e w2 ⟨t2, rfl, ht2, hbb⟩; clear KM; have B2 := Lib.hid (Bl.step (show Below w.heap.size w _ by repeat (first | exact Below.refl _ _ | exact B1.out | refine Bl.alloc ?_ _ | refine Bl.drew ?_ | refine Below.setCell ?_ (by simp) _)) hbb); have X2 := Lib.hid ((X1.out.alloc _).stayC hbb); have D2 := Lib.hid ((BoxC.new w1 34 #[.int .i64 (y : Int), .int .i64 (m : Int), .int .i64 (k : Int), .int .i64 0]).stayC hbb); clear hbb; have D2c := D2.out.cell (i := 0) rfl; have D2d := D2.out.cell (i := 1) rfl; have D2e := D2.out.cell (i := 2) rfl; have D2f := D2.out.cell (i := 3) rfl; have Z2 := Lib.hid (tsize ht2 SM.out (by decide)))
    | (go_at_call 61; (with_reducible refine Calls.mono (KD _).out ?_); rintro e w3 ⟨t3, rfl, ht3, hbb⟩; clear KD; have B3 := Lib.hid (Bl.step (show Below w.heap.size w _ by repeat (first | exact Below.refl _ _ | exact B2.out | refine Bl.alloc ?_ _ | refine Bl.drew ?_ | refine Below.setCell ?_ (by simp) _)) hbb); have X3 := Lib.hid (X2.out.stayC hbb); have D3 := Lib.hid (D2.out.stayC hbb); clear hbb; have D3c := D3.out.cell (i := 0) rfl; have D3d := D3.out.cell (i := 1) rfl; have D3e := D3.out.cell (i := 2) rfl; have D3f := D3.out.cell (i := 3) rfl; have Z3 := Lib.hid (tsize ht3 SK.out (by decide)))
    | (go_at_call 61; (with_reducible refine Calls.mono (KR _).out ?_); rintro e w4 ⟨t4, rfl, ht4, hbb⟩; clear KR; have B4 := Lib.hid (Bl.step (show Below w.heap.size w _ by repeat (first | exact Below.refl _ _ | exact B3.out | refine Bl.alloc ?_ _ | refine Bl.drew ?_ | refine Below.setCell ?_ (by simp) _)) hbb); have X4 := Lib.hid (X3.out.stayC hbb); have D4 := Lib.hid (D3.out.stayC hbb); clear hbb; have D4c := D4.out.cell (i := 0) rfl; have D4d := D4.out.cell (i := 1) rfl; have D4e := D4.out.cell (i := 2) rfl; have D4f := D4.out.cell (i := 3) rfl; have Z4 := Lib.hid (tsize ht4 SR.out (by decide)))
    | (go_at_call 61; (with_reducible refine Calls.mono (KY _).out ?_); rintro e w5 ⟨t5, rfl, ht5, hbb⟩; clear KY; have B5 := Lib.hid (Bl.step (show Below w.heap.size w _ by repeat (first | exact Below.refl _ _ | exact B4.out | refine Bl.alloc ?_ _ | refine Bl.drew ?_ | refine Below.setCell ?_ (by simp) _)) hbb); have X5 := Lib.hid (X4.out.stayC hbb); have D5 := Lib.hid (D4.out.stayC hbb); clear hbb; have D5c := D5.out.cell (i := 0) rfl; have D5d := D5.out.cell (i := 1) rfl; have D5e := D5.out.cell (i := 2) rfl; have D5f := D5.out.cell (i := 3) rfl; have Z5 := Lib.hid (tsize ht5 SY.out (by decide)))
    | (go_at_call 50; refine Calls.mono (KB _).out ?_; rintro e wb ⟨rfl, rfl⟩)
    | (go_at_call 62; (with_reducible refine Calls.mono (KX _).out ?_); rintro e w6 ⟨t6, rfl, ht6, hbb⟩; clear KX; have B6 := Lib.hid (Bl.step (show Below w.heap.size w _ by repeat (first | exact Below.refl _ _ | exact B5.out | refine Bl.alloc ?_ _ | refine Bl.drew ?_ | refine Below.setCell ?_ (by simp) _)) hbb); have X6 := Lib.hid (X5.out.stayC hbb); have D6 := Lib.hid (D5.out.stayC hbb); clear hbb; have D6c := D6.out.cell (i := 0) rfl; have D6d := D6.out.cell (i := 1) rfl; have D6e := D6.out.cell (i := 2) rfl; have D6f := D6.out.cell (i := 3) rfl; have y0 := X6.out.cell (i := 0) rfl; have y1 := X6.out.cell (i := 1) rfl; have z0 := X6.out.frozen 0; have zz1 := X6.out.frozen 1; have s1 := X6.out.lt))
  have e0 := (X6.out.set 0 (.string t6)).cell (i := 0) rfl
  have e1 := ((X6.out.set 0 (.string t6)).set 1 (.int .i64 0)).cell (i := 1) rfl
  refine bodyPost_ret (v := .agg #[.string t6, .int .i64 0]) (by simp [results, Tryz.results29, go_sem, e0, e1]) rfl ?_
  exact ⟨_, rfl, Lib.hid (by exact ht6.out), by repeat (first | exact Below.refl _ _ | exact B6.out | refine Bl.alloc ?_ _ | refine Bl.drew ?_ | refine Below.setCell ?_ (by simp) _)⟩
set_option maxHeartbeats 8000000 in
theorem RDate_D (n y m k : Nat) (w : World) (hd : IsDate n y m k) (h9 : y ≤ 9999) : Calls Tryz.prog 29 #[.int .i64 (n : Int), .int .u8 68] w (GivesAT w (Lib.decDigits (n - bef (y - 1) + 1)) 0) := by
  have K0 := fun W => Lib.hid (RDateOf_ok n y m k W hd h9)
  have h12 := hd.m12
  have h1 := hd.m1
  have h31 := day31 hd
  have hn9 := isDate_max hd h9
  obtain ⟨r, hr⟩ : ∃ r, r = y % 100 := ⟨_, rfl⟩
  have r100 : r < 100 := by rw [hr]; exact Nat.mod_lt _ (by decide)
  have LM : m ≤ 9223372036854775807 := le63 h12 (by decide)
  have LK : k ≤ 9223372036854775807 := le63 h31 (by decide)
  have LR : r ≤ 9223372036854775807 := le63 (Nat.le_of_lt r100) (by decide)
  have LY : y ≤ 9223372036854775807 := le63 h9 (by decide)
  have LN : n ≤ 9223372036854775807 := le63 hn9 (by decide)
  obtain ⟨m1, m2, m3, m4⟩ := tmlit y r 100 100 (by decide) hr LY
  have KM := fun W => Lib.hid (rpadded_any m 2 W LM (by decide))
  have KD := fun W => Lib.hid (rpadded_any k 2 W LK (by decide))
  have KR := fun W => Lib.hid (rpadded_any r 2 W LR (by decide))
  have KY := fun W => Lib.hid (rpadded_any y 4 W LY (by decide))
  have SM := Lib.hid LM
  have SK := Lib.hid LK
  have SR := Lib.hid LR
  have SY := Lib.hid LY
  obtain ⟨p, hp⟩ : ∃ p, p = y - 1 := ⟨_, rfl⟩
  have hy1 := hd.y1
  have hbl : bef p ≤ n := by rw [hp]; exact hd.isYear.lo
  have hp9 : p ≤ 20000 := by omega
  have ey : (y : Int) = (p : Int) + 1 := by omega
  rw [← hp]
  obtain ⟨b, hb⟩ : ∃ b, b = bef p := ⟨_, rfl⟩
  obtain ⟨q, hq⟩ : ∃ q, q = n - b + 1 := ⟨_, rfl⟩
  rw [← hb] at hbl ⊢
  rw [← hq]
  obtain ⟨g4, g5, g6, g7, LQ⟩ := sinF n b q hbl (Nat.le_trans hn9 (by decide)) hq
  have KB := fun W => Lib.hid (Rbefore_any p W hp9)
  rw [← hb, ← ey] at KB
  clear ey
  have KX := fun W => Lib.hid (rtext_any q LQ W)
  clear hp hy1 hbl hb hq LQ hp9
  clear hd h9 h12 h1 h31 hn9 hr r100 LM LK LR LY LN
  go_enter Tryz.func29, Tryz.ntmps29
  go_wp2_with (first
    | (go_at_call 18; refine Calls.mono (K0 _).out ?_; rintro e w1 ⟨rfl, hbb⟩; clear K0; have B1 := Lib.hid (Bl.step (show Below w.heap.size w _ by repeat (first | exact Below.refl _ _ | refine Bl.alloc ?_ _ | refine Bl.drew ?_ | refine Below.setCell ?_ (by simp) _)) hbb); have X1 := Lib.hid ((BoxC.new w 44 #[.string ⟨#[]⟩, .int .i64 0]).stayC hbb); clear hbb)
    | (go_at_call 61; (with_reducible refine Calls.mono (KM _).out ?_); rintro e w2 ⟨t2, rfl, ht2, hbb⟩; clear KM; have B2 := Lib.hid (Bl.step (show Below w.heap.size w _ by repeat (first | exact Below.refl _ _ | exact B1.out | refine Bl.alloc ?_ _ | refine Bl.drew ?_ | refine Below.setCell ?_ (by simp) _)) hbb); have X2 := Lib.hid ((X1.out.alloc _).stayC hbb); have D2 := Lib.hid ((BoxC.new w1 34 #[.int .i64 (y : Int), .int .i64 (m : Int), .int .i64 (k : Int), .int .i64 0]).stayC hbb); clear hbb; have D2c := D2.out.cell (i := 0) rfl; have D2d := D2.out.cell (i := 1) rfl; have D2e := D2.out.cell (i := 2) rfl; have D2f := D2.out.cell (i := 3) rfl; have Z2 := Lib.hid (tsize ht2 SM.out (by decide)))
    | (go_at_call 61; (with_reducible refine Calls.mono (KD _).out ?_); rintro e w3 ⟨t3, rfl, ht3, hbb⟩; clear KD; have B3 := Lib.hid (Bl.step (show Below w.heap.size w _ by repeat (first | exact Below.refl _ _ | exact B2.out | refine Bl.alloc ?_ _ | refine Bl.drew ?_ | refine Below.setCell ?_ (by simp) _)) hbb); have X3 := Lib.hid (X2.out.stayC hbb); have D3 := Lib.hid (D2.out.stayC hbb); clear hbb; have D3c := D3.out.cell (i := 0) rfl; have D3d := D3.out.cell (i := 1) rfl; have D3e := D3.out.cell (i := 2) rfl; have D3f := D3.out.cell (i := 3) rfl; have Z3 := Lib.hid (tsize ht3 SK.out (by decide)))
    | (go_at_call 61; (with_reducible refine Calls.mono (KR _).out ?_); rintro e w4 ⟨t4, rfl, ht4, hbb⟩; clear KR; have B4 := Lib.hid (Bl.step (show Below w.heap.size w _ by repeat (first | exact Below.refl _ _ | exact B3.out | refine Bl.alloc ?_ _ | refine Bl.drew ?_ | refine Below.setCell ?_ (by simp) _)) hbb); have X4 := Lib.hid (X3.out.stayC hbb); have D4 := Lib.hid (D3.out.stayC hbb); clear hbb; have D4c := D4.out.cell (i := 0) rfl; have D4d := D4.out.cell (i := 1) rfl; have D4e := D4.out.cell (i := 2) rfl; have D4f := D4.out.cell (i := 3) rfl; have Z4 := Lib.hid (tsize ht4 SR.out (by decide)))
    | (go_at_call 61; (with_reducible refine Calls.mono (KY _).out ?_); rintro e w5 ⟨t5, rfl, ht5, hbb⟩; clear KY; have B5 := Lib.hid (Bl.step (show Below w.heap.size w _ by repeat (first | exact Below.refl _ _ | exact B4.out | refine Bl.alloc ?_ _ | refine Bl.drew ?_ | refine Below.setCell ?_ (by simp) _)) hbb); have X5 := Lib.hid (X4.out.stayC hbb); have D5 := Lib.hid (D4.out.stayC hbb); clear hbb; have D5c := D5.out.cell (i := 0) rfl; have D5d := D5.out.cell (i := 1) rfl; have D5e := D5.out.cell (i := 2) rfl; have D5f := D5.out.cell (i := 3) rfl; have Z5 := Lib.hid (tsize ht5 SY.out (by decide)))
    | (go_at_call 50; refine Calls.mono (KB _).out ?_; rintro e wb ⟨rfl, rfl⟩)
    | (go_at_call 62; (with_reducible refine Calls.mono (KX _).out ?_); rintro e w6 ⟨t6, rfl, ht6, hbb⟩; clear KX; have B6 := Lib.hid (Bl.step (show Below w.heap.size w _ by repeat (first | exact Below.refl _ _ | exact B5.out | refine Bl.alloc ?_ _ | refine Bl.drew ?_ | refine Below.setCell ?_ (by simp) _)) hbb); have X6 := Lib.hid (X5.out.stayC hbb); have D6 := Lib.hid (D5.out.stayC hbb); clear hbb; have D6c := D6.out.cell (i := 0) rfl; have D6d := D6.out.cell (i := 1) rfl; have D6e := D6.out.cell (i := 2) rfl; have D6f := D6.out.cell (i := 3) rfl; have y0 := X6.out.cell (i := 0) rfl; have y1 := X6.out.cell (i := 1) rfl; have z0 := X6.out.frozen 0; have zz1 := X6.out.frozen 1; have s1 := X6.out.lt))
  have e0 := (X6.out.set 0 (.string t6)).cell (i := 0) rfl
  have e1 := ((X6.out.set 0 (.string t6)).set 1 (.int .i64 0)).cell (i := 1) rfl
  refine bodyPost_ret (v := .agg #[.string t6, .int .i64 0]) (by simp [results, Tryz.results29, go_sem, e0, e1]) rfl ?_
  exact ⟨_, rfl, Lib.hid (by exact ht6.out), by repeat (first | exact Below.refl _ _ | exact B6.out | refine Bl.alloc ?_ _ | refine Bl.drew ?_ | refine Below.setCell ?_ (by simp) _)⟩
set_option maxHeartbeats 8000000 in
theorem RDate_I (n y m k : Nat) (w : World) (hd : IsDate n y m k) (h9 : y ≤ 9999) : Calls Tryz.prog 29 #[.int .i64 (n : Int), .int .u8 73] w (GivesAT w (longL [45] y m k) 0) := by
  have K0 := fun W => Lib.hid (RDateOf_ok n y m k W hd h9)
  have h12 := hd.m12
  have h1 := hd.m1
  have h31 := day31 hd
  have hn9 := isDate_max hd h9
  obtain ⟨r, hr⟩ : ∃ r, r = y % 100 := ⟨_, rfl⟩
  have r100 : r < 100 := by rw [hr]; exact Nat.mod_lt _ (by decide)
  have LM : m ≤ 9223372036854775807 := le63 h12 (by decide)
  have LK : k ≤ 9223372036854775807 := le63 h31 (by decide)
  have LR : r ≤ 9223372036854775807 := le63 (Nat.le_of_lt r100) (by decide)
  have LY : y ≤ 9223372036854775807 := le63 h9 (by decide)
  have LN : n ≤ 9223372036854775807 := le63 hn9 (by decide)
  obtain ⟨m1, m2, m3, m4⟩ := tmlit y r 100 100 (by decide) hr LY
  have KM := fun W => Lib.hid (rpadded_any m 2 W LM (by decide))
  have KD := fun W => Lib.hid (rpadded_any k 2 W LK (by decide))
  have KR := fun W => Lib.hid (rpadded_any r 2 W LR (by decide))
  have KY := fun W => Lib.hid (rpadded_any y 4 W LY (by decide))
  have SM := Lib.hid LM
  have SK := Lib.hid LK
  have SR := Lib.hid LR
  have SY := Lib.hid LY
  have HL := Lib.hid (longL_eq [45] y m k)
  clear hd h9 h12 h1 h31 hn9 hr r100 LM LK LR LY LN
  go_enter Tryz.func29, Tryz.ntmps29
  go_wp2_with (first
    | (go_at_call 18; refine Calls.mono (K0 _).out ?_; rintro e w1 ⟨rfl, hbb⟩; clear K0; have B1 := Lib.hid (Bl.step (show Below w.heap.size w _ by repeat (first | exact Below.refl _ _ | refine Bl.alloc ?_ _ | refine Bl.drew ?_ | refine Below.setCell ?_ (by simp) _)) hbb); have X1 := Lib.hid ((BoxC.new w 44 #[.string ⟨#[]⟩, .int .i64 0]).stayC hbb); clear hbb)
    | (go_at_call 61; (with_reducible refine Calls.mono (KM _).out ?_); rintro e w2 ⟨t2, rfl, ht2, hbb⟩; clear KM; have B2 := Lib.hid (Bl.step (show Below w.heap.size w _ by repeat (first | exact Below.refl _ _ | exact B1.out | refine Bl.alloc ?_ _ | refine Bl.drew ?_ | refine Below.setCell ?_ (by simp) _)) hbb); have X2 := Lib.hid ((X1.out.alloc _).stayC hbb); have D2 := Lib.hid ((BoxC.new w1 34 #[.int .i64 (y : Int), .int .i64 (m : Int), .int .i64 (k : Int), .int .i64 0]).stayC hbb); clear hbb; have D2c := D2.out.cell (i := 0) rfl; have D2d := D2.out.cell (i := 1) rfl; have D2e := D2.out.cell (i := 2) rfl; have D2f := D2.out.cell (i := 3) rfl; have Z2 := Lib.hid (tsize ht2 SM.out (by decide)))
    | (go_at_call 61; (with_reducible refine Calls.mono (KD _).out ?_); rintro e w3 ⟨t3, rfl, ht3, hbb⟩; clear KD; have B3 := Lib.hid (Bl.step (show Below w.heap.size w _ by repeat (first | exact Below.refl _ _ | exact B2.out | refine Bl.alloc ?_ _ | refine Bl.drew ?_ | refine Below.setCell ?_ (by simp) _)) hbb); have X3 := Lib.hid (X2.out.stayC hbb); have D3 := Lib.hid (D2.out.stayC hbb); clear hbb; have D3c := D3.out.cell (i := 0) rfl; have D3d := D3.out.cell (i := 1) rfl; have D3e := D3.out.cell (i := 2) rfl; have D3f := D3.out.cell (i := 3) rfl; have Z3 := Lib.hid (tsize ht3 SK.out (by decide)))
    | (go_at_call 61; (with_reducible refine Calls.mono (KR _).out ?_); rintro e w4 ⟨t4, rfl, ht4, hbb⟩; clear KR; have B4 := Lib.hid (Bl.step (show Below w.heap.size w _ by repeat (first | exact Below.refl _ _ | exact B3.out | refine Bl.alloc ?_ _ | refine Bl.drew ?_ | refine Below.setCell ?_ (by simp) _)) hbb); have X4 := Lib.hid (X3.out.stayC hbb); have D4 := Lib.hid (D3.out.stayC hbb); clear hbb; have D4c := D4.out.cell (i := 0) rfl; have D4d := D4.out.cell (i := 1) rfl; have D4e := D4.out.cell (i := 2) rfl; have D4f := D4.out.cell (i := 3) rfl; have Z4 := Lib.hid (tsize ht4 SR.out (by decide)))
    | (go_at_call 61; (with_reducible refine Calls.mono (KY _).out ?_); rintro e w5 ⟨t5, rfl, ht5, hbb⟩; clear KY; have B5 := Lib.hid (Bl.step (show Below w.heap.size w _ by repeat (first | exact Below.refl _ _ | exact B4.out | refine Bl.alloc ?_ _ | refine Bl.drew ?_ | refine Below.setCell ?_ (by simp) _)) hbb); have X5 := Lib.hid (X4.out.stayC hbb); have D5 := Lib.hid (D4.out.stayC hbb); clear hbb; have D5c := D5.out.cell (i := 0) rfl; have D5d := D5.out.cell (i := 1) rfl; have D5e := D5.out.cell (i := 2) rfl; have D5f := D5.out.cell (i := 3) rfl; have y0 := X5.out.cell (i := 0) rfl; have y1 := X5.out.cell (i := 1) rfl; have z0 := X5.out.frozen 0; have zz1 := X5.out.frozen 1; have s1 := X5.out.lt; have Z5 := Lib.hid (tsize ht5 SY.out (by decide)); have z19 : ¬ 9223372036854775807 < t5.size + 1 := (by have := Z2.out; have := Z3.out; have := Z4.out; have := Z5.out; omega); have z29 : ¬ 9223372036854775807 < t5.size + 1 + t2.size := (by have := Z2.out; have := Z3.out; have := Z4.out; have := Z5.out; omega); have z39 : ¬ 9223372036854775807 < t5.size + 1 + t2.size + 1 := (by have := Z2.out; have := Z3.out; have := Z4.out; have := Z5.out; omega); have z49 : ¬ 9223372036854775807 < t5.size + 1 + t2.size + 1 + t3.size := (by have := Z2.out; have := Z3.out; have := Z4.out; have := Z5.out; omega)))
  have e0 := (X5.out.set 0 (.string (t5 ++ ⟨#[45]⟩ ++ t2 ++ ⟨#[45]⟩ ++ t3))).cell (i := 0) rfl
  have e1 := ((X5.out.set 0 (.string (t5 ++ ⟨#[45]⟩ ++ t2 ++ ⟨#[45]⟩ ++ t3))).set 1 (.int .i64 0)).cell (i := 1) rfl
  refine bodyPost_ret (v := .agg #[.string (t5 ++ ⟨#[45]⟩ ++ t2 ++ ⟨#[45]⟩ ++ t3), .int .i64 0]) (by simp [results, Tryz.results29, go_sem, e0, e1]) rfl ?_
  exact ⟨_, rfl, Lib.hid (by rw [HL.out, bts_append, bts_append, bts_append, bts_append, ht2.out, ht3.out, ht5.out]; simp [bts_lit]), by repeat (first | exact Below.refl _ _ | exact B5.out | refine Bl.alloc ?_ _ | refine Bl.drew ?_ | refine Below.setCell ?_ (by simp) _)⟩
end Go.Proofs.YtmjifmlibgpjiaaGreatDoor
namespace Go.Proofs.YtmjifmlibgpjiaaGreatDoor
open Go.RowKit Go.Shelf Tx
set_option linter.unusedVariables false
set_option maxRecDepth 100000

set_option maxHeartbeats 8000000 in
theorem RDate_O (n y m k : Nat) (w : World) (hd : IsDate n y m k) (h9 : y ≤ 9999) : Calls Tryz.prog 29 #[.int .i64 (n : Int), .int .u8 79] w (GivesAT w (shortL (y % 100) (m % 100) (k % 100)) 0) := by
  have K0 := fun W => Lib.hid (RDateOf_ok n y m k W hd h9)
  have h12 := hd.m12
  have h1 := hd.m1
  have h31 := day31 hd
  have hn9 := isDate_max hd h9
  obtain ⟨r, hr⟩ : ∃ r, r = y % 100 := ⟨_, rfl⟩
  have r100 : r < 100 := by rw [hr]; exact Nat.mod_lt _ (by decide)
  have LM : m ≤ 9223372036854775807 := le63 h12 (by decide)
  have LK : k ≤ 9223372036854775807 := le63 h31 (by decide)
  have LR : r ≤ 9223372036854775807 := le63 (Nat.le_of_lt r100) (by decide)
  have LY : y ≤ 9223372036854775807 := le63 h9 (by decide)
  have LN : n ≤ 9223372036854775807 := le63 hn9 (by decide)
  obtain ⟨m1, m2, m3, m4⟩ := tmlit y r 100 100 (by decide) hr LY
  have KM := fun W => Lib.hid (rpadded_any m 2 W LM (by decide))
  have KD := fun W => Lib.hid (rpadded_any k 2 W LK (by decide))
  have KR := fun W => Lib.hid (rpadded_any r 2 W LR (by decide))
  have KY := fun W => Lib.hid (rpadded_any y 4 W LY (by decide))
  have SM := Lib.hid LM
  have SK := Lib.hid LK
  have SR := Lib.hid LR
  have SY := Lib.hid LY
  have HL := Lib.hid (show shortL (y % 100) (m % 100) (k % 100) = _ from shortL_eq _ _ _)
  rw [Nat.mod_eq_of_lt (show k < 100 by omega), Nat.mod_eq_of_lt (show m < 100 by omega), ← hr] at HL ⊢
  clear hd h9 h12 h1 h31 hn9 hr r100 LM LK LR LY LN
  go_enter Tryz.func29, Tryz.ntmps29
  go_wp2_with (first
    | (go_at_call 18; refine Calls.mono (K0 _).out ?_; rintro e w1 ⟨rfl, hbb⟩; clear K0; have B1 := Lib.hid (Bl.step (show Below w.heap.size w _ by repeat (first | exact Below.refl _ _ | refine Bl.alloc ?_ _ | refine Bl.drew ?_ | refine Below.setCell ?_ (by simp) _)) hbb); have X1 := Lib.hid ((BoxC.new w 44 #[.string ⟨#[]⟩, .int .i64 0]).stayC hbb); clear hbb)
    | (go_at_call 61; (with_reducible refine Calls.mono (KM _).out ?_); rintro e w2 ⟨t2, rfl, ht2, hbb⟩; clear KM; have B2 := Lib.hid (Bl.step (show Below w.heap.size w _ by repeat (first | exact Below.refl _ _ | exact B1.out | refine Bl.alloc ?_ _ | refine Bl.drew ?_ | refine Below.setCell ?_ (by simp) _)) hbb); have X2 := Lib.hid ((X1.out.alloc _).stayC hbb); have D2 := Lib.hid ((BoxC.new w1 34 #[.int .i64 (y : Int), .int .i64 (m : Int), .int .i64 (k : Int), .int .i64 0]).stayC hbb); clear hbb; have D2c := D2.out.cell (i := 0) rfl; have D2d := D2.out.cell (i := 1) rfl; have D2e := D2.out.cell (i := 2) rfl; have D2f := D2.out.cell (i := 3) rfl; have Z2 := Lib.hid (tsize ht2 SM.out (by decide)))
    | (go_at_call 61; (with_reducible refine Calls.mono (KD _).out ?_); rintro e w3 ⟨t3, rfl, ht3, hbb⟩; clear KD; have B3 := Lib.hid (Bl.step (show Below w.heap.size w _ by repeat (first | exact Below.refl _ _ | exact B2.out | refine Bl.alloc ?_ _ | refine Bl.drew ?_ | refine Below.setCell ?_ (by simp) _)) hbb); have X3 := Lib.hid (X2.out.stayC hbb); have D3 := Lib.hid (D2.out.stayC hbb); clear hbb; have D3c := D3.out.cell (i := 0) rfl; have D3d := D3.out.cell (i := 1) rfl; have D3e := D3.out.cell (i := 2) rfl; have D3f := D3.out.cell (i := 3) rfl; have Z3 := Lib.hid (tsize ht3 SK.out (by decide)))
    | (go_at_call 61; (with_reducible refine Calls.mono (KR _).out ?_); rintro e w4 ⟨t4, rfl, ht4, hbb⟩; clear KR; have B4 := Lib.hid (Bl.step (show Below w.heap.size w _ by repeat (first | exact Below.refl _ _ | exact B3.out | refine Bl.alloc ?_ _ | refine Bl.drew ?_ | refine Below.setCell ?_ (by simp) _)) hbb); have X4 := Lib.hid (X3.out.stayC hbb); have D4 := Lib.hid (D3.out.stayC hbb); clear hbb; have D4c := D4.out.cell (i := 0) rfl; have D4d := D4.out.cell (i := 1) rfl; have D4e := D4.out.cell (i := 2) rfl; have D4f := D4.out.cell (i := 3) rfl; have Z4 := Lib.hid (tsize ht4 SR.out (by decide)))
    | (go_at_call 61; (with_reducible refine Calls.mono (KY _).out ?_); rintro e w5 ⟨t5, rfl, ht5, hbb⟩; clear KY; have B5 := Lib.hid (Bl.step (show Below w.heap.size w _ by repeat (first | exact Below.refl _ _ | exact B4.out | refine Bl.alloc ?_ _ | refine Bl.drew ?_ | refine Below.setCell ?_ (by simp) _)) hbb); have X5 := Lib.hid (X4.out.stayC hbb); have D5 := Lib.hid (D4.out.stayC hbb); clear hbb; have D5c := D5.out.cell (i := 0) rfl; have D5d := D5.out.cell (i := 1) rfl; have D5e := D5.out.cell (i := 2) rfl; have D5f := D5.out.cell (i := 3) rfl; have y0 := X5.out.cell (i := 0) rfl; have y1 := X5.out.cell (i := 1) rfl; have z0 := X5.out.frozen 0; have zz1 := X5.out.frozen 1; have s1 := X5.out.lt; have Z5 := Lib.hid (tsize ht5 SY.out (by decide)); have z19 : ¬ 9223372036854775807 < t4.size + 1 := (by have := Z2.out; have := Z3.out; have := Z4.out; have := Z5.out; omega); have z29 : ¬ 9223372036854775807 < t4.size + 1 + t2.size := (by have := Z2.out; have := Z3.out; have := Z4.out; have := Z5.out; omega); have z39 : ¬ 9223372036854775807 < t4.size + 1 + t2.size + 1 := (by have := Z2.out; have := Z3.out; have := Z4.out; have := Z5.out; omega); have z49 : ¬ 9223372036854775807 < t4.size + 1 + t2.size + 1 + t3.size := (by have := Z2.out; have := Z3.out; have := Z4.out; have := Z5.out; omega)))
  have e0 := (X5.out.set 0 (.string (t4 ++ ⟨#[47]⟩ ++ t2 ++ ⟨#[47]⟩ ++ t3))).cell (i := 0) rfl
  have e1 := ((X5.out.set 0 (.string (t4 ++ ⟨#[47]⟩ ++ t2 ++ ⟨#[47]⟩ ++ t3))).set 1 (.int .i64 0)).cell (i := 1) rfl
  refine bodyPost_ret (v := .agg #[.string (t4 ++ ⟨#[47]⟩ ++ t2 ++ ⟨#[47]⟩ ++ t3), .int .i64 0]) (by simp [results, Tryz.results29, go_sem, e0, e1]) rfl ?_
  exact ⟨_, rfl, Lib.hid (by rw [HL.out, bts_append, bts_append, bts_append, bts_append, ht2.out, ht3.out, ht4.out]; simp [bts_lit]), by repeat (first | exact Below.refl _ _ | exact B5.out | refine Bl.alloc ?_ _ | refine Bl.drew ?_ | refine Below.setCell ?_ (by simp) _)⟩
set_option maxHeartbeats 8000000 in
theorem RDate_S (n y m k : Nat) (w : World) (hd : IsDate n y m k) (h9 : y ≤ 9999) : Calls Tryz.prog 29 #[.int .i64 (n : Int), .int .u8 83] w (GivesAT w (longL [] y m k) 0) := by
  have K0 := fun W => Lib.hid (RDateOf_ok n y m k W hd h9)
  have h12 := hd.m12
  have h1 := hd.m1
  have h31 := day31 hd
  have hn9 := isDate_max hd h9
  obtain ⟨r, hr⟩ : ∃ r, r = y % 100 := ⟨_, rfl⟩
  have r100 : r < 100 := by rw [hr]; exact Nat.mod_lt _ (by decide)
  have LM : m ≤ 9223372036854775807 := le63 h12 (by decide)
  have LK : k ≤ 9223372036854775807 := le63 h31 (by decide)
  have LR : r ≤ 9223372036854775807 := le63 (Nat.le_of_lt r100) (by decide)
  have LY : y ≤ 9223372036854775807 := le63 h9 (by decide)
  have LN : n ≤ 9223372036854775807 := le63 hn9 (by decide)
  obtain ⟨m1, m2, m3, m4⟩ := tmlit y r 100 100 (by decide) hr LY
  have KM := fun W => Lib.hid (rpadded_any m 2 W LM (by decide))
  have KD := fun W => Lib.hid (rpadded_any k 2 W LK (by decide))
  have KR := fun W => Lib.hid (rpadded_any r 2 W LR (by decide))
  have KY := fun W => Lib.hid (rpadded_any y 4 W LY (by decide))
  have SM := Lib.hid LM
  have SK := Lib.hid LK
  have SR := Lib.hid LR
  have SY := Lib.hid LY
  have HL := Lib.hid (longL_eq [] y m k)
  clear hd h9 h12 h1 h31 hn9 hr r100 LM LK LR LY LN
  go_enter Tryz.func29, Tryz.ntmps29
  go_wp2_with (first
    | (go_at_call 18; refine Calls.mono (K0 _).out ?_; rintro e w1 ⟨rfl, hbb⟩; clear K0; have B1 := Lib.hid (Bl.step (show Below w.heap.size w _ by repeat (first | exact Below.refl _ _ | refine Bl.alloc ?_ _ | refine Bl.drew ?_ | refine Below.setCell ?_ (by simp) _)) hbb); have X1 := Lib.hid ((BoxC.new w 44 #[.string ⟨#[]⟩, .int .i64 0]).stayC hbb); clear hbb)
    | (go_at_call 61; (with_reducible refine Calls.mono (KM _).out ?_); rintro e w2 ⟨t2, rfl, ht2, hbb⟩; clear KM; have B2 := Lib.hid (Bl.step (show Below w.heap.size w _ by repeat (first | exact Below.refl _ _ | exact B1.out | refine Bl.alloc ?_ _ | refine Bl.drew ?_ | refine Below.setCell ?_ (by simp) _)) hbb); have X2 := Lib.hid ((X1.out.alloc _).stayC hbb); have D2 := Lib.hid ((BoxC.new w1 34 #[.int .i64 (y : Int), .int .i64 (m : Int), .int .i64 (k : Int), .int .i64 0]).stayC hbb); clear hbb; have D2c := D2.out.cell (i := 0) rfl; have D2d := D2.out.cell (i := 1) rfl; have D2e := D2.out.cell (i := 2) rfl; have D2f := D2.out.cell (i := 3) rfl; have Z2 := Lib.hid (tsize ht2 SM.out (by decide)))
    | (go_at_call 61; (with_reducible refine Calls.mono (KD _).out ?_); rintro e w3 ⟨t3, rfl, ht3, hbb⟩; clear KD; have B3 := Lib.hid (Bl.step (show Below w.heap.size w _ by repeat (first | exact Below.refl _ _ | exact B2.out | refine Bl.alloc ?_ _ | refine Bl.drew ?_ | refine Below.setCell ?_ (by simp) _)) hbb); have X3 := Lib.hid (X2.out.stayC hbb); have D3 := Lib.hid (D2.out.stayC hbb); clear hbb; have D3c := D3.out.cell (i := 0) rfl; have D3d := D3.out.cell (i := 1) rfl; have D3e := D3.out.cell (i := 2) rfl; have D3f := D3.out.cell (i := 3) rfl; have Z3 := Lib.hid (tsize ht3 SK.out (by decide)))
    | (go_at_call 61; (with_reducible refine Calls.mono (KR _).out ?_); rintro e w4 ⟨t4, rfl, ht4, hbb⟩; clear KR; have B4 := Lib.hid (Bl.step (show Below w.heap.size w _ by repeat (first | exact Below.refl _ _ | exact B3.out | refine Bl.alloc ?_ _ | refine Bl.drew ?_ | refine Below.setCell ?_ (by simp) _)) hbb); have X4 := Lib.hid (X3.out.stayC hbb); have D4 := Lib.hid (D3.out.stayC hbb); clear hbb; have D4c := D4.out.cell (i := 0) rfl; have D4d := D4.out.cell (i := 1) rfl; have D4e := D4.out.cell (i := 2) rfl; have D4f := D4.out.cell (i := 3) rfl; have Z4 := Lib.hid (tsize ht4 SR.out (by decide)))
    | (go_at_call 61; (with_reducible refine Calls.mono (KY _).out ?_); rintro e w5 ⟨t5, rfl, ht5, hbb⟩; clear KY; have B5 := Lib.hid (Bl.step (show Below w.heap.size w _ by repeat (first | exact Below.refl _ _ | exact B4.out | refine Bl.alloc ?_ _ | refine Bl.drew ?_ | refine Below.setCell ?_ (by simp) _)) hbb); have X5 := Lib.hid (X4.out.stayC hbb); have D5 := Lib.hid (D4.out.stayC hbb); clear hbb; have D5c := D5.out.cell (i := 0) rfl; have D5d := D5.out.cell (i := 1) rfl; have D5e := D5.out.cell (i := 2) rfl; have D5f := D5.out.cell (i := 3) rfl; have y0 := X5.out.cell (i := 0) rfl; have y1 := X5.out.cell (i := 1) rfl; have z0 := X5.out.frozen 0; have zz1 := X5.out.frozen 1; have s1 := X5.out.lt; have Z5 := Lib.hid (tsize ht5 SY.out (by decide)); have z19 : ¬ 9223372036854775807 < t5.size + t2.size := (by have := Z2.out; have := Z3.out; have := Z4.out; have := Z5.out; omega); have z29 : ¬ 9223372036854775807 < t5.size + t2.size + t3.size := (by have := Z2.out; have := Z3.out; have := Z4.out; have := Z5.out; omega)))
  have e0 := (X5.out.set 0 (.string (t5 ++ t2 ++ t3))).cell (i := 0) rfl
  have e1 := ((X5.out.set 0 (.string (t5 ++ t2 ++ t3))).set 1 (.int .i64 0)).cell (i := 1) rfl
  refine bodyPost_ret (v := .agg #[.string (t5 ++ t2 ++ t3), .int .i64 0]) (by simp [results, Tryz.results29, go_sem, e0, e1]) rfl ?_
  exact ⟨_, rfl, Lib.hid (by rw [HL.out, bts_append, bts_append, ht2.out, ht3.out, ht5.out]; simp [bts_lit]), by repeat (first | exact Below.refl _ _ | exact B5.out | refine Bl.alloc ?_ _ | refine Bl.drew ?_ | refine Below.setCell ?_ (by simp) _)⟩
set_option maxHeartbeats 8000000 in
theorem RDate_U (n y m k : Nat) (w : World) (hd : IsDate n y m k) (h9 : y ≤ 9999) : Calls Tryz.prog 29 #[.int .i64 (n : Int), .int .u8 85] w (GivesAT w (shortL (m % 100) (k % 100) (y % 100)) 0) := by
  have K0 := fun W => Lib.hid (RDateOf_ok n y m k W hd h9)
  have h12 := hd.m12
  have h1 := hd.m1
  have h31 := day31 hd
  have hn9 := isDate_max hd h9
  obtain ⟨r, hr⟩ : ∃ r, r = y % 100 := ⟨_, rfl⟩
  have r100 : r < 100 := by rw [hr]; exact Nat.mod_lt _ (by decide)
  have LM : m ≤ 9223372036854775807 := le63 h12 (by decide)
  have LK : k ≤ 9223372036854775807 := le63 h31 (by decide)
  have LR : r ≤ 9223372036854775807 := le63 (Nat.le_of_lt r100) (by decide)
  have LY : y ≤ 9223372036854775807 := le63 h9 (by decide)
  have LN : n ≤ 9223372036854775807 := le63 hn9 (by decide)
  obtain ⟨m1, m2, m3, m4⟩ := tmlit y r 100 100 (by decide) hr LY
  have KM := fun W => Lib.hid (rpadded_any m 2 W LM (by decide))
  have KD := fun W => Lib.hid (rpadded_any k 2 W LK (by decide))
  have KR := fun W => Lib.hid (rpadded_any r 2 W LR (by decide))
  have KY := fun W => Lib.hid (rpadded_any y 4 W LY (by decide))
  have SM := Lib.hid LM
  have SK := Lib.hid LK
  have SR := Lib.hid LR
  have SY := Lib.hid LY
  have HL := Lib.hid (show shortL (m % 100) (k % 100) (y % 100) = _ from shortL_eq _ _ _)
  rw [Nat.mod_eq_of_lt (show k < 100 by omega), Nat.mod_eq_of_lt (show m < 100 by omega), ← hr] at HL ⊢
  clear hd h9 h12 h1 h31 hn9 hr r100 LM LK LR LY LN
  go_enter Tryz.func29, Tryz.ntmps29
  go_wp2_with (first
    | (go_at_call 18; refine Calls.mono (K0 _).out ?_; rintro e w1 ⟨rfl, hbb⟩; clear K0; have B1 := Lib.hid (Bl.step (show Below w.heap.size w _ by repeat (first | exact Below.refl _ _ | refine Bl.alloc ?_ _ | refine Bl.drew ?_ | refine Below.setCell ?_ (by simp) _)) hbb); have X1 := Lib.hid ((BoxC.new w 44 #[.string ⟨#[]⟩, .int .i64 0]).stayC hbb); clear hbb)
    | (go_at_call 61; (with_reducible refine Calls.mono (KM _).out ?_); rintro e w2 ⟨t2, rfl, ht2, hbb⟩; clear KM; have B2 := Lib.hid (Bl.step (show Below w.heap.size w _ by repeat (first | exact Below.refl _ _ | exact B1.out | refine Bl.alloc ?_ _ | refine Bl.drew ?_ | refine Below.setCell ?_ (by simp) _)) hbb); have X2 := Lib.hid ((X1.out.alloc _).stayC hbb); have D2 := Lib.hid ((BoxC.new w1 34 #[.int .i64 (y : Int), .int .i64 (m : Int), .int .i64 (k : Int), .int .i64 0]).stayC hbb); clear hbb; have D2c := D2.out.cell (i := 0) rfl; have D2d := D2.out.cell (i := 1) rfl; have D2e := D2.out.cell (i := 2) rfl; have D2f := D2.out.cell (i := 3) rfl; have Z2 := Lib.hid (tsize ht2 SM.out (by decide)))
    | (go_at_call 61; (with_reducible refine Calls.mono (KD _).out ?_); rintro e w3 ⟨t3, rfl, ht3, hbb⟩; clear KD; have B3 := Lib.hid (Bl.step (show Below w.heap.size w _ by repeat (first | exact Below.refl _ _ | exact B2.out | refine Bl.alloc ?_ _ | refine Bl.drew ?_ | refine Below.setCell ?_ (by simp) _)) hbb); have X3 := Lib.hid (X2.out.stayC hbb); have D3 := Lib.hid (D2.out.stayC hbb); clear hbb; have D3c := D3.out.cell (i := 0) rfl; have D3d := D3.out.cell (i := 1) rfl; have D3e := D3.out.cell (i := 2) rfl; have D3f := D3.out.cell (i := 3) rfl; have Z3 := Lib.hid (tsize ht3 SK.out (by decide)))
    | (go_at_call 61; (with_reducible refine Calls.mono (KR _).out ?_); rintro e w4 ⟨t4, rfl, ht4, hbb⟩; clear KR; have B4 := Lib.hid (Bl.step (show Below w.heap.size w _ by repeat (first | exact Below.refl _ _ | exact B3.out | refine Bl.alloc ?_ _ | refine Bl.drew ?_ | refine Below.setCell ?_ (by simp) _)) hbb); have X4 := Lib.hid (X3.out.stayC hbb); have D4 := Lib.hid (D3.out.stayC hbb); clear hbb; have D4c := D4.out.cell (i := 0) rfl; have D4d := D4.out.cell (i := 1) rfl; have D4e := D4.out.cell (i := 2) rfl; have D4f := D4.out.cell (i := 3) rfl; have Z4 := Lib.hid (tsize ht4 SR.out (by decide)))
    | (go_at_call 61; (with_reducible refine Calls.mono (KY _).out ?_); rintro e w5 ⟨t5, rfl, ht5, hbb⟩; clear KY; have B5 := Lib.hid (Bl.step (show Below w.heap.size w _ by repeat (first | exact Below.refl _ _ | exact B4.out | refine Bl.alloc ?_ _ | refine Bl.drew ?_ | refine Below.setCell ?_ (by simp) _)) hbb); have X5 := Lib.hid (X4.out.stayC hbb); have D5 := Lib.hid (D4.out.stayC hbb); clear hbb; have D5c := D5.out.cell (i := 0) rfl; have D5d := D5.out.cell (i := 1) rfl; have D5e := D5.out.cell (i := 2) rfl; have D5f := D5.out.cell (i := 3) rfl; have y0 := X5.out.cell (i := 0) rfl; have y1 := X5.out.cell (i := 1) rfl; have z0 := X5.out.frozen 0; have zz1 := X5.out.frozen 1; have s1 := X5.out.lt; have Z5 := Lib.hid (tsize ht5 SY.out (by decide)); have z19 : ¬ 9223372036854775807 < t2.size + 1 := (by have := Z2.out; have := Z3.out; have := Z4.out; have := Z5.out; omega); have z29 : ¬ 9223372036854775807 < t2.size + 1 + t3.size := (by have := Z2.out; have := Z3.out; have := Z4.out; have := Z5.out; omega); have z39 : ¬ 9223372036854775807 < t2.size + 1 + t3.size + 1 := (by have := Z2.out; have := Z3.out; have := Z4.out; have := Z5.out; omega); have z49 : ¬ 9223372036854775807 < t2.size + 1 + t3.size + 1 + t4.size := (by have := Z2.out; have := Z3.out; have := Z4.out; have := Z5.out; omega)))
  have e0 := (X5.out.set 0 (.string (t2 ++ ⟨#[47]⟩ ++ t3 ++ ⟨#[47]⟩ ++ t4))).cell (i := 0) rfl
  have e1 := ((X5.out.set 0 (.string (t2 ++ ⟨#[47]⟩ ++ t3 ++ ⟨#[47]⟩ ++ t4))).set 1 (.int .i64 0)).cell (i := 1) rfl
  refine bodyPost_ret (v := .agg #[.string (t2 ++ ⟨#[47]⟩ ++ t3 ++ ⟨#[47]⟩ ++ t4), .int .i64 0]) (by simp [results, Tryz.results29, go_sem, e0, e1]) rfl ?_
  exact ⟨_, rfl, Lib.hid (by rw [HL.out, bts_append, bts_append, bts_append, bts_append, ht2.out, ht3.out, ht4.out]; simp [bts_lit]), by repeat (first | exact Below.refl _ _ | exact B5.out | refine Bl.alloc ?_ _ | refine Bl.drew ?_ | refine Below.setCell ?_ (by simp) _)⟩
set_option maxHeartbeats 8000000 in
theorem RDate_M (n y m k : Nat) (w : World) (hd : IsDate n y m k) (h9 : y ≤ 9999) : Calls Tryz.prog 29 #[.int .i64 (n : Int), .int .u8 77] w (GivesAT w (monN m) 0) := by
  have K0 := fun W => Lib.hid (RDateOf_ok n y m k W hd h9)
  have h12 := hd.m12
  have h1 := hd.m1
  have h31 := day31 hd
  have hn9 := isDate_max hd h9
  obtain ⟨r, hr⟩ : ∃ r, r = y % 100 := ⟨_, rfl⟩
  have r100 : r < 100 := by rw [hr]; exact Nat.mod_lt _ (by decide)
  have LM : m ≤ 9223372036854775807 := le63 h12 (by decide)
  have LK : k ≤ 9223372036854775807 := le63 h31 (by decide)
  have LR : r ≤ 9223372036854775807 := le63 (Nat.le_of_lt r100) (by decide)
  have LY : y ≤ 9223372036854775807 := le63 h9 (by decide)
  have LN : n ≤ 9223372036854775807 := le63 hn9 (by decide)
  obtain ⟨m1, m2, m3, m4⟩ := tmlit y r 100 100 (by decide) hr LY
  have KM := fun W => Lib.hid (rpadded_any m 2 W LM (by decide))
  have KD := fun W => Lib.hid (rpadded_any k 2 W LK (by decide))
  have KR := fun W => Lib.hid (rpadded_any r 2 W LR (by decide))
  have KY := fun W => Lib.hid (rpadded_any y 4 W LY (by decide))
  have SM := Lib.hid LM
  have SK := Lib.hid LK
  have SR := Lib.hid LR
  have SY := Lib.hid LY
  have KX := fun W => Lib.hid (Rmonth_any m W h1 h12)
  clear hd h9 h12 h1 h31 hn9 hr r100 LM LK LR LY LN
  go_enter Tryz.func29, Tryz.ntmps29
  go_wp2_with (first
    | (go_at_call 18; refine Calls.mono (K0 _).out ?_; rintro e w1 ⟨rfl, hbb⟩; clear K0; have B1 := Lib.hid (Bl.step (show Below w.heap.size w _ by repeat (first | exact Below.refl _ _ | refine Bl.alloc ?_ _ | refine Bl.drew ?_ | refine Below.setCell ?_ (by simp) _)) hbb); have X1 := Lib.hid ((BoxC.new w 44 #[.string ⟨#[]⟩, .int .i64 0]).stayC hbb); clear hbb)
    | (go_at_call 61; (with_reducible refine Calls.mono (KM _).out ?_); rintro e w2 ⟨t2, rfl, ht2, hbb⟩; clear KM; have B2 := Lib.hid (Bl.step (show Below w.heap.size w _ by repeat (first | exact Below.refl _ _ | exact B1.out | refine Bl.alloc ?_ _ | refine Bl.drew ?_ | refine Below.setCell ?_ (by simp) _)) hbb); have X2 := Lib.hid ((X1.out.alloc _).stayC hbb); have D2 := Lib.hid ((BoxC.new w1 34 #[.int .i64 (y : Int), .int .i64 (m : Int), .int .i64 (k : Int), .int .i64 0]).stayC hbb); clear hbb; have D2c := D2.out.cell (i := 0) rfl; have D2d := D2.out.cell (i := 1) rfl; have D2e := D2.out.cell (i := 2) rfl; have D2f := D2.out.cell (i := 3) rfl; have Z2 := Lib.hid (tsize ht2 SM.out (by decide)))
    | (go_at_call 61; (with_reducible refine Calls.mono (KD _).out ?_); rintro e w3 ⟨t3, rfl, ht3, hbb⟩; clear KD; have B3 := Lib.hid (Bl.step (show Below w.heap.size w _ by repeat (first | exact Below.refl _ _ | exact B2.out | refine Bl.alloc ?_ _ | refine Bl.drew ?_ | refine Below.setCell ?_ (by simp) _)) hbb); have X3 := Lib.hid (X2.out.stayC hbb); have D3 := Lib.hid (D2.out.stayC hbb); clear hbb; have D3c := D3.out.cell (i := 0) rfl; have D3d := D3.out.cell (i := 1) rfl; have D3e := D3.out.cell (i := 2) rfl; have D3f := D3.out.cell (i := 3) rfl; have Z3 := Lib.hid (tsize ht3 SK.out (by decide)))
    | (go_at_call 61; (with_reducible refine Calls.mono (KR _).out ?_); rintro e w4 ⟨t4, rfl, ht4, hbb⟩; clear KR; have B4 := Lib.hid (Bl.step (show Below w.heap.size w _ by repeat (first | exact Below.refl _ _ | exact B3.out | refine Bl.alloc ?_ _ | refine Bl.drew ?_ | refine Below.setCell ?_ (by simp) _)) hbb); have X4 := Lib.hid (X3.out.stayC hbb); have D4 := Lib.hid (D3.out.stayC hbb); clear hbb; have D4c := D4.out.cell (i := 0) rfl; have D4d := D4.out.cell (i := 1) rfl; have D4e := D4.out.cell (i := 2) rfl; have D4f := D4.out.cell (i := 3) rfl; have Z4 := Lib.hid (tsize ht4 SR.out (by decide)))
    | (go_at_call 61; (with_reducible refine Calls.mono (KY _).out ?_); rintro e w5 ⟨t5, rfl, ht5, hbb⟩; clear KY; have B5 := Lib.hid (Bl.step (show Below w.heap.size w _ by repeat (first | exact Below.refl _ _ | exact B4.out | refine Bl.alloc ?_ _ | refine Bl.drew ?_ | refine Below.setCell ?_ (by simp) _)) hbb); have X5 := Lib.hid (X4.out.stayC hbb); have D5 := Lib.hid (D4.out.stayC hbb); clear hbb; have D5c := D5.out.cell (i := 0) rfl; have D5d := D5.out.cell (i := 1) rfl; have D5e := D5.out.cell (i := 2) rfl; have D5f := D5.out.cell (i := 3) rfl; have Z5 := Lib.hid (tsize ht5 SY.out (by decide)))
    | (go_at_call 63; (with_reducible refine Calls.mono (KX _).out ?_); rintro e w6 ⟨t6, rfl, ht6, hbb⟩; clear KX; have B6 := Lib.hid (Bl.step (show Below w.heap.size w _ by repeat (first | exact Below.refl _ _ | exact B5.out | refine Bl.alloc ?_ _ | refine Bl.drew ?_ | refine Below.setCell ?_ (by simp) _)) hbb); have X6 := Lib.hid (X5.out.stayC hbb); have D6 := Lib.hid (D5.out.stayC hbb); clear hbb; have D6c := D6.out.cell (i := 0) rfl; have D6d := D6.out.cell (i := 1) rfl; have D6e := D6.out.cell (i := 2) rfl; have D6f := D6.out.cell (i := 3) rfl; have y0 := X6.out.cell (i := 0) rfl; have y1 := X6.out.cell (i := 1) rfl; have z0 := X6.out.frozen 0; have zz1 := X6.out.frozen 1; have s1 := X6.out.lt))
  have e0 := (X6.out.set 0 (.string t6)).cell (i := 0) rfl
  have e1 := ((X6.out.set 0 (.string t6)).set 1 (.int .i64 0)).cell (i := 1) rfl
  refine bodyPost_ret (v := .agg #[.string t6, .int .i64 0]) (by simp [results, Tryz.results29, go_sem, e0, e1]) rfl ?_
  exact ⟨_, rfl, Lib.hid (by exact ht6.out), by repeat (first | exact Below.refl _ _ | exact B6.out | refine Bl.alloc ?_ _ | refine Bl.drew ?_ | refine Below.setCell ?_ (by simp) _)⟩
end Go.Proofs.YtmjifmlibgpjiaaGreatDoor
namespace Go.Proofs.YtmjifmlibgpjiaaGreatDoor
open Go.RowKit Go.Shelf Tx
set_option linter.unusedVariables false
set_option maxRecDepth 100000

set_option maxHeartbeats 8000000 in
theorem RDate_N (n y m k : Nat) (w : World) (hd : IsDate n y m k) (h9 : y ≤ 9999) : Calls Tryz.prog 29 #[.int .i64 (n : Int), .int .u8 78] w (GivesAT w (normL y m k) 0) := by
  have K0 := fun W => Lib.hid (RDateOf_ok n y m k W hd h9)
  have h12 := hd.m12
  have h1 := hd.m1
  have h31 := day31 hd
  have hn9 := isDate_max hd h9
  obtain ⟨r, hr⟩ : ∃ r, r = y % 100 := ⟨_, rfl⟩
  have r100 : r < 100 := by rw [hr]; exact Nat.mod_lt _ (by decide)
  have LM : m ≤ 9223372036854775807 := le63 h12 (by decide)
  have LK : k ≤ 9223372036854775807 := le63 h31 (by decide)
  have LR : r ≤ 9223372036854775807 := le63 (Nat.le_of_lt r100) (by decide)
  have LY : y ≤ 9223372036854775807 := le63 h9 (by decide)
  have LN : n ≤ 9223372036854775807 := le63 hn9 (by decide)
  obtain ⟨m1, m2, m3, m4⟩ := tmlit y r 100 100 (by decide) hr LY
  have KM := fun W => Lib.hid (rpadded_any m 2 W LM (by decide))
  have KD := fun W => Lib.hid (rpadded_any k 2 W LK (by decide))
  have KR := fun W => Lib.hid (rpadded_any r 2 W LR (by decide))
  have KY := fun W => Lib.hid (rpadded_any y 4 W LY (by decide))
  have SM := Lib.hid LM
  have SK := Lib.hid LK
  have SR := Lib.hid LR
  have SY := Lib.hid LY
  have KX := fun W => Lib.hid (rtext_any k LK W)
  have KN := fun W => Lib.hid (Rmonth_any m W h1 h12)
  have HML := Lib.hid (monN_len m h1 h12)
  clear hd h9 h12 h1 h31 hn9 hr r100 LM LK LR LY LN
  go_enter Tryz.func29, Tryz.ntmps29
  go_wp2_with (first
    | (go_at_call 18; refine Calls.mono (K0 _).out ?_; rintro e w1 ⟨rfl, hbb⟩; clear K0; have B1 := Lib.hid (Bl.step (show Below w.heap.size w _ by repeat (first | exact Below.refl _ _ | refine Bl.alloc ?_ _ | refine Bl.drew ?_ | refine Below.setCell ?_ (by simp) _)) hbb); have X1 := Lib.hid ((BoxC.new w 44 #[.string ⟨#[]⟩, .int .i64 0]).stayC hbb); clear hbb)
    | (go_at_call 61; (with_reducible refine Calls.mono (KM _).out ?_); rintro e w2 ⟨t2, rfl, ht2, hbb⟩; clear KM; have B2 := Lib.hid (Bl.step (show Below w.heap.size w _ by repeat (first | exact Below.refl _ _ | exact B1.out | refine Bl.alloc ?_ _ | refine Bl.drew ?_ | refine Below.setCell ?_ (by simp) _)) hbb); have X2 := Lib.hid ((X1.out.alloc _).stayC hbb); have D2 := Lib.hid ((BoxC.new w1 34 #[.int .i64 (y : Int), .int .i64 (m : Int), .int .i64 (k : Int), .int .i64 0]).stayC hbb); clear hbb; have D2c := D2.out.cell (i := 0) rfl; have D2d := D2.out.cell (i := 1) rfl; have D2e := D2.out.cell (i := 2) rfl; have D2f := D2.out.cell (i := 3) rfl; have Z2 := Lib.hid (tsize ht2 SM.out (by decide)))
    | (go_at_call 61; (with_reducible refine Calls.mono (KD _).out ?_); rintro e w3 ⟨t3, rfl, ht3, hbb⟩; clear KD; have B3 := Lib.hid (Bl.step (show Below w.heap.size w _ by repeat (first | exact Below.refl _ _ | exact B2.out | refine Bl.alloc ?_ _ | refine Bl.drew ?_ | refine Below.setCell ?_ (by simp) _)) hbb); have X3 := Lib.hid (X2.out.stayC hbb); have D3 := Lib.hid (D2.out.stayC hbb); clear hbb; have D3c := D3.out.cell (i := 0) rfl; have D3d := D3.out.cell (i := 1) rfl; have D3e := D3.out.cell (i := 2) rfl; have D3f := D3.out.cell (i := 3) rfl; have Z3 := Lib.hid (tsize ht3 SK.out (by decide)))
    | (go_at_call 61; (with_reducible refine Calls.mono (KR _).out ?_); rintro e w4 ⟨t4, rfl, ht4, hbb⟩; clear KR; have B4 := Lib.hid (Bl.step (show Below w.heap.size w _ by repeat (first | exact Below.refl _ _ | exact B3.out | refine Bl.alloc ?_ _ | refine Bl.drew ?_ | refine Below.setCell ?_ (by simp) _)) hbb); have X4 := Lib.hid (X3.out.stayC hbb); have D4 := Lib.hid (D3.out.stayC hbb); clear hbb; have D4c := D4.out.cell (i := 0) rfl; have D4d := D4.out.cell (i := 1) rfl; have D4e := D4.out.cell (i := 2) rfl; have D4f := D4.out.cell (i := 3) rfl; have Z4 := Lib.hid (tsize ht4 SR.out (by decide)))
    | (go_at_call 61; (with_reducible refine Calls.mono (KY _).out ?_); rintro e w5 ⟨t5, rfl, ht5, hbb⟩; clear KY; have B5 := Lib.hid (Bl.step (show Below w.heap.size w _ by repeat (first | exact Below.refl _ _ | exact B4.out | refine Bl.alloc ?_ _ | refine Bl.drew ?_ | refine Below.setCell ?_ (by simp) _)) hbb); have X5 := Lib.hid (X4.out.stayC hbb); have D5 := Lib.hid (D4.out.stayC hbb); clear hbb; have D5c := D5.out.cell (i := 0) rfl; have D5d := D5.out.cell (i := 1) rfl; have D5e := D5.out.cell (i := 2) rfl; have D5f := D5.out.cell (i := 3) rfl; have Z5 := Lib.hid (tsize ht5 SY.out (by decide))))
  go_region_with (first
    | (go_at_call 62; refine Calls.mono (KX _).out ?_; rintro e w6 ⟨t6, rfl, ht6, hbb⟩; have B6 := Lib.hid (Bl.step (show Below w.heap.size w _ by repeat (first | exact B7.out | exact B5.out | refine Bl.drew ?_)) hbb); have X6 := Lib.hid ((show BoxC _ w.heap.size 44 #[.string ⟨#[]⟩, .int .i64 0] from by repeat (first | exact X7.out | exact X5.out | refine BoxC.drew ?_)).stayC hbb); have D6 := Lib.hid ((show BoxC _ w1.heap.size 34 #[.int .i64 (y : Int), .int .i64 (m : Int), .int .i64 (k : Int), .int .i64 0] from by repeat (first | exact D7.out | exact D5.out | refine BoxC.drew ?_)).stayC hbb); clear hbb; have D6d := D6.out.cell (i := 1) rfl; have D6e := D6.out.cell (i := 2) rfl; have y0 := X6.out.cell (i := 0) rfl; have y1 := X6.out.cell (i := 1) rfl; have z0 := X6.out.frozen 0; have zz1 := X6.out.frozen 1; have s1 := X6.out.lt; have Z6 := Lib.hid (tsize1 ht6 SK.out); have q1 : ¬ 9223372036854775807 < t6.size + 1 := (by have := Z6.out; omega); have q2 : ¬ 9223372036854775807 < t6.size + 1 + 3 := (by have := Z6.out; omega); have q3 : ¬ 9223372036854775807 < t6.size + 1 + 3 + 1 := (by have := Z6.out; omega); have q4 : ¬ 9223372036854775807 < t6.size + 1 + 3 + 1 + t5.size := (by have := Z6.out; have := Z5.out; omega))
    | (go_at_call 63; refine Calls.mono (KN _).out ?_; rintro e w7 ⟨t7, rfl, ht7, hbb⟩; have B7 := Lib.hid (Bl.step (show Below w.heap.size w _ by repeat (first | exact B6.out | exact B5.out | refine Bl.drew ?_)) hbb); have X7 := Lib.hid ((show BoxC _ w.heap.size 44 #[.string ⟨#[]⟩, .int .i64 0] from by repeat (first | exact X6.out | exact X5.out | refine BoxC.drew ?_)).stayC hbb); have D7 := Lib.hid ((show BoxC _ w1.heap.size 34 #[.int .i64 (y : Int), .int .i64 (m : Int), .int .i64 (k : Int), .int .i64 0] from by repeat (first | exact D6.out | exact D5.out | refine BoxC.drew ?_)).stayC hbb); clear hbb; have D7d := D7.out.cell (i := 1) rfl; have D7e := D7.out.cell (i := 2) rfl; have y0 := X7.out.cell (i := 0) rfl; have y1 := X7.out.cell (i := 1) rfl; have z0 := X7.out.frozen 0; have zz1 := X7.out.frozen 1; have s1 := X7.out.lt; have s3 : (3 : Int) ≤ (t7.size : Int) := (by have := HML.out; rw [← ht7.out, bts_length] at this; omega); have s4 : ¬ (t7.size : Int) < 3 := (by omega); have s5 : (t7.extract 0 3).size = 3 := (by rw [← bts_length, bts_extract, List.length_take, List.length_drop, bts_length]; omega)))
  all_goals
    go_wp2
    have HV := Lib.hid (show bts (t6 ++ ⟨#[32]⟩ ++ t7.extract 0 3 ++ ⟨#[32]⟩ ++ t5) = normL y m k by rw [bts_append, bts_append, bts_append, bts_append, ht6.out, ht5.out, bts_extract, ht7.out]; simp [bts_lit, normL])
    first
      | (have e0 := (X7.out.set 0 (.string (t6 ++ ⟨#[32]⟩ ++ t7.extract 0 3 ++ ⟨#[32]⟩ ++ t5))).cell (i := 0) rfl
         have e1 := ((X7.out.set 0 (.string (t6 ++ ⟨#[32]⟩ ++ t7.extract 0 3 ++ ⟨#[32]⟩ ++ t5))).set 1 (.int .i64 0)).cell (i := 1) rfl
         refine bodyPost_ret (v := .agg #[.string (t6 ++ ⟨#[32]⟩ ++ t7.extract 0 3 ++ ⟨#[32]⟩ ++ t5), .int .i64 0]) (by simp [results, Tryz.results29, go_sem, e0, e1]) rfl ?_
         exact ⟨_, rfl, HV, by repeat (first | exact B7.out | refine Bl.drew ?_ | refine Below.setCell ?_ (by simp) _)⟩)
      | (have e0 := (X6.out.set 0 (.string (t6 ++ ⟨#[32]⟩ ++ t7.extract 0 3 ++ ⟨#[32]⟩ ++ t5))).cell (i := 0) rfl
         have e1 := ((X6.out.set 0 (.string (t6 ++ ⟨#[32]⟩ ++ t7.extract 0 3 ++ ⟨#[32]⟩ ++ t5))).set 1 (.int .i64 0)).cell (i := 1) rfl
         refine bodyPost_ret (v := .agg #[.string (t6 ++ ⟨#[32]⟩ ++ t7.extract 0 3 ++ ⟨#[32]⟩ ++ t5), .int .i64 0]) (by simp [results, Tryz.results29, go_sem, e0, e1]) rfl ?_
         exact ⟨_, rfl, HV, by repeat (first | exact B6.out | refine Bl.drew ?_ | refine Below.setCell ?_ (by simp) _)⟩)
end Go.Proofs.YtmjifmlibgpjiaaGreatDoor
namespace Go.Proofs.YtmjifmlibgpjiaaGreatDoor
open Go.RowKit Go.Shelf Tx
set_option linter.unusedVariables false
set_option maxRecDepth 100000

set_option maxHeartbeats 8000000 in
theorem RDate_Wq (n y m k : Nat) (q : Nat) (hq : q = n % 7) (w : World) (hd : IsDate n y m k) (h9 : y ≤ 9999) : Calls Tryz.prog 29 #[.int .i64 (n : Int), .int .u8 87] w (GivesAT w (dayN q) 0) := by
  have K0 := fun W => Lib.hid (RDateOf_ok n y m k W hd h9)
  have h12 := hd.m12
  have h1 := hd.m1
  have h31 := day31 hd
  have hn9 := isDate_max hd h9
  obtain ⟨r, hr⟩ : ∃ r, r = y % 100 := ⟨_, rfl⟩
  have r100 : r < 100 := by rw [hr]; exact Nat.mod_lt _ (by decide)
  have LM : m ≤ 9223372036854775807 := le63 h12 (by decide)
  have LK : k ≤ 9223372036854775807 := le63 h31 (by decide)
  have LR : r ≤ 9223372036854775807 := le63 (Nat.le_of_lt r100) (by decide)
  have LY : y ≤ 9223372036854775807 := le63 h9 (by decide)
  have LN : n ≤ 9223372036854775807 := le63 hn9 (by decide)
  obtain ⟨m1, m2, m3, m4⟩ := tmlit y r 100 100 (by decide) hr LY
  have KM := fun W => Lib.hid (rpadded_any m 2 W LM (by decide))
  have KD := fun W => Lib.hid (rpadded_any k 2 W LK (by decide))
  have KR := fun W => Lib.hid (rpadded_any r 2 W LR (by decide))
  have KY := fun W => Lib.hid (rpadded_any y 4 W LY (by decide))
  have SM := Lib.hid LM
  have SK := Lib.hid LK
  have SR := Lib.hid LR
  have SY := Lib.hid LY
  have q6 : q ≤ 6 := by rw [hq]; have := Nat.mod_lt n (show 0 < 7 by decide); omega
  obtain ⟨g1, g2, g3, g4⟩ := tmlit n q 7 7 (by decide) hq LN
  have KX := fun W => Lib.hid (Rweekday_any q W (Nat.zero_le _) q6)
  clear hq q6
  clear hd h9 h12 h1 h31 hn9 hr r100 LM LK LR LY LN
  go_enter Tryz.func29, Tryz.ntmps29
  go_wp2_with (first
    | (go_at_call 18; refine Calls.mono (K0 _).out ?_; rintro e w1 ⟨rfl, hbb⟩; clear K0; have B1 := Lib.hid (Bl.step (show Below w.heap.size w _ by repeat (first | exact Below.refl _ _ | refine Bl.alloc ?_ _ | refine Bl.drew ?_ | refine Below.setCell ?_ (by simp) _)) hbb); have X1 := Lib.hid ((BoxC.new w 44 #[.string ⟨#[]⟩, .int .i64 0]).stayC hbb); clear hbb)
    | (go_at_call 61; (with_reducible refine Calls.mono (KM _).out ?_); rintro e w2 ⟨t2, rfl, ht2, hbb⟩; clear KM; have B2 := Lib.hid (Bl.step (show Below w.heap.size w _ by repeat (first | exact Below.refl _ _ | exact B1.out | refine Bl.alloc ?_ _ | refine Bl.drew ?_ | refine Below.setCell ?_ (by simp) _)) hbb); have X2 := Lib.hid ((X1.out.alloc _).stayC hbb); have D2 := Lib.hid ((BoxC.new w1 34 #[.int .i64 (y : Int), .int .i64 (m : Int), .int .i64 (k : Int), .int .i64 0]).stayC hbb); clear hbb; have D2c := D2.out.cell (i := 0) rfl; have D2d := D2.out.cell (i := 1) rfl; have D2e := D2.out.cell (i := 2) rfl; have D2f := D2.out.cell (i := 3) rfl; have Z2 := Lib.hid (tsize ht2 SM.out (by decide)))
    | (go_at_call 61; (with_reducible refine Calls.mono (KD _).out ?_); rintro e w3 ⟨t3, rfl, ht3, hbb⟩; clear KD; have B3 := Lib.hid (Bl.step (show Below w.heap.size w _ by repeat (first | exact Below.refl _ _ | exact B2.out | refine Bl.alloc ?_ _ | refine Bl.drew ?_ | refine Below.setCell ?_ (by simp) _)) hbb); have X3 := Lib.hid (X2.out.stayC hbb); have D3 := Lib.hid (D2.out.stayC hbb); clear hbb; have D3c := D3.out.cell (i := 0) rfl; have D3d := D3.out.cell (i := 1) rfl; have D3e := D3.out.cell (i := 2) rfl; have D3f := D3.out.cell (i := 3) rfl; have Z3 := Lib.hid (tsize ht3 SK.out (by decide)))
    | (go_at_call 61; (with_reducible refine Calls.mono (KR _).out ?_); rintro e w4 ⟨t4, rfl, ht4, hbb⟩; clear KR; have B4 := Lib.hid (Bl.step (show Below w.heap.size w _ by repeat (first | exact Below.refl _ _ | exact B3.out | refine Bl.alloc ?_ _ | refine Bl.drew ?_ | refine Below.setCell ?_ (by simp) _)) hbb); have X4 := Lib.hid (X3.out.stayC hbb); have D4 := Lib.hid (D3.out.stayC hbb); clear hbb; have D4c := D4.out.cell (i := 0) rfl; have D4d := D4.out.cell (i := 1) rfl; have D4e := D4.out.cell (i := 2) rfl; have D4f := D4.out.cell (i := 3) rfl; have Z4 := Lib.hid (tsize ht4 SR.out (by decide)))
    | (go_at_call 61; (with_reducible refine Calls.mono (KY _).out ?_); rintro e w5 ⟨t5, rfl, ht5, hbb⟩; clear KY; have B5 := Lib.hid (Bl.step (show Below w.heap.size w _ by repeat (first | exact Below.refl _ _ | exact B4.out | refine Bl.alloc ?_ _ | refine Bl.drew ?_ | refine Below.setCell ?_ (by simp) _)) hbb); have X5 := Lib.hid (X4.out.stayC hbb); have D5 := Lib.hid (D4.out.stayC hbb); clear hbb; have D5c := D5.out.cell (i := 0) rfl; have D5d := D5.out.cell (i := 1) rfl; have D5e := D5.out.cell (i := 2) rfl; have D5f := D5.out.cell (i := 3) rfl; have Z5 := Lib.hid (tsize ht5 SY.out (by decide)))
    | (go_at_call 64; (with_reducible refine Calls.mono (KX _).out ?_); rintro e w6 ⟨t6, rfl, ht6, hbb⟩; clear KX; have B6 := Lib.hid (Bl.step (show Below w.heap.size w _ by repeat (first | exact Below.refl _ _ | exact B5.out | refine Bl.alloc ?_ _ | refine Bl.drew ?_ | refine Below.setCell ?_ (by simp) _)) hbb); have X6 := Lib.hid (X5.out.stayC hbb); have D6 := Lib.hid (D5.out.stayC hbb); clear hbb; have D6c := D6.out.cell (i := 0) rfl; have D6d := D6.out.cell (i := 1) rfl; have D6e := D6.out.cell (i := 2) rfl; have D6f := D6.out.cell (i := 3) rfl; have y0 := X6.out.cell (i := 0) rfl; have y1 := X6.out.cell (i := 1) rfl; have z0 := X6.out.frozen 0; have zz1 := X6.out.frozen 1; have s1 := X6.out.lt))
  have e0 := (X6.out.set 0 (.string t6)).cell (i := 0) rfl
  have e1 := ((X6.out.set 0 (.string t6)).set 1 (.int .i64 0)).cell (i := 1) rfl
  refine bodyPost_ret (v := .agg #[.string t6, .int .i64 0]) (by simp [results, Tryz.results29, go_sem, e0, e1]) rfl ?_
  exact ⟨_, rfl, Lib.hid (by exact ht6.out), by repeat (first | exact Below.refl _ _ | exact B6.out | refine Bl.alloc ?_ _ | refine Bl.drew ?_ | refine Below.setCell ?_ (by simp) _)⟩
theorem RDate_W (n y m k : Nat) (w : World) (hd : IsDate n y m k) (h9 : y ≤ 9999) : Calls Tryz.prog 29 #[.int .i64 (n : Int), .int .u8 87] w (GivesAT w (dayN (n % 7)) 0) := RDate_Wq n y m k (n % 7) rfl w hd h9
end Go.Proofs.YtmjifmlibgpjiaaGreatDoor
