/- The reference's ReadDay. -/
import Derived.Test.YtmjifmlibgpjiaaGreatDoorKb
namespace Go.Proofs.YtmjifmlibgpjiaaGreatDoor
open Go.RowKit Go.Shelf Tx
set_option linter.unusedVariables false
set_option maxRecDepth 100000

theorem RIn_okJ (n : Int) (w : World) (h : 0 ≤ n ∧ n ≤ 3652058) : Calls Tryz.prog 22 #[.int .i64 n] w fun e w' => e = .returned (.bool true) ∧ w = w' := by
  have := RIn_any n w
  rwa [inR_true h.1 h.2] at this
set_option maxHeartbeats 8000000 in
theorem RReadDay_B_ok (s : ByteArray) (n0 y0 m0 k0 : Nat) (w : World) (hd0 : IsDate n0 y0 m0 k0) (h90 : y0 ≤ 9999) (h : 0 ≤ plainV (bts s) 7 ∧ plainV (bts s) 7 ≤ 3652058) : Calls Tryz.prog 31 #[.string s, .int .u8 66, .int .i64 (n0 : Int)] w (GivesA w #[.int .i64 (plainV (bts s) 7), .int .i64 0]) := by
  have K0 := fun W => Lib.hid (RDateOf_ok n0 y0 m0 k0 W hd0 h90)
  have KP := fun W => Lib.hid (Rplain_any s 7 W (by decide))
  have KI := fun W => Lib.hid (RIn_okJ (plainV (bts s) 7) W h)
  obtain ⟨v, hv⟩ : ∃ v, v = plainV (bts s) 7 := ⟨_, rfl⟩
  rw [← hv] at KP KI ⊢
  clear h hd0 h90 hv
  go_enter Tryz.func31, Tryz.ntmps31
  go_wp2_with (first | (go_at_call 18; refine Calls.mono (K0 _).out ?_; rintro e w1 ⟨rfl, hbb⟩; clear K0; have B1 := Lib.hid (Bl.step (show Below w.heap.size w _ by repeat (first | exact Below.refl _ _ | refine Bl.alloc ?_ _ | refine Bl.drew ?_ | refine below_drewN' ?_ _ | refine Below.setCell ?_ (by simp) _)) hbb); have X1 := Lib.hid ((BoxC.new w 29 #[.int .i64 0, .int .i64 0]).stayC hbb); have y0' := X1.out.cell (i := 0) rfl; have y1' := X1.out.cell (i := 1) rfl; have z0' := X1.out.frozen 0; have z1' := X1.out.frozen 1; have s1' := X1.out.lt; clear hbb) | (go_at_call 66; refine Calls.mono (KP _).out ?_; rintro e w2 ⟨rfl, rfl⟩) | (go_at_call 22; refine Calls.mono (KI _).out ?_; rintro e w3 ⟨rfl, rfl⟩))
  have XF := (((X1.out.set 0 (.int .i64 v)).set 1 (.int .i64 0)).alloc (.cells #[.int .i64 (y0 : Int), .int .i64 (m0 : Int), .int .i64 (k0 : Int), .int .i64 0] 34)).alloc (.cells #[.int .i64 0, .int .i64 2] 29)
  have e0 := XF.cell (i := 0) rfl
  have e1 := XF.cell (i := 1) rfl
  refine bodyPost_ret (v := .agg #[.int .i64 v, .int .i64 0]) (by simp [results, Tryz.results31, go_sem, e0, e1]) rfl ?_
  exact ⟨rfl, by repeat (first | exact Below.refl _ _ | exact B1.out | refine Bl.alloc ?_ _ | refine Bl.drew ?_ | refine below_drewN' ?_ _ | refine Below.setCell ?_ (by simp) _)⟩
set_option maxHeartbeats 8000000 in
theorem RReadDay_B_no (s : ByteArray) (n0 y0 m0 k0 : Nat) (w : World) (hd0 : IsDate n0 y0 m0 k0) (h90 : y0 ≤ 9999) (h : ¬ (0 ≤ plainV (bts s) 7 ∧ plainV (bts s) 7 ≤ 3652058)) : Calls Tryz.prog 31 #[.string s, .int .u8 66, .int .i64 (n0 : Int)] w (GivesA w #[.int .i64 0, .int .i64 2]) := by
  have K0 := fun W => Lib.hid (RDateOf_ok n0 y0 m0 k0 W hd0 h90)
  have KP := fun W => Lib.hid (Rplain_any s 7 W (by decide))
  have KI := fun W => Lib.hid (RIn_bad (plainV (bts s) 7) W h)
  obtain ⟨v, hv⟩ : ∃ v, v = plainV (bts s) 7 := ⟨_, rfl⟩
  rw [← hv] at KP KI
  clear h hd0 h90 hv
  go_enter Tryz.func31, Tryz.ntmps31
  go_wp2_with (first | (go_at_call 18; refine Calls.mono (K0 _).out ?_; rintro e w1 ⟨rfl, hbb⟩; clear K0; have B1 := Lib.hid (Bl.step (show Below w.heap.size w _ by repeat (first | exact Below.refl _ _ | refine Bl.alloc ?_ _ | refine Bl.drew ?_ | refine below_drewN' ?_ _ | refine Below.setCell ?_ (by simp) _)) hbb); have X1 := Lib.hid ((BoxC.new w 29 #[.int .i64 0, .int .i64 0]).stayC hbb); have y0' := X1.out.cell (i := 0) rfl; have y1' := X1.out.cell (i := 1) rfl; have z0' := X1.out.frozen 0; have z1' := X1.out.frozen 1; have s1' := X1.out.lt; clear hbb) | (go_at_call 66; refine Calls.mono (KP _).out ?_; rintro e w2 ⟨rfl, rfl⟩) | (go_at_call 22; refine Calls.mono (KI _).out ?_; rintro e w3 ⟨rfl, rfl⟩))
  have XF := (((X1.out.set 0 (.int .i64 0)).set 1 (.int .i64 2)).alloc (.cells #[.int .i64 (y0 : Int), .int .i64 (m0 : Int), .int .i64 (k0 : Int), .int .i64 0] 34)).alloc (.cells #[.int .i64 0, .int .i64 2] 29)
  have e0 := XF.cell (i := 0) rfl
  have e1 := XF.cell (i := 1) rfl
  refine bodyPost_ret (v := .agg #[.int .i64 0, .int .i64 2]) (by simp [results, Tryz.results31, go_sem, e0, e1]) rfl ?_
  exact ⟨rfl, by repeat (first | exact Below.refl _ _ | exact B1.out | refine Bl.alloc ?_ _ | refine Bl.drew ?_ | refine below_drewN' ?_ _ | refine Below.setCell ?_ (by simp) _)⟩
set_option maxHeartbeats 8000000 in
theorem RReadDay_none (s : ByteArray) (n0 y0 m0 k0 : Nat) (w : World) (hd0 : IsDate n0 y0 m0 k0) (h90 : y0 ≤ 9999) (x : Int) (x66 : (x == 66) = false) (y66 : ¬ x = 66) (x68 : (x == 68) = false) (y68 : ¬ x = 68) (x69 : (x == 69) = false) (y69 : ¬ x = 69) (x73 : (x == 73) = false) (y73 : ¬ x = 73) (x78 : (x == 78) = false) (y78 : ¬ x = 78) (x79 : (x == 79) = false) (y79 : ¬ x = 79) (x83 : (x == 83) = false) (y83 : ¬ x = 83) (x85 : (x == 85) = false) (y85 : ¬ x = 85) : Calls Tryz.prog 31 #[.string s, .int .u8 x, .int .i64 (n0 : Int)] w (GivesA w #[.int .i64 0, .int .i64 1]) := by
  have K0 := fun W => Lib.hid (RDateOf_ok n0 y0 m0 k0 W hd0 h90)
  clear hd0 h90
  go_enter Tryz.func31, Tryz.ntmps31
  go_wp2_with (go_at_call 18; refine Calls.mono (K0 _).out ?_; rintro e w1 ⟨rfl, hbb⟩; clear K0; have B1 := Lib.hid (Bl.step (show Below w.heap.size w _ by repeat (first | exact Below.refl _ _ | refine Bl.alloc ?_ _ | refine Bl.drew ?_ | refine below_drewN' ?_ _ | refine Below.setCell ?_ (by simp) _)) hbb); have X1 := Lib.hid ((BoxC.new w 29 #[.int .i64 0, .int .i64 0]).stayC hbb); have y0' := X1.out.cell (i := 0) rfl; have y1' := X1.out.cell (i := 1) rfl; have z0' := X1.out.frozen 0; have z1' := X1.out.frozen 1; have s1' := X1.out.lt; clear hbb)
  have XF := (((X1.out.set 0 (.int .i64 0)).set 1 (.int .i64 1)).alloc (.cells #[.int .i64 (y0 : Int), .int .i64 (m0 : Int), .int .i64 (k0 : Int), .int .i64 0] 34)).alloc (.cells #[.int .i64 0, .int .i64 2] 29)
  have e0 := XF.cell (i := 0) rfl
  have e1 := XF.cell (i := 1) rfl
  refine bodyPost_ret (v := .agg #[.int .i64 0, .int .i64 1]) (by simp [results, Tryz.results31, go_sem, e0, e1]) rfl ?_
  exact ⟨rfl, by repeat (first | exact Below.refl _ _ | exact B1.out | refine Bl.alloc ?_ _ | refine Bl.drew ?_ | refine below_drewN' ?_ _ | refine Below.setCell ?_ (by simp) _)⟩
set_option maxHeartbeats 2000000 in
theorem RReadDay_bad (s : ByteArray) (n x : Int) (w : World) (h : ¬ (0 ≤ n ∧ n ≤ 3652058)) : Calls Tryz.prog 31 #[.string s, .int .u8 x, .int .i64 n] w (GivesA w #[.int .i64 0, .int .i64 1]) := by
  have K0 := fun W => Lib.hid (RDateOf_bad n W h)
  clear h
  go_enter Tryz.func31, Tryz.ntmps31
  go_wp2_with (go_at_call 18; refine Calls.mono (K0 _).out ?_; rintro e w1 ⟨rfl, hbb⟩; clear K0; have B1 := Lib.hid (Bl.step (show Below w.heap.size w _ by repeat (first | exact Below.refl _ _ | refine Bl.alloc ?_ _ | refine Bl.drew ?_ | refine below_drewN' ?_ _ | refine Below.setCell ?_ (by simp) _)) hbb); have X1 := Lib.hid ((BoxC.new w 29 #[.int .i64 0, .int .i64 0]).stayC hbb); have y0' := X1.out.cell (i := 0) rfl; have y1' := X1.out.cell (i := 1) rfl; have z0' := X1.out.frozen 0; have z1' := X1.out.frozen 1; have s1' := X1.out.lt; clear hbb)
  have XF := ((X1.out.set 0 (.int .i64 0)).set 1 (.int .i64 1)).alloc (.cells #[.int .i64 0, .int .i64 0, .int .i64 0, .int .i64 1] 34)
  have e0 := XF.cell (i := 0) rfl
  have e1 := XF.cell (i := 1) rfl
  refine bodyPost_ret (v := .agg #[.int .i64 0, .int .i64 1]) (by simp [results, Tryz.results31, go_sem, e0, e1]) rfl ?_
  exact ⟨rfl, by repeat (first | exact Below.refl _ _ | exact B1.out | refine Bl.alloc ?_ _ | refine Bl.drew ?_ | refine below_drewN' ?_ _ | refine Below.setCell ?_ (by simp) _)⟩
end Go.Proofs.YtmjifmlibgpjiaaGreatDoor
namespace Go.Proofs.YtmjifmlibgpjiaaGreatDoor
open Go.RowKit Go.Shelf Tx
set_option linter.unusedVariables false
set_option maxRecDepth 100000

set_option maxHeartbeats 8000000 in
theorem RReadDay_D_ok (s : ByteArray) (n0 y0 m0 k0 : Nat) (w : World) (hd0 : IsDate n0 y0 m0 k0) (h90 : y0 ≤ 9999) (h : 1 ≤ plainV (bts s) 7 ∧ plainV (bts s) 7 ≤ (bef (y0 - 1 + 1) : Int) - (bef (y0 - 1) : Int)) : Calls Tryz.prog 31 #[.string s, .int .u8 68, .int .i64 (n0 : Int)] w (GivesA w #[.int .i64 ((bef (y0 - 1) : Int) + plainV (bts s) 7 - 1), .int .i64 0]) := by
  have K0 := fun W => Lib.hid (RDateOf_ok n0 y0 m0 k0 W hd0 h90)
  have KP := fun W => Lib.hid (Rplain_any s 7 W (by decide))
  obtain ⟨v, hv⟩ : ∃ v, v = plainV (bts s) 7 := ⟨_, rfl⟩
  obtain ⟨p, hp⟩ : ∃ p, y0 = p + 1 := ⟨y0 - 1, by have := hd0.y1; omega⟩
  have hp9 : p ≤ 20000 := by omega
  have hp10 : p + 1 ≤ 20000 := by omega
  have KB1 := fun W => Lib.hid (Rbefore_any p W hp9)
  have KB2 := fun W => Lib.hid (Rbefore_any (p + 1) W hp10)
  have hb1 := bef_le366 p
  have hb2 := bef_le366 (p + 1)
  have hb3 := bef_mono (show p ≤ p + 1 by omega)
  rw [hp, Nat.add_sub_cancel] at h ⊢
  rw [← hv] at KP h ⊢
  obtain ⟨a, ha⟩ : ∃ a, a = bef p := ⟨_, rfl⟩
  obtain ⟨b, hb⟩ : ∃ a, a = bef (p + 1) := ⟨_, rfl⟩
  have ey : (y0 : Int) = (p : Int) + 1 := by omega
  have ey2 : (y0 : Int) + 1 = ((p + 1 : Nat) : Int) + 1 := by omega
  rw [← ha, ← ey] at KB1
  rw [← hb, ← ey2] at KB2
  rw [← ha, ← hb] at h
  rw [← ha] at hb1 hb3 ⊢
  rw [← hb] at hb2 hb3
  have f1 : IntKind.i64.wrap ((y0 : Int) + 1) = (y0 : Int) + 1 := i64i' (by omega) (by omega)
  have f2 : wrap64 ((y0 : Int) + 1) = (y0 : Int) + 1 := w64 (by omega) (by omega)
  obtain ⟨l, hl⟩ : ∃ l : Int, l = (b : Int) - (a : Int) := ⟨_, rfl⟩
  have f3 : IntKind.i64.wrap ((b : Int) - (a : Int)) = l := by rw [hl]; exact i64i' (by omega) (by omega)
  have f4 : wrap64 ((b : Int) - (a : Int)) = l := by rw [hl]; exact w64 (by omega) (by omega)
  rw [← hl] at h
  have g1 : ¬ v < 1 := by omega
  have g2 : ¬ l < v := by omega
  have f5 : IntKind.i64.wrap ((a : Int) + v) = (a : Int) + v := i64i' (by omega) (by omega)
  have f6 : wrap64 ((a : Int) + v) = (a : Int) + v := w64 (by omega) (by omega)
  have f7 : IntKind.i64.wrap ((a : Int) + v - 1) = (a : Int) + v - 1 := i64i' (by omega) (by omega)
  have f8 : wrap64 ((a : Int) + v - 1) = (a : Int) + v - 1 := w64 (by omega) (by omega)
  clear h hd0 h90 hv hp hp9 hp10 hb1 hb2 hb3 ha hb ey ey2 hl
  go_enter Tryz.func31, Tryz.ntmps31
  go_wp2_with (first | (go_at_call 18; refine Calls.mono (K0 _).out ?_; rintro e w1 ⟨rfl, hbb⟩; clear K0; have B1 := Lib.hid (Bl.step (show Below w.heap.size w _ by repeat (first | exact Below.refl _ _ | refine Bl.alloc ?_ _ | refine Bl.drew ?_ | refine below_drewN' ?_ _ | refine Below.setCell ?_ (by simp) _)) hbb); have X1 := Lib.hid ((BoxC.new w 29 #[.int .i64 0, .int .i64 0]).stayC hbb); have y0' := X1.out.cell (i := 0) rfl; have y1' := X1.out.cell (i := 1) rfl; have z0' := X1.out.frozen 0; have z1' := X1.out.frozen 1; have s1' := X1.out.lt; clear hbb) | (go_at_call 66; refine Calls.mono (KP _).out ?_; rintro e w2 ⟨rfl, rfl⟩))
  go_quiet ((go_at_call 50; first | with_reducible exact quietS (KB1 _).out | with_reducible exact quietS (KB2 _).out | exact quietS (KB1 _).out | exact quietS (KB2 _).out))
  go_wp2_with (go_at_call 50; first | ((with_reducible refine Calls.mono (KB1 _).out ?_); rintro e wb ⟨rfl, rfl⟩) | ((with_reducible refine Calls.mono (KB2 _).out ?_); rintro e wc ⟨rfl, rfl⟩))
  have XE := (((X1.out.alloc (.cells #[.int .i64 (y0 : Int), .int .i64 (m0 : Int), .int .i64 (k0 : Int), .int .i64 0] 34)).alloc (.cells #[.int .i64 0, .int .i64 2] 29)).drewN nq).set 0 (.int .i64 ((a : Int) + v - 1))
  have XF := XE.set 1 (.int .i64 0)
  have e0 := XE.cell (i := 0) rfl
  have e1 := XF.cell (i := 1) rfl
  have e2 := XF.cell (i := 0) rfl
  refine bodyPost_ret (v := .agg #[.int .i64 ((a : Int) + v - 1), .int .i64 0]) (by simp [results, Tryz.results31, go_sem, e0, e1, e2]) rfl ?_
  exact ⟨rfl, by repeat (first | exact Below.refl _ _ | exact B1.out | refine Bl.alloc ?_ _ | refine Bl.drew ?_ | refine below_drewN' ?_ _ | refine Below.setCell ?_ (by simp) _)⟩
set_option maxHeartbeats 8000000 in
theorem RReadDay_D_no1 (s : ByteArray) (n0 y0 m0 k0 : Nat) (w : World) (hd0 : IsDate n0 y0 m0 k0) (h90 : y0 ≤ 9999) (h : plainV (bts s) 7 < 1) : Calls Tryz.prog 31 #[.string s, .int .u8 68, .int .i64 (n0 : Int)] w (GivesA w #[.int .i64 0, .int .i64 2]) := by
  have K0 := fun W => Lib.hid (RDateOf_ok n0 y0 m0 k0 W hd0 h90)
  have KP := fun W => Lib.hid (Rplain_any s 7 W (by decide))
  obtain ⟨v, hv⟩ : ∃ v, v = plainV (bts s) 7 := ⟨_, rfl⟩
  obtain ⟨p, hp⟩ : ∃ p, y0 = p + 1 := ⟨y0 - 1, by have := hd0.y1; omega⟩
  have hp9 : p ≤ 20000 := by omega
  have hp10 : p + 1 ≤ 20000 := by omega
  have KB1 := fun W => Lib.hid (Rbefore_any p W hp9)
  have KB2 := fun W => Lib.hid (Rbefore_any (p + 1) W hp10)
  have hb1 := bef_le366 p
  have hb2 := bef_le366 (p + 1)
  have hb3 := bef_mono (show p ≤ p + 1 by omega)
  rw [← hv] at KP h
  obtain ⟨a, ha⟩ : ∃ a, a = bef p := ⟨_, rfl⟩
  obtain ⟨b, hb⟩ : ∃ a, a = bef (p + 1) := ⟨_, rfl⟩
  have ey : (y0 : Int) = (p : Int) + 1 := by omega
  have ey2 : (y0 : Int) + 1 = ((p + 1 : Nat) : Int) + 1 := by omega
  rw [← ha, ← ey] at KB1
  rw [← hb, ← ey2] at KB2
  rw [← ha] at hb1 hb3
  rw [← hb] at hb2 hb3
  have f1 : IntKind.i64.wrap ((y0 : Int) + 1) = (y0 : Int) + 1 := i64i' (by omega) (by omega)
  have f2 : wrap64 ((y0 : Int) + 1) = (y0 : Int) + 1 := w64 (by omega) (by omega)
  obtain ⟨l, hl⟩ : ∃ l : Int, l = (b : Int) - (a : Int) := ⟨_, rfl⟩
  have f3 : IntKind.i64.wrap ((b : Int) - (a : Int)) = l := by rw [hl]; exact i64i' (by omega) (by omega)
  have f4 : wrap64 ((b : Int) - (a : Int)) = l := by rw [hl]; exact w64 (by omega) (by omega)
  have g1 : v < 1 := h
  clear h hd0 h90 hv hp hp9 hp10 hb1 hb2 hb3 ha hb ey ey2 hl
  go_enter Tryz.func31, Tryz.ntmps31
  go_wp2_with (first | (go_at_call 18; refine Calls.mono (K0 _).out ?_; rintro e w1 ⟨rfl, hbb⟩; clear K0; have B1 := Lib.hid (Bl.step (show Below w.heap.size w _ by repeat (first | exact Below.refl _ _ | refine Bl.alloc ?_ _ | refine Bl.drew ?_ | refine below_drewN' ?_ _ | refine Below.setCell ?_ (by simp) _)) hbb); have X1 := Lib.hid ((BoxC.new w 29 #[.int .i64 0, .int .i64 0]).stayC hbb); have y0' := X1.out.cell (i := 0) rfl; have y1' := X1.out.cell (i := 1) rfl; have z0' := X1.out.frozen 0; have z1' := X1.out.frozen 1; have s1' := X1.out.lt; clear hbb) | (go_at_call 66; refine Calls.mono (KP _).out ?_; rintro e w2 ⟨rfl, rfl⟩))
  go_quiet ((go_at_call 50; first | with_reducible exact quietS (KB1 _).out | with_reducible exact quietS (KB2 _).out | exact quietS (KB1 _).out | exact quietS (KB2 _).out))
  go_wp2
  have XE := (((X1.out.alloc (.cells #[.int .i64 (y0 : Int), .int .i64 (m0 : Int), .int .i64 (k0 : Int), .int .i64 0] 34)).alloc (.cells #[.int .i64 0, .int .i64 2] 29)).drewN nq).set 0 (.int .i64 0)
  have XF := XE.set 1 (.int .i64 2)
  have e0 := XE.cell (i := 0) rfl
  have e1 := XF.cell (i := 1) rfl
  have e2 := XF.cell (i := 0) rfl
  refine bodyPost_ret (v := .agg #[.int .i64 0, .int .i64 2]) (by simp [results, Tryz.results31, go_sem, e0, e1, e2]) rfl ?_
  exact ⟨rfl, by repeat (first | exact Below.refl _ _ | exact B1.out | refine Bl.alloc ?_ _ | refine Bl.drew ?_ | refine below_drewN' ?_ _ | refine Below.setCell ?_ (by simp) _)⟩
set_option maxHeartbeats 8000000 in
theorem RReadDay_D_no2 (s : ByteArray) (n0 y0 m0 k0 : Nat) (w : World) (hd0 : IsDate n0 y0 m0 k0) (h90 : y0 ≤ 9999) (h : ¬ plainV (bts s) 7 < 1 ∧ (bef (y0 - 1 + 1) : Int) - (bef (y0 - 1) : Int) < plainV (bts s) 7) : Calls Tryz.prog 31 #[.string s, .int .u8 68, .int .i64 (n0 : Int)] w (GivesA w #[.int .i64 0, .int .i64 2]) := by
  have K0 := fun W => Lib.hid (RDateOf_ok n0 y0 m0 k0 W hd0 h90)
  have KP := fun W => Lib.hid (Rplain_any s 7 W (by decide))
  obtain ⟨v, hv⟩ : ∃ v, v = plainV (bts s) 7 := ⟨_, rfl⟩
  obtain ⟨p, hp⟩ : ∃ p, y0 = p + 1 := ⟨y0 - 1, by have := hd0.y1; omega⟩
  have hp9 : p ≤ 20000 := by omega
  have hp10 : p + 1 ≤ 20000 := by omega
  have KB1 := fun W => Lib.hid (Rbefore_any p W hp9)
  have KB2 := fun W => Lib.hid (Rbefore_any (p + 1) W hp10)
  have hb1 := bef_le366 p
  have hb2 := bef_le366 (p + 1)
  have hb3 := bef_mono (show p ≤ p + 1 by omega)
  rw [hp, Nat.add_sub_cancel] at h
  rw [← hv] at KP h
  obtain ⟨a, ha⟩ : ∃ a, a = bef p := ⟨_, rfl⟩
  obtain ⟨b, hb⟩ : ∃ a, a = bef (p + 1) := ⟨_, rfl⟩
  have ey : (y0 : Int) = (p : Int) + 1 := by omega
  have ey2 : (y0 : Int) + 1 = ((p + 1 : Nat) : Int) + 1 := by omega
  rw [← ha, ← ey] at KB1
  rw [← hb, ← ey2] at KB2
  rw [← ha, ← hb] at h
  rw [← ha] at hb1 hb3
  rw [← hb] at hb2 hb3
  have f1 : IntKind.i64.wrap ((y0 : Int) + 1) = (y0 : Int) + 1 := i64i' (by omega) (by omega)
  have f2 : wrap64 ((y0 : Int) + 1) = (y0 : Int) + 1 := w64 (by omega) (by omega)
  obtain ⟨l, hl⟩ : ∃ l : Int, l = (b : Int) - (a : Int) := ⟨_, rfl⟩
  have f3 : IntKind.i64.wrap ((b : Int) - (a : Int)) = l := by rw [hl]; exact i64i' (by omega) (by omega)
  have f4 : wrap64 ((b : Int) - (a : Int)) = l := by rw [hl]; exact w64 (by omega) (by omega)
  rw [← hl] at h
  have g1 : ¬ v < 1 := h.1
  have g2 : l < v := h.2
  clear h hd0 h90 hv hp hp9 hp10 hb1 hb2 hb3 ha hb ey ey2 hl
  go_enter Tryz.func31, Tryz.ntmps31
  go_wp2_with (first | (go_at_call 18; refine Calls.mono (K0 _).out ?_; rintro e w1 ⟨rfl, hbb⟩; clear K0; have B1 := Lib.hid (Bl.step (show Below w.heap.size w _ by repeat (first | exact Below.refl _ _ | refine Bl.alloc ?_ _ | refine Bl.drew ?_ | refine below_drewN' ?_ _ | refine Below.setCell ?_ (by simp) _)) hbb); have X1 := Lib.hid ((BoxC.new w 29 #[.int .i64 0, .int .i64 0]).stayC hbb); have y0' := X1.out.cell (i := 0) rfl; have y1' := X1.out.cell (i := 1) rfl; have z0' := X1.out.frozen 0; have z1' := X1.out.frozen 1; have s1' := X1.out.lt; clear hbb) | (go_at_call 66; refine Calls.mono (KP _).out ?_; rintro e w2 ⟨rfl, rfl⟩))
  go_quiet ((go_at_call 50; first | with_reducible exact quietS (KB1 _).out | with_reducible exact quietS (KB2 _).out | exact quietS (KB1 _).out | exact quietS (KB2 _).out))
  go_wp2
  have XE := (((X1.out.alloc (.cells #[.int .i64 (y0 : Int), .int .i64 (m0 : Int), .int .i64 (k0 : Int), .int .i64 0] 34)).alloc (.cells #[.int .i64 0, .int .i64 2] 29)).drewN nq).set 0 (.int .i64 0)
  have XF := XE.set 1 (.int .i64 2)
  have e0 := XE.cell (i := 0) rfl
  have e1 := XF.cell (i := 1) rfl
  have e2 := XF.cell (i := 0) rfl
  refine bodyPost_ret (v := .agg #[.int .i64 0, .int .i64 2]) (by simp [results, Tryz.results31, go_sem, e0, e1, e2]) rfl ?_
  exact ⟨rfl, by repeat (first | exact Below.refl _ _ | exact B1.out | refine Bl.alloc ?_ _ | refine Bl.drew ?_ | refine below_drewN' ?_ _ | refine Below.setCell ?_ (by simp) _)⟩
end Go.Proofs.YtmjifmlibgpjiaaGreatDoor
namespace Go.Proofs.YtmjifmlibgpjiaaGreatDoor
open Go.RowKit Go.Shelf Tx
set_option linter.unusedVariables false
set_option maxRecDepth 100000

set_option maxHeartbeats 8000000 in
theorem RReadDay_E_yes (s : ByteArray) (n0 y0 m0 k0 : Nat) (w : World) (hd0 : IsDate n0 y0 m0 k0) (h90 : y0 ≤ 9999) (h : Thr (bts s)) : Calls Tryz.prog 31 #[.string s, .int .u8 69, .int .i64 (n0 : Int)] w (GivesA w #[.int .i64 (dayV (calOf (fyR y0 (digV ((bts s).drop 6))) (digV (((bts s).drop 3).take 2)) (digV ((bts s).take 2)))).1, .int .i64 (dayV (calOf (fyR y0 (digV ((bts s).drop 6))) (digV (((bts s).drop 3).take 2)) (digV ((bts s).take 2)))).2]) := by
  have K0 := fun W => Lib.hid (RDateOf_ok n0 y0 m0 k0 W hd0 h90)
  have KT := fun W => Lib.hid (Rthree_yes s W h)
  have KN := fun W => Lib.hid (Rnear_any y0 (digV ((bts s).drop 6)) W hd0.y1 h90 h.z0 (digV_hi2 _ (by rw [List.length_drop, h.len]; omega)))
  have KR := fun W => Lib.hid (Rparsed_any (fyR y0 (digV ((bts s).drop 6))) (digV (((bts s).drop 3).take 2)) (digV ((bts s).take 2)) W)
  obtain ⟨r, hr⟩ : ∃ r, r = dayV (calOf (fyR y0 (digV ((bts s).drop 6))) (digV (((bts s).drop 3).take 2)) (digV ((bts s).take 2))) := ⟨_, rfl⟩
  rw [← hr] at KR ⊢
  obtain ⟨r1, r2⟩ := r
  obtain ⟨q, hq⟩ : ∃ q, q = fyR y0 (digV ((bts s).drop 6)) := ⟨_, rfl⟩
  rw [← hq] at KN KR
  obtain ⟨A, eA⟩ : ∃ A, A = digV ((bts s).take 2) := ⟨_, rfl⟩
  obtain ⟨B, eB⟩ : ∃ A, A = digV (((bts s).drop 3).take 2) := ⟨_, rfl⟩
  obtain ⟨C, eC⟩ : ∃ A, A = digV ((bts s).drop 6) := ⟨_, rfl⟩
  rw [← eA, ← eB, ← eC] at KT
  rw [← eC] at KN
  rw [← eB, ← eA] at KR
  clear h hd0 h90 hr hq eA eB eC
  go_enter Tryz.func31, Tryz.ntmps31
  go_wp2_with (first | (go_at_call 18; refine Calls.mono (K0 _).out ?_; rintro e w1 ⟨rfl, hbb⟩; clear K0; have B1 := Lib.hid (Bl.step (show Below w.heap.size w _ by repeat (first | exact Below.refl _ _ | refine Bl.alloc ?_ _ | refine Bl.drew ?_ | refine below_drewN' ?_ _ | refine Below.setCell ?_ (by simp) _)) hbb); have X1 := Lib.hid ((BoxC.new w 29 #[.int .i64 0, .int .i64 0]).stayC hbb); have y0' := X1.out.cell (i := 0) rfl; have y1' := X1.out.cell (i := 1) rfl; have z0' := X1.out.frozen 0; have z1' := X1.out.frozen 1; have s1' := X1.out.lt; clear hbb) | (go_at_call 67; refine Calls.mono (KT _).out ?_; rintro e w2 ⟨rfl, rfl⟩) | (go_at_call 69; refine Calls.mono (KN _).out ?_; rintro e w3 ⟨rfl, rfl⟩) | (go_at_call 68; refine Calls.mono (KR _).out ?_; rintro e w4 ⟨rfl, hbb⟩; have B4 := Lib.hid (Bl.step (show Below w.heap.size w _ by repeat (first | exact Below.refl _ _ | exact B1.out | refine Bl.alloc ?_ _ | refine Bl.drew ?_ | refine below_drewN' ?_ _ | refine Below.setCell ?_ (by simp) _)) hbb); have X4 := Lib.hid (((X1.out.alloc _).alloc _).stayC hbb); have u0 := X4.out.cell (i := 0) rfl; have u1 := X4.out.cell (i := 1) rfl; have v0 := X4.out.frozen 0; have v1 := X4.out.frozen 1; have v2 := X4.out.lt; clear hbb))
  have e0 := (X4.out.set 0 (.int .i64 r1)).cell (i := 0) rfl
  have e1 := ((X4.out.set 0 (.int .i64 r1)).set 1 (.int .i64 r2)).cell (i := 1) rfl
  refine bodyPost_ret (v := .agg #[.int .i64 r1, .int .i64 r2]) (by simp [results, Tryz.results31, go_sem, e0, e1]) rfl ?_
  exact ⟨rfl, by repeat (first | exact Below.refl _ _ | exact B4.out | refine Bl.alloc ?_ _ | refine Bl.drew ?_ | refine below_drewN' ?_ _ | refine Below.setCell ?_ (by simp) _)⟩
set_option maxHeartbeats 8000000 in
theorem RReadDay_E_no (s : ByteArray) (n0 y0 m0 k0 : Nat) (w : World) (hd0 : IsDate n0 y0 m0 k0) (h90 : y0 ≤ 9999) (h : ¬ Thr (bts s)) : Calls Tryz.prog 31 #[.string s, .int .u8 69, .int .i64 (n0 : Int)] w (GivesA w #[.int .i64 0, .int .i64 2]) := by
  have K0 := fun W => Lib.hid (RDateOf_ok n0 y0 m0 k0 W hd0 h90)
  have KT := fun W => Lib.hid (Rthree_no s W h)
  clear h hd0 h90
  go_enter Tryz.func31, Tryz.ntmps31
  go_wp2_with (first | (go_at_call 18; refine Calls.mono (K0 _).out ?_; rintro e w1 ⟨rfl, hbb⟩; clear K0; have B1 := Lib.hid (Bl.step (show Below w.heap.size w _ by repeat (first | exact Below.refl _ _ | refine Bl.alloc ?_ _ | refine Bl.drew ?_ | refine below_drewN' ?_ _ | refine Below.setCell ?_ (by simp) _)) hbb); have X1 := Lib.hid ((BoxC.new w 29 #[.int .i64 0, .int .i64 0]).stayC hbb); have y0' := X1.out.cell (i := 0) rfl; have y1' := X1.out.cell (i := 1) rfl; have z0' := X1.out.frozen 0; have z1' := X1.out.frozen 1; have s1' := X1.out.lt; clear hbb) | (go_at_call 67; refine Calls.mono (KT _).out ?_; rintro e w2 ⟨a, b, c, rfl, rfl⟩))
  have XF := (((X1.out.set 0 (.int .i64 0)).set 1 (.int .i64 2)).alloc (.cells #[.int .i64 (y0 : Int), .int .i64 (m0 : Int), .int .i64 (k0 : Int), .int .i64 0] 34)).alloc (.cells #[.int .i64 0, .int .i64 2] 29)
  have e0 := XF.cell (i := 0) rfl
  have e1 := XF.cell (i := 1) rfl
  refine bodyPost_ret (v := .agg #[.int .i64 0, .int .i64 2]) (by simp [results, Tryz.results31, go_sem, e0, e1]) rfl ?_
  exact ⟨rfl, by repeat (first | exact Below.refl _ _ | exact B1.out | refine Bl.alloc ?_ _ | refine Bl.drew ?_ | refine below_drewN' ?_ _ | refine Below.setCell ?_ (by simp) _)⟩
set_option maxHeartbeats 8000000 in
theorem RReadDay_O_yes (s : ByteArray) (n0 y0 m0 k0 : Nat) (w : World) (hd0 : IsDate n0 y0 m0 k0) (h90 : y0 ≤ 9999) (h : Thr (bts s)) : Calls Tryz.prog 31 #[.string s, .int .u8 79, .int .i64 (n0 : Int)] w (GivesA w #[.int .i64 (dayV (calOf (fyR y0 (digV ((bts s).take 2))) (digV (((bts s).drop 3).take 2)) (digV ((bts s).drop 6)))).1, .int .i64 (dayV (calOf (fyR y0 (digV ((bts s).take 2))) (digV (((bts s).drop 3).take 2)) (digV ((bts s).drop 6)))).2]) := by
  have K0 := fun W => Lib.hid (RDateOf_ok n0 y0 m0 k0 W hd0 h90)
  have KT := fun W => Lib.hid (Rthree_yes s W h)
  have KN := fun W => Lib.hid (Rnear_any y0 (digV ((bts s).take 2)) W hd0.y1 h90 h.a0 (digV_hi2 _ (by rw [List.length_take]; omega)))
  have KR := fun W => Lib.hid (Rparsed_any (fyR y0 (digV ((bts s).take 2))) (digV (((bts s).drop 3).take 2)) (digV ((bts s).drop 6)) W)
  obtain ⟨r, hr⟩ : ∃ r, r = dayV (calOf (fyR y0 (digV ((bts s).take 2))) (digV (((bts s).drop 3).take 2)) (digV ((bts s).drop 6))) := ⟨_, rfl⟩
  rw [← hr] at KR ⊢
  obtain ⟨r1, r2⟩ := r
  obtain ⟨q, hq⟩ : ∃ q, q = fyR y0 (digV ((bts s).take 2)) := ⟨_, rfl⟩
  rw [← hq] at KN KR
  obtain ⟨A, eA⟩ : ∃ A, A = digV ((bts s).take 2) := ⟨_, rfl⟩
  obtain ⟨B, eB⟩ : ∃ A, A = digV (((bts s).drop 3).take 2) := ⟨_, rfl⟩
  obtain ⟨C, eC⟩ : ∃ A, A = digV ((bts s).drop 6) := ⟨_, rfl⟩
  rw [← eA, ← eB, ← eC] at KT
  rw [← eA] at KN
  rw [← eB, ← eC] at KR
  clear h hd0 h90 hr hq eA eB eC
  go_enter Tryz.func31, Tryz.ntmps31
  go_wp2_with (first | (go_at_call 18; refine Calls.mono (K0 _).out ?_; rintro e w1 ⟨rfl, hbb⟩; clear K0; have B1 := Lib.hid (Bl.step (show Below w.heap.size w _ by repeat (first | exact Below.refl _ _ | refine Bl.alloc ?_ _ | refine Bl.drew ?_ | refine below_drewN' ?_ _ | refine Below.setCell ?_ (by simp) _)) hbb); have X1 := Lib.hid ((BoxC.new w 29 #[.int .i64 0, .int .i64 0]).stayC hbb); have y0' := X1.out.cell (i := 0) rfl; have y1' := X1.out.cell (i := 1) rfl; have z0' := X1.out.frozen 0; have z1' := X1.out.frozen 1; have s1' := X1.out.lt; clear hbb) | (go_at_call 67; refine Calls.mono (KT _).out ?_; rintro e w2 ⟨rfl, rfl⟩) | (go_at_call 69; refine Calls.mono (KN _).out ?_; rintro e w3 ⟨rfl, rfl⟩) | (go_at_call 68; refine Calls.mono (KR _).out ?_; rintro e w4 ⟨rfl, hbb⟩; have B4 := Lib.hid (Bl.step (show Below w.heap.size w _ by repeat (first | exact Below.refl _ _ | exact B1.out | refine Bl.alloc ?_ _ | refine Bl.drew ?_ | refine below_drewN' ?_ _ | refine Below.setCell ?_ (by simp) _)) hbb); have X4 := Lib.hid (((X1.out.alloc _).alloc _).stayC hbb); have u0 := X4.out.cell (i := 0) rfl; have u1 := X4.out.cell (i := 1) rfl; have v0 := X4.out.frozen 0; have v1 := X4.out.frozen 1; have v2 := X4.out.lt; clear hbb))
  have e0 := (X4.out.set 0 (.int .i64 r1)).cell (i := 0) rfl
  have e1 := ((X4.out.set 0 (.int .i64 r1)).set 1 (.int .i64 r2)).cell (i := 1) rfl
  refine bodyPost_ret (v := .agg #[.int .i64 r1, .int .i64 r2]) (by simp [results, Tryz.results31, go_sem, e0, e1]) rfl ?_
  exact ⟨rfl, by repeat (first | exact Below.refl _ _ | exact B4.out | refine Bl.alloc ?_ _ | refine Bl.drew ?_ | refine below_drewN' ?_ _ | refine Below.setCell ?_ (by simp) _)⟩
set_option maxHeartbeats 8000000 in
theorem RReadDay_O_no (s : ByteArray) (n0 y0 m0 k0 : Nat) (w : World) (hd0 : IsDate n0 y0 m0 k0) (h90 : y0 ≤ 9999) (h : ¬ Thr (bts s)) : Calls Tryz.prog 31 #[.string s, .int .u8 79, .int .i64 (n0 : Int)] w (GivesA w #[.int .i64 0, .int .i64 2]) := by
  have K0 := fun W => Lib.hid (RDateOf_ok n0 y0 m0 k0 W hd0 h90)
  have KT := fun W => Lib.hid (Rthree_no s W h)
  clear h hd0 h90
  go_enter Tryz.func31, Tryz.ntmps31
  go_wp2_with (first | (go_at_call 18; refine Calls.mono (K0 _).out ?_; rintro e w1 ⟨rfl, hbb⟩; clear K0; have B1 := Lib.hid (Bl.step (show Below w.heap.size w _ by repeat (first | exact Below.refl _ _ | refine Bl.alloc ?_ _ | refine Bl.drew ?_ | refine below_drewN' ?_ _ | refine Below.setCell ?_ (by simp) _)) hbb); have X1 := Lib.hid ((BoxC.new w 29 #[.int .i64 0, .int .i64 0]).stayC hbb); have y0' := X1.out.cell (i := 0) rfl; have y1' := X1.out.cell (i := 1) rfl; have z0' := X1.out.frozen 0; have z1' := X1.out.frozen 1; have s1' := X1.out.lt; clear hbb) | (go_at_call 67; refine Calls.mono (KT _).out ?_; rintro e w2 ⟨a, b, c, rfl, rfl⟩))
  have XF := (((X1.out.set 0 (.int .i64 0)).set 1 (.int .i64 2)).alloc (.cells #[.int .i64 (y0 : Int), .int .i64 (m0 : Int), .int .i64 (k0 : Int), .int .i64 0] 34)).alloc (.cells #[.int .i64 0, .int .i64 2] 29)
  have e0 := XF.cell (i := 0) rfl
  have e1 := XF.cell (i := 1) rfl
  refine bodyPost_ret (v := .agg #[.int .i64 0, .int .i64 2]) (by simp [results, Tryz.results31, go_sem, e0, e1]) rfl ?_
  exact ⟨rfl, by repeat (first | exact Below.refl _ _ | exact B1.out | refine Bl.alloc ?_ _ | refine Bl.drew ?_ | refine below_drewN' ?_ _ | refine Below.setCell ?_ (by simp) _)⟩
set_option maxHeartbeats 8000000 in
theorem RReadDay_U_yes (s : ByteArray) (n0 y0 m0 k0 : Nat) (w : World) (hd0 : IsDate n0 y0 m0 k0) (h90 : y0 ≤ 9999) (h : Thr (bts s)) : Calls Tryz.prog 31 #[.string s, .int .u8 85, .int .i64 (n0 : Int)] w (GivesA w #[.int .i64 (dayV (calOf (fyR y0 (digV ((bts s).drop 6))) (digV ((bts s).take 2)) (digV (((bts s).drop 3).take 2)))).1, .int .i64 (dayV (calOf (fyR y0 (digV ((bts s).drop 6))) (digV ((bts s).take 2)) (digV (((bts s).drop 3).take 2)))).2]) := by
  have K0 := fun W => Lib.hid (RDateOf_ok n0 y0 m0 k0 W hd0 h90)
  have KT := fun W => Lib.hid (Rthree_yes s W h)
  have KN := fun W => Lib.hid (Rnear_any y0 (digV ((bts s).drop 6)) W hd0.y1 h90 h.z0 (digV_hi2 _ (by rw [List.length_drop, h.len]; omega)))
  have KR := fun W => Lib.hid (Rparsed_any (fyR y0 (digV ((bts s).drop 6))) (digV ((bts s).take 2)) (digV (((bts s).drop 3).take 2)) W)
  obtain ⟨r, hr⟩ : ∃ r, r = dayV (calOf (fyR y0 (digV ((bts s).drop 6))) (digV ((bts s).take 2)) (digV (((bts s).drop 3).take 2))) := ⟨_, rfl⟩
  rw [← hr] at KR ⊢
  obtain ⟨r1, r2⟩ := r
  obtain ⟨q, hq⟩ : ∃ q, q = fyR y0 (digV ((bts s).drop 6)) := ⟨_, rfl⟩
  rw [← hq] at KN KR
  obtain ⟨A, eA⟩ : ∃ A, A = digV ((bts s).take 2) := ⟨_, rfl⟩
  obtain ⟨B, eB⟩ : ∃ A, A = digV (((bts s).drop 3).take 2) := ⟨_, rfl⟩
  obtain ⟨C, eC⟩ : ∃ A, A = digV ((bts s).drop 6) := ⟨_, rfl⟩
  rw [← eA, ← eB, ← eC] at KT
  rw [← eC] at KN
  rw [← eA, ← eB] at KR
  clear h hd0 h90 hr hq eA eB eC
  go_enter Tryz.func31, Tryz.ntmps31
  go_wp2_with (first | (go_at_call 18; refine Calls.mono (K0 _).out ?_; rintro e w1 ⟨rfl, hbb⟩; clear K0; have B1 := Lib.hid (Bl.step (show Below w.heap.size w _ by repeat (first | exact Below.refl _ _ | refine Bl.alloc ?_ _ | refine Bl.drew ?_ | refine below_drewN' ?_ _ | refine Below.setCell ?_ (by simp) _)) hbb); have X1 := Lib.hid ((BoxC.new w 29 #[.int .i64 0, .int .i64 0]).stayC hbb); have y0' := X1.out.cell (i := 0) rfl; have y1' := X1.out.cell (i := 1) rfl; have z0' := X1.out.frozen 0; have z1' := X1.out.frozen 1; have s1' := X1.out.lt; clear hbb) | (go_at_call 67; refine Calls.mono (KT _).out ?_; rintro e w2 ⟨rfl, rfl⟩) | (go_at_call 69; refine Calls.mono (KN _).out ?_; rintro e w3 ⟨rfl, rfl⟩) | (go_at_call 68; refine Calls.mono (KR _).out ?_; rintro e w4 ⟨rfl, hbb⟩; have B4 := Lib.hid (Bl.step (show Below w.heap.size w _ by repeat (first | exact Below.refl _ _ | exact B1.out | refine Bl.alloc ?_ _ | refine Bl.drew ?_ | refine below_drewN' ?_ _ | refine Below.setCell ?_ (by simp) _)) hbb); have X4 := Lib.hid (((X1.out.alloc _).alloc _).stayC hbb); have u0 := X4.out.cell (i := 0) rfl; have u1 := X4.out.cell (i := 1) rfl; have v0 := X4.out.frozen 0; have v1 := X4.out.frozen 1; have v2 := X4.out.lt; clear hbb))
  have e0 := (X4.out.set 0 (.int .i64 r1)).cell (i := 0) rfl
  have e1 := ((X4.out.set 0 (.int .i64 r1)).set 1 (.int .i64 r2)).cell (i := 1) rfl
  refine bodyPost_ret (v := .agg #[.int .i64 r1, .int .i64 r2]) (by simp [results, Tryz.results31, go_sem, e0, e1]) rfl ?_
  exact ⟨rfl, by repeat (first | exact Below.refl _ _ | exact B4.out | refine Bl.alloc ?_ _ | refine Bl.drew ?_ | refine below_drewN' ?_ _ | refine Below.setCell ?_ (by simp) _)⟩
set_option maxHeartbeats 8000000 in
theorem RReadDay_U_no (s : ByteArray) (n0 y0 m0 k0 : Nat) (w : World) (hd0 : IsDate n0 y0 m0 k0) (h90 : y0 ≤ 9999) (h : ¬ Thr (bts s)) : Calls Tryz.prog 31 #[.string s, .int .u8 85, .int .i64 (n0 : Int)] w (GivesA w #[.int .i64 0, .int .i64 2]) := by
  have K0 := fun W => Lib.hid (RDateOf_ok n0 y0 m0 k0 W hd0 h90)
  have KT := fun W => Lib.hid (Rthree_no s W h)
  clear h hd0 h90
  go_enter Tryz.func31, Tryz.ntmps31
  go_wp2_with (first | (go_at_call 18; refine Calls.mono (K0 _).out ?_; rintro e w1 ⟨rfl, hbb⟩; clear K0; have B1 := Lib.hid (Bl.step (show Below w.heap.size w _ by repeat (first | exact Below.refl _ _ | refine Bl.alloc ?_ _ | refine Bl.drew ?_ | refine below_drewN' ?_ _ | refine Below.setCell ?_ (by simp) _)) hbb); have X1 := Lib.hid ((BoxC.new w 29 #[.int .i64 0, .int .i64 0]).stayC hbb); have y0' := X1.out.cell (i := 0) rfl; have y1' := X1.out.cell (i := 1) rfl; have z0' := X1.out.frozen 0; have z1' := X1.out.frozen 1; have s1' := X1.out.lt; clear hbb) | (go_at_call 67; refine Calls.mono (KT _).out ?_; rintro e w2 ⟨a, b, c, rfl, rfl⟩))
  have XF := (((X1.out.set 0 (.int .i64 0)).set 1 (.int .i64 2)).alloc (.cells #[.int .i64 (y0 : Int), .int .i64 (m0 : Int), .int .i64 (k0 : Int), .int .i64 0] 34)).alloc (.cells #[.int .i64 0, .int .i64 2] 29)
  have e0 := XF.cell (i := 0) rfl
  have e1 := XF.cell (i := 1) rfl
  refine bodyPost_ret (v := .agg #[.int .i64 0, .int .i64 2]) (by simp [results, Tryz.results31, go_sem, e0, e1]) rfl ?_
  exact ⟨rfl, by repeat (first | exact Below.refl _ _ | exact B1.out | refine Bl.alloc ?_ _ | refine Bl.drew ?_ | refine below_drewN' ?_ _ | refine Below.setCell ?_ (by simp) _)⟩
end Go.Proofs.YtmjifmlibgpjiaaGreatDoor
namespace Go.Proofs.YtmjifmlibgpjiaaGreatDoor
open Go.RowKit Go.Shelf Tx
set_option linter.unusedVariables false
set_option maxRecDepth 100000

set_option maxHeartbeats 8000000 in
theorem RReadDay_I_yes (s : ByteArray) (n0 y0 m0 k0 : Nat) (w : World) (hd0 : IsDate n0 y0 m0 k0) (h90 : y0 ≤ 9999) (h8 : s.size = 10) (c4 : (bts s)[4]? = some 45) (c7 : (bts s)[7]? = some 45) : Calls Tryz.prog 31 #[.string s, .int .u8 73, .int .i64 (n0 : Int)] w (GivesA w #[.int .i64 (dayV (calOf (digV ((bts s).take 4)) (digV (((bts s).drop 5).take 2)) (digV ((bts s).drop 8)))).1, .int .i64 (dayV (calOf (digV ((bts s).take 4)) (digV (((bts s).drop 5).take 2)) (digV ((bts s).drop 8)))).2]) := by
  have K0 := fun W => Lib.hid (RDateOf_ok n0 y0 m0 k0 W hd0 h90)
  have d8 : (s.size : Int) = 10 := by omega
  obtain ⟨x4, hx4⟩ : ∃ x : UInt8, s[4]'(by omega) = x := ⟨_, rfl⟩
  have lx4 : (bts s)[4]? = some x4 := by rw [bts_get s (by omega), hx4]
  have ex4 : x4 = 45 := by rw [lx4] at c4; exact Option.some.inj c4
  have qx4 : ((x4.toNat : Int) != 45) = false := by rw [ex4]; rfl
  clear lx4 c4 ex4
  obtain ⟨x7, hx7⟩ : ∃ x : UInt8, s[7]'(by omega) = x := ⟨_, rfl⟩
  have lx7 : (bts s)[7]? = some x7 := by rw [bts_get s (by omega), hx7]
  have ex7 : x7 = 45 := by rw [lx7] at c7; exact Option.some.inj c7
  have qx7 : ((x7.toNat : Int) != 45) = false := by rw [ex7]; rfl
  clear lx7 c7 ex7
  have KA := fun W => Lib.hid (show Calls Tryz.prog 70 #[.string (s.extract 0 4)] W (GivesI W (digV ((bts s).take 4))) from by rw [← ext_take]; exact rdig _ W (Nat.le_trans (ext_size s 0 4) (by decide)))
  have KM := fun W => Lib.hid (show Calls Tryz.prog 70 #[.string (s.extract 5 7)] W (GivesI W (digV (((bts s).drop 5).take 2))) from by rw [← ext_mid s 5 7 2 rfl]; exact rdig _ W (Nat.le_trans (ext_size s 5 7) (by decide)))
  have KC := fun W => Lib.hid (show Calls Tryz.prog 70 #[.string (s.extract 8 10)] W (GivesI W (digV ((bts s).drop 8))) from by rw [← ext_dropN s 8 10 h8]; exact rdig _ W (Nat.le_trans (ext_size s 8 10) (by decide)))
  have KR := fun W => Lib.hid (Rparsed_any (digV ((bts s).take 4)) (digV (((bts s).drop 5).take 2)) (digV ((bts s).drop 8)) W)
  obtain ⟨r, hr⟩ : ∃ r, r = dayV (calOf (digV ((bts s).take 4)) (digV (((bts s).drop 5).take 2)) (digV ((bts s).drop 8))) := ⟨_, rfl⟩
  rw [← hr] at KR ⊢
  obtain ⟨r1, r2⟩ := r
  obtain ⟨A, eA⟩ : ∃ A, A = digV ((bts s).take 4) := ⟨_, rfl⟩
  obtain ⟨B, eB⟩ : ∃ A, A = digV (((bts s).drop 5).take 2) := ⟨_, rfl⟩
  obtain ⟨C, eC⟩ : ∃ A, A = digV ((bts s).drop 8) := ⟨_, rfl⟩
  rw [← eA] at KA KR
  rw [← eB] at KM KR
  rw [← eC] at KC KR
  clear hd0 h90 hr eA eB eC
  go_enter Tryz.func31, Tryz.ntmps31
  go_wp2_with (go_at_call 18; refine Calls.mono (K0 _).out ?_; rintro e w1 ⟨rfl, hbb⟩; clear K0; have B1 := Lib.hid (Bl.step (show Below w.heap.size w _ by repeat (first | exact Below.refl _ _ | refine Bl.alloc ?_ _ | refine Bl.drew ?_ | refine below_drewN' ?_ _ | refine Below.setCell ?_ (by simp) _)) hbb); have X1 := Lib.hid ((BoxC.new w 29 #[.int .i64 0, .int .i64 0]).stayC hbb); have y0' := X1.out.cell (i := 0) rfl; have y1' := X1.out.cell (i := 1) rfl; have z0' := X1.out.frozen 0; have z1' := X1.out.frozen 1; have s1' := X1.out.lt; clear hbb)
  obtain ⟨W0, hW0⟩ : ∃ W0, W0 = (w1.alloc (.cells #[.int .i64 (y0 : Int), .int .i64 (m0 : Int), .int .i64 (k0 : Int), .int .i64 0] 34)).alloc (.cells #[.int .i64 0, .int .i64 2] 29) := ⟨_, rfl⟩
  have bF := Lib.hid (show BoxC W0 w.heap.size 29 #[.int .i64 0, .int .i64 0] by rw [hW0]; exact (X1.out.alloc _).alloc _)
  have HB0 := Lib.hid (show Below w.heap.size w W0 by rw [hW0]; exact Bl.alloc (Bl.alloc B1.out _) _)
  rw [← hW0]
  clear hW0 y0' y1' z0' z1' s1'
  go_region_with (first
    | (go_at_call 70; first | ((with_reducible refine Calls.mono (KA _).out ?_); rintro e w2 ⟨rfl, hv2⟩; subst hv2) | ((with_reducible refine Calls.mono (KM _).out ?_); rintro e w3 ⟨rfl, hv3⟩; subst hv3) | ((with_reducible refine Calls.mono (KC _).out ?_); rintro e w5 ⟨rfl, hv5⟩; subst hv5))
    | (go_at_call 68; refine Calls.mono (KR _).out ?_; rintro e w4 ⟨rfl, hb⟩; have B4 := Lib.hid (Bl.step (show Below w.heap.size w _ from by repeat (first | exact HB0.out | refine Bl.drew ?_)) hb); have X4 := Lib.hid ((show BoxC _ w.heap.size 29 #[.int .i64 0, .int .i64 0] from by repeat (first | exact bF.out | refine BoxC.drew ?_)).stayC hb); have y0 := X4.out.cell (i := 0) rfl; have y1 := X4.out.cell (i := 1) rfl; have z0 := X4.out.frozen 0; have z1 := X4.out.frozen 1; have s1 := X4.out.lt; clear hb))
  all_goals
    go_wp2
    have XF := ((X4.out.set 0 (.int .i64 r1)).set 1 (.int .i64 r2))
    have e0 := XF.cell (i := 0) rfl
    have e1 := XF.cell (i := 1) rfl
    refine bodyPost_ret (v := .agg #[.int .i64 r1, .int .i64 r2]) (by simp [results, Tryz.results31, go_sem, e0, e1]) rfl ?_
    exact ⟨rfl, by repeat (first | exact B4.out | refine Bl.drew ?_ | refine Below.setCell ?_ (by simp) _)⟩
set_option maxHeartbeats 8000000 in
theorem RReadDay_I_no0 (s : ByteArray) (n0 y0 m0 k0 : Nat) (w : World) (hd0 : IsDate n0 y0 m0 k0) (h90 : y0 ≤ 9999) (h8 : ¬ s.size = 10) : Calls Tryz.prog 31 #[.string s, .int .u8 73, .int .i64 (n0 : Int)] w (GivesA w #[.int .i64 0, .int .i64 2]) := by
  have K0 := fun W => Lib.hid (RDateOf_ok n0 y0 m0 k0 W hd0 h90)
  have c8 : ((s.size : Int) != 10) = true := bne_iff_ne.2 (by omega)
  clear h8
  clear hd0 h90
  go_enter Tryz.func31, Tryz.ntmps31
  go_wp2_with (go_at_call 18; refine Calls.mono (K0 _).out ?_; rintro e w1 ⟨rfl, hbb⟩; clear K0; have B1 := Lib.hid (Bl.step (show Below w.heap.size w _ by repeat (first | exact Below.refl _ _ | refine Bl.alloc ?_ _ | refine Bl.drew ?_ | refine below_drewN' ?_ _ | refine Below.setCell ?_ (by simp) _)) hbb); have X1 := Lib.hid ((BoxC.new w 29 #[.int .i64 0, .int .i64 0]).stayC hbb); have y0' := X1.out.cell (i := 0) rfl; have y1' := X1.out.cell (i := 1) rfl; have z0' := X1.out.frozen 0; have z1' := X1.out.frozen 1; have s1' := X1.out.lt; clear hbb)
  have XF := (((X1.out.set 0 (.int .i64 0)).set 1 (.int .i64 2)).alloc (.cells #[.int .i64 (y0 : Int), .int .i64 (m0 : Int), .int .i64 (k0 : Int), .int .i64 0] 34)).alloc (.cells #[.int .i64 0, .int .i64 2] 29)
  have e0 := XF.cell (i := 0) rfl
  have e1 := XF.cell (i := 1) rfl
  refine bodyPost_ret (v := .agg #[.int .i64 0, .int .i64 2]) (by simp [results, Tryz.results31, go_sem, e0, e1]) rfl ?_
  exact ⟨rfl, by repeat (first | exact Below.refl _ _ | exact B1.out | refine Bl.alloc ?_ _ | refine Bl.drew ?_ | refine below_drewN' ?_ _ | refine Below.setCell ?_ (by simp) _)⟩
set_option maxHeartbeats 8000000 in
theorem RReadDay_I_no1 (s : ByteArray) (n0 y0 m0 k0 : Nat) (w : World) (hd0 : IsDate n0 y0 m0 k0) (h90 : y0 ≤ 9999) (h8 : s.size = 10) (c4 : ¬ (bts s)[4]? = some 45) : Calls Tryz.prog 31 #[.string s, .int .u8 73, .int .i64 (n0 : Int)] w (GivesA w #[.int .i64 0, .int .i64 2]) := by
  have K0 := fun W => Lib.hid (RDateOf_ok n0 y0 m0 k0 W hd0 h90)
  have d8 : (s.size : Int) = 10 := by omega
  obtain ⟨x4, hx4⟩ : ∃ x : UInt8, s[4]'(by omega) = x := ⟨_, rfl⟩
  have lx4 : (bts s)[4]? = some x4 := by rw [bts_get s (by omega), hx4]
  have ex4 : ¬ x4 = 45 := by rw [lx4] at c4; exact fun q => c4 (by rw [q])
  have qx4 : ((x4.toNat : Int) != 45) = true := by rw [bne_iff_ne]; intro q; exact ex4 (UInt8.toNat_inj.1 (by rw [show (45 : UInt8).toNat = 45 from rfl]; omega))
  clear lx4 c4 ex4
  clear hd0 h90
  go_enter Tryz.func31, Tryz.ntmps31
  go_wp2_with (go_at_call 18; refine Calls.mono (K0 _).out ?_; rintro e w1 ⟨rfl, hbb⟩; clear K0; have B1 := Lib.hid (Bl.step (show Below w.heap.size w _ by repeat (first | exact Below.refl _ _ | refine Bl.alloc ?_ _ | refine Bl.drew ?_ | refine below_drewN' ?_ _ | refine Below.setCell ?_ (by simp) _)) hbb); have X1 := Lib.hid ((BoxC.new w 29 #[.int .i64 0, .int .i64 0]).stayC hbb); have y0' := X1.out.cell (i := 0) rfl; have y1' := X1.out.cell (i := 1) rfl; have z0' := X1.out.frozen 0; have z1' := X1.out.frozen 1; have s1' := X1.out.lt; clear hbb)
  have XF := (((X1.out.set 0 (.int .i64 0)).set 1 (.int .i64 2)).alloc (.cells #[.int .i64 (y0 : Int), .int .i64 (m0 : Int), .int .i64 (k0 : Int), .int .i64 0] 34)).alloc (.cells #[.int .i64 0, .int .i64 2] 29)
  have e0 := XF.cell (i := 0) rfl
  have e1 := XF.cell (i := 1) rfl
  refine bodyPost_ret (v := .agg #[.int .i64 0, .int .i64 2]) (by simp [results, Tryz.results31, go_sem, e0, e1]) rfl ?_
  exact ⟨rfl, by repeat (first | exact Below.refl _ _ | exact B1.out | refine Bl.alloc ?_ _ | refine Bl.drew ?_ | refine below_drewN' ?_ _ | refine Below.setCell ?_ (by simp) _)⟩
set_option maxHeartbeats 8000000 in
theorem RReadDay_I_no2 (s : ByteArray) (n0 y0 m0 k0 : Nat) (w : World) (hd0 : IsDate n0 y0 m0 k0) (h90 : y0 ≤ 9999) (h8 : s.size = 10) (c4 : (bts s)[4]? = some 45) (c7 : ¬ (bts s)[7]? = some 45) : Calls Tryz.prog 31 #[.string s, .int .u8 73, .int .i64 (n0 : Int)] w (GivesA w #[.int .i64 0, .int .i64 2]) := by
  have K0 := fun W => Lib.hid (RDateOf_ok n0 y0 m0 k0 W hd0 h90)
  have d8 : (s.size : Int) = 10 := by omega
  obtain ⟨x4, hx4⟩ : ∃ x : UInt8, s[4]'(by omega) = x := ⟨_, rfl⟩
  have lx4 : (bts s)[4]? = some x4 := by rw [bts_get s (by omega), hx4]
  have ex4 : x4 = 45 := by rw [lx4] at c4; exact Option.some.inj c4
  have qx4 : ((x4.toNat : Int) != 45) = false := by rw [ex4]; rfl
  clear lx4 c4 ex4
  obtain ⟨x7, hx7⟩ : ∃ x : UInt8, s[7]'(by omega) = x := ⟨_, rfl⟩
  have lx7 : (bts s)[7]? = some x7 := by rw [bts_get s (by omega), hx7]
  have ex7 : ¬ x7 = 45 := by rw [lx7] at c7; exact fun q => c7 (by rw [q])
  have qx7 : ((x7.toNat : Int) != 45) = true := by rw [bne_iff_ne]; intro q; exact ex7 (UInt8.toNat_inj.1 (by rw [show (45 : UInt8).toNat = 45 from rfl]; omega))
  clear lx7 c7 ex7
  clear hd0 h90
  go_enter Tryz.func31, Tryz.ntmps31
  go_wp2_with (go_at_call 18; refine Calls.mono (K0 _).out ?_; rintro e w1 ⟨rfl, hbb⟩; clear K0; have B1 := Lib.hid (Bl.step (show Below w.heap.size w _ by repeat (first | exact Below.refl _ _ | refine Bl.alloc ?_ _ | refine Bl.drew ?_ | refine below_drewN' ?_ _ | refine Below.setCell ?_ (by simp) _)) hbb); have X1 := Lib.hid ((BoxC.new w 29 #[.int .i64 0, .int .i64 0]).stayC hbb); have y0' := X1.out.cell (i := 0) rfl; have y1' := X1.out.cell (i := 1) rfl; have z0' := X1.out.frozen 0; have z1' := X1.out.frozen 1; have s1' := X1.out.lt; clear hbb)
  have XF := (((X1.out.set 0 (.int .i64 0)).set 1 (.int .i64 2)).alloc (.cells #[.int .i64 (y0 : Int), .int .i64 (m0 : Int), .int .i64 (k0 : Int), .int .i64 0] 34)).alloc (.cells #[.int .i64 0, .int .i64 2] 29)
  have e0 := XF.cell (i := 0) rfl
  have e1 := XF.cell (i := 1) rfl
  refine bodyPost_ret (v := .agg #[.int .i64 0, .int .i64 2]) (by simp [results, Tryz.results31, go_sem, e0, e1]) rfl ?_
  exact ⟨rfl, by repeat (first | exact Below.refl _ _ | exact B1.out | refine Bl.alloc ?_ _ | refine Bl.drew ?_ | refine below_drewN' ?_ _ | refine Below.setCell ?_ (by simp) _)⟩
end Go.Proofs.YtmjifmlibgpjiaaGreatDoor
namespace Go.Proofs.YtmjifmlibgpjiaaGreatDoor
open Go.RowKit Go.Shelf Tx
set_option linter.unusedVariables false
set_option maxRecDepth 100000

set_option maxHeartbeats 8000000 in
theorem RReadDay_S_yes (s : ByteArray) (n0 y0 m0 k0 : Nat) (w : World) (hd0 : IsDate n0 y0 m0 k0) (h90 : y0 ≤ 9999) (h8 : s.size = 8) : Calls Tryz.prog 31 #[.string s, .int .u8 83, .int .i64 (n0 : Int)] w (GivesA w #[.int .i64 (dayV (calOf (digV ((bts s).take 4)) (digV (((bts s).drop 4).take 2)) (digV ((bts s).drop 6)))).1, .int .i64 (dayV (calOf (digV ((bts s).take 4)) (digV (((bts s).drop 4).take 2)) (digV ((bts s).drop 6)))).2]) := by
  have K0 := fun W => Lib.hid (RDateOf_ok n0 y0 m0 k0 W hd0 h90)
  have d8 : (s.size : Int) = 8 := by omega
  have KA := fun W => Lib.hid (show Calls Tryz.prog 70 #[.string (s.extract 0 4)] W (GivesI W (digV ((bts s).take 4))) from by rw [← ext_take]; exact rdig _ W (Nat.le_trans (ext_size s 0 4) (by decide)))
  have KM := fun W => Lib.hid (show Calls Tryz.prog 70 #[.string (s.extract 4 6)] W (GivesI W (digV (((bts s).drop 4).take 2))) from by rw [← ext_mid s 4 6 2 rfl]; exact rdig _ W (Nat.le_trans (ext_size s 4 6) (by decide)))
  have KC := fun W => Lib.hid (show Calls Tryz.prog 70 #[.string (s.extract 6 8)] W (GivesI W (digV ((bts s).drop 6))) from by rw [← ext_dropN s 6 8 h8]; exact rdig _ W (Nat.le_trans (ext_size s 6 8) (by decide)))
  have KR := fun W => Lib.hid (Rparsed_any (digV ((bts s).take 4)) (digV (((bts s).drop 4).take 2)) (digV ((bts s).drop 6)) W)
  obtain ⟨r, hr⟩ : ∃ r, r = dayV (calOf (digV ((bts s).take 4)) (digV (((bts s).drop 4).take 2)) (digV ((bts s).drop 6))) := ⟨_, rfl⟩
  rw [← hr] at KR ⊢
  obtain ⟨r1, r2⟩ := r
  obtain ⟨A, eA⟩ : ∃ A, A = digV ((bts s).take 4) := ⟨_, rfl⟩
  obtain ⟨B, eB⟩ : ∃ A, A = digV (((bts s).drop 4).take 2) := ⟨_, rfl⟩
  obtain ⟨C, eC⟩ : ∃ A, A = digV ((bts s).drop 6) := ⟨_, rfl⟩
  rw [← eA] at KA KR
  rw [← eB] at KM KR
  rw [← eC] at KC KR
  clear hd0 h90 hr eA eB eC
  go_enter Tryz.func31, Tryz.ntmps31
  go_wp2_with (go_at_call 18; refine Calls.mono (K0 _).out ?_; rintro e w1 ⟨rfl, hbb⟩; clear K0; have B1 := Lib.hid (Bl.step (show Below w.heap.size w _ by repeat (first | exact Below.refl _ _ | refine Bl.alloc ?_ _ | refine Bl.drew ?_ | refine below_drewN' ?_ _ | refine Below.setCell ?_ (by simp) _)) hbb); have X1 := Lib.hid ((BoxC.new w 29 #[.int .i64 0, .int .i64 0]).stayC hbb); have y0' := X1.out.cell (i := 0) rfl; have y1' := X1.out.cell (i := 1) rfl; have z0' := X1.out.frozen 0; have z1' := X1.out.frozen 1; have s1' := X1.out.lt; clear hbb)
  obtain ⟨W0, hW0⟩ : ∃ W0, W0 = (w1.alloc (.cells #[.int .i64 (y0 : Int), .int .i64 (m0 : Int), .int .i64 (k0 : Int), .int .i64 0] 34)).alloc (.cells #[.int .i64 0, .int .i64 2] 29) := ⟨_, rfl⟩
  have bF := Lib.hid (show BoxC W0 w.heap.size 29 #[.int .i64 0, .int .i64 0] by rw [hW0]; exact (X1.out.alloc _).alloc _)
  have HB0 := Lib.hid (show Below w.heap.size w W0 by rw [hW0]; exact Bl.alloc (Bl.alloc B1.out _) _)
  rw [← hW0]
  clear hW0 y0' y1' z0' z1' s1'
  go_region_with (first
    | (go_at_call 70; first | ((with_reducible refine Calls.mono (KA _).out ?_); rintro e w2 ⟨rfl, hv2⟩; subst hv2) | ((with_reducible refine Calls.mono (KM _).out ?_); rintro e w3 ⟨rfl, hv3⟩; subst hv3) | ((with_reducible refine Calls.mono (KC _).out ?_); rintro e w5 ⟨rfl, hv5⟩; subst hv5))
    | (go_at_call 68; refine Calls.mono (KR _).out ?_; rintro e w4 ⟨rfl, hb⟩; have B4 := Lib.hid (Bl.step (show Below w.heap.size w _ from by repeat (first | exact HB0.out | refine Bl.drew ?_)) hb); have X4 := Lib.hid ((show BoxC _ w.heap.size 29 #[.int .i64 0, .int .i64 0] from by repeat (first | exact bF.out | refine BoxC.drew ?_)).stayC hb); have y0 := X4.out.cell (i := 0) rfl; have y1 := X4.out.cell (i := 1) rfl; have z0 := X4.out.frozen 0; have z1 := X4.out.frozen 1; have s1 := X4.out.lt; clear hb))
  all_goals
    go_wp2
    have XF := ((X4.out.set 0 (.int .i64 r1)).set 1 (.int .i64 r2))
    have e0 := XF.cell (i := 0) rfl
    have e1 := XF.cell (i := 1) rfl
    refine bodyPost_ret (v := .agg #[.int .i64 r1, .int .i64 r2]) (by simp [results, Tryz.results31, go_sem, e0, e1]) rfl ?_
    exact ⟨rfl, by repeat (first | exact B4.out | refine Bl.drew ?_ | refine Below.setCell ?_ (by simp) _)⟩
set_option maxHeartbeats 8000000 in
theorem RReadDay_S_no0 (s : ByteArray) (n0 y0 m0 k0 : Nat) (w : World) (hd0 : IsDate n0 y0 m0 k0) (h90 : y0 ≤ 9999) (h8 : ¬ s.size = 8) : Calls Tryz.prog 31 #[.string s, .int .u8 83, .int .i64 (n0 : Int)] w (GivesA w #[.int .i64 0, .int .i64 2]) := by
  have K0 := fun W => Lib.hid (RDateOf_ok n0 y0 m0 k0 W hd0 h90)
  have c8 : ((s.size : Int) != 8) = true := bne_iff_ne.2 (by omega)
  clear h8
  clear hd0 h90
  go_enter Tryz.func31, Tryz.ntmps31
  go_wp2_with (go_at_call 18; refine Calls.mono (K0 _).out ?_; rintro e w1 ⟨rfl, hbb⟩; clear K0; have B1 := Lib.hid (Bl.step (show Below w.heap.size w _ by repeat (first | exact Below.refl _ _ | refine Bl.alloc ?_ _ | refine Bl.drew ?_ | refine below_drewN' ?_ _ | refine Below.setCell ?_ (by simp) _)) hbb); have X1 := Lib.hid ((BoxC.new w 29 #[.int .i64 0, .int .i64 0]).stayC hbb); have y0' := X1.out.cell (i := 0) rfl; have y1' := X1.out.cell (i := 1) rfl; have z0' := X1.out.frozen 0; have z1' := X1.out.frozen 1; have s1' := X1.out.lt; clear hbb)
  have XF := (((X1.out.set 0 (.int .i64 0)).set 1 (.int .i64 2)).alloc (.cells #[.int .i64 (y0 : Int), .int .i64 (m0 : Int), .int .i64 (k0 : Int), .int .i64 0] 34)).alloc (.cells #[.int .i64 0, .int .i64 2] 29)
  have e0 := XF.cell (i := 0) rfl
  have e1 := XF.cell (i := 1) rfl
  refine bodyPost_ret (v := .agg #[.int .i64 0, .int .i64 2]) (by simp [results, Tryz.results31, go_sem, e0, e1]) rfl ?_
  exact ⟨rfl, by repeat (first | exact Below.refl _ _ | exact B1.out | refine Bl.alloc ?_ _ | refine Bl.drew ?_ | refine below_drewN' ?_ _ | refine Below.setCell ?_ (by simp) _)⟩
set_option maxHeartbeats 8000000 in
theorem RReadDay_N (s : ByteArray) (n0 y0 m0 k0 : Nat) (w : World) (hd0 : IsDate n0 y0 m0 k0) (h90 : y0 ≤ 9999) (hs : s.size ≤ 1000000) : Calls Tryz.prog 31 #[.string s, .int .u8 78, .int .i64 (n0 : Int)] w (GivesA w #[.int .i64 (dayV (namV (bts s))).1, .int .i64 (dayV (namV (bts s))).2]) := by
  have K0 := fun W => Lib.hid (RDateOf_ok n0 y0 m0 k0 W hd0 h90)
  have KN := fun W => Lib.hid (Rnamed_any s W hs)
  obtain ⟨r, hr⟩ : ∃ r, r = dayV (namV (bts s)) := ⟨_, rfl⟩
  rw [← hr] at KN ⊢
  obtain ⟨r1, r2⟩ := r
  clear hd0 h90 hr hs
  go_enter Tryz.func31, Tryz.ntmps31
  go_wp2_with (first | (go_at_call 18; refine Calls.mono (K0 _).out ?_; rintro e w1 ⟨rfl, hbb⟩; clear K0; have B1 := Lib.hid (Bl.step (show Below w.heap.size w _ by repeat (first | exact Below.refl _ _ | refine Bl.alloc ?_ _ | refine Bl.drew ?_ | refine below_drewN' ?_ _ | refine Below.setCell ?_ (by simp) _)) hbb); have X1 := Lib.hid ((BoxC.new w 29 #[.int .i64 0, .int .i64 0]).stayC hbb); have y0' := X1.out.cell (i := 0) rfl; have y1' := X1.out.cell (i := 1) rfl; have z0' := X1.out.frozen 0; have z1' := X1.out.frozen 1; have s1' := X1.out.lt; clear hbb) | (go_at_call 71; refine Calls.mono (KN _).out ?_; rintro e w4 ⟨rfl, hbb⟩; have B4 := Lib.hid (Bl.step (show Below w.heap.size w _ by repeat (first | exact Below.refl _ _ | exact B1.out | refine Bl.alloc ?_ _ | refine Bl.drew ?_ | refine below_drewN' ?_ _ | refine Below.setCell ?_ (by simp) _)) hbb); have X4 := Lib.hid (((X1.out.alloc _).alloc _).stayC hbb); have u0 := X4.out.cell (i := 0) rfl; have u1 := X4.out.cell (i := 1) rfl; have v0 := X4.out.frozen 0; have v1 := X4.out.frozen 1; have v2 := X4.out.lt; clear hbb))
  have e0 := (X4.out.set 0 (.int .i64 r1)).cell (i := 0) rfl
  have e1 := ((X4.out.set 0 (.int .i64 r1)).set 1 (.int .i64 r2)).cell (i := 1) rfl
  refine bodyPost_ret (v := .agg #[.int .i64 r1, .int .i64 r2]) (by simp [results, Tryz.results31, go_sem, e0, e1]) rfl ?_
  exact ⟨rfl, by repeat (first | exact Below.refl _ _ | exact B4.out | refine Bl.alloc ?_ _ | refine Bl.drew ?_ | refine below_drewN' ?_ _ | refine Below.setCell ?_ (by simp) _)⟩
end Go.Proofs.YtmjifmlibgpjiaaGreatDoor
