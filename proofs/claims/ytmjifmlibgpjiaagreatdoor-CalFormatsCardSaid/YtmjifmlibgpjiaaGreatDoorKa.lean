/- The reference's functions on names of months, years and dates in texts. -/
import Derived.Test.YtmjifmlibgpjiaaGreatDoorHr
import Derived.Test.YtmjifmlibgpjiaaGreatDoorKf
namespace Go.Proofs.YtmjifmlibgpjiaaGreatDoor
open Go.RowKit Go.Shelf Tx
set_option linter.unusedVariables false
set_option maxRecDepth 100000

set_option maxHeartbeats 4000000 in
theorem Rmonth_any (m : Nat) (w : World) (h1 : 1 ≤ m) (h2 : m ≤ 12) : Calls Tryz.prog 63 #[.int .i64 (m : Int)] w (GivesS w (monN m)) := by
  have h : m = 1 ∨ m = 2 ∨ m = 3 ∨ m = 4 ∨ m = 5 ∨ m = 6 ∨ m = 7 ∨ m = 8 ∨ m = 9 ∨ m = 10 ∨ m = 11 ∨ m = 12 := by omega
  clear h1 h2
  rcases h with rfl | rfl | rfl | rfl | rfl | rfl | rfl | rfl | rfl | rfl | rfl | rfl
  all_goals
    go_enter Tryz.func63, Tryz.ntmps63
    go_wp2
    go_ret
    exact ⟨_, rfl, Lib.hid rfl, by repeat (first | exact Below.refl _ _ | refine Bl.alloc ?_ _ | refine Bl.drew ?_ | refine below_drewN' ?_ _ | refine Below.setCell ?_ (by simp) _)⟩
set_option maxHeartbeats 4000000 in
theorem Rweekday_any (m : Nat) (w : World) (h1 : 0 ≤ m) (h2 : m ≤ 6) : Calls Tryz.prog 64 #[.int .i64 (m : Int)] w (GivesS w (dayN m)) := by
  have h : m = 0 ∨ m = 1 ∨ m = 2 ∨ m = 3 ∨ m = 4 ∨ m = 5 ∨ m = 6 := by omega
  clear h1 h2
  rcases h with rfl | rfl | rfl | rfl | rfl | rfl | rfl
  all_goals
    go_enter Tryz.func64, Tryz.ntmps64
    go_wp2
    go_ret
    exact ⟨_, rfl, Lib.hid rfl, by repeat (first | exact Below.refl _ _ | refine Bl.alloc ?_ _ | refine Bl.drew ?_ | refine below_drewN' ?_ _ | refine Below.setCell ?_ (by simp) _)⟩
theorem nearFacts (y : Nat) (n v : Int) (hy1 : 1 ≤ y) (hy : y ≤ 9999) (h1 : (y : Int) - 50 ≤ n) (h2 : n ≤ (y : Int) + 49) (v0 : 0 ≤ v) (v9 : v ≤ 99) :
    ∃ a b : Int, n.tmod 100 = a ∧ wrap64 a = a ∧ IntKind.i64.wrap (a + 100) = a + 100 ∧ wrap64 (a + 100) = a + 100 ∧ (a + 100).tmod 100 = b ∧ wrap64 b = b ∧ IntKind.i64.wrap (n + 1) = n + 1 ∧ wrap64 (n + 1) = n + 1 ∧ (b = v ↔ n = fyR y v) ∧ ((y : Int) - 50 ≤ fyR y v ∧ fyR y v ≤ (y : Int) + 49) := by
  have ha : -99 ≤ n.tmod 100 ∧ n.tmod 100 ≤ 99 := by
    have e := Int.tmod_def n 100
    rcases Int.lt_or_le n 0 with q | q
    · have e2 : n.tdiv 100 = -((-n) / 100) := by rw [← Int.tdiv_eq_ediv_of_nonneg (by omega), Int.neg_tdiv, Int.neg_neg]
      rw [e, e2]; omega
    · rw [Int.tmod_eq_emod_of_nonneg q]; omega
  have hb : (n.tmod 100 + 100).tmod 100 = n % 100 := by
    rw [Int.tmod_eq_emod_of_nonneg (by omega)]
    have e := Int.tmod_def n 100
    rcases Int.lt_or_le n 0 with q | q
    · have e2 : n.tdiv 100 = -((-n) / 100) := by rw [← Int.tdiv_eq_ediv_of_nonneg (by omega), Int.neg_tdiv, Int.neg_neg]
      rw [e, e2]; omega
    · rw [Int.tmod_eq_emod_of_nonneg q]; omega
  refine ⟨n.tmod 100, n % 100, rfl, w64 (by omega) (by omega), i64i' (by omega) (by omega), w64 (by omega) (by omega), hb, w64 (by omega) (by omega), i64i' (by omega) (by omega), w64 (by omega) (by omega), ?_, ?_⟩
  · obtain ⟨g, hg⟩ : ∃ g, g = y / 100 * 100 := ⟨_, rfl⟩
    unfold fyR
    rw [← hg]
    have g1 : g ≤ y := by omega
    have g2 : y < g + 100 := by omega
    have g3 : g % 100 = 0 := by omega
    clear hg ha hb
    split
    · omega
    · split <;> omega
  · obtain ⟨g, hg⟩ : ∃ g, g = y / 100 * 100 := ⟨_, rfl⟩
    unfold fyR
    rw [← hg]
    have g1 : g ≤ y := by omega
    have g2 : y < g + 100 := by omega
    clear hg ha hb
    split
    · omega
    · split <;> omega
set_option maxHeartbeats 4000000 in
theorem Rnear_any (y : Nat) (v : Int) (w : World) (hy1 : 1 ≤ y) (hy : y ≤ 9999) (v0 : 0 ≤ v) (v9 : v ≤ 99) : Calls Tryz.prog 69 #[.int .i64 v, .int .i64 (y : Int)] w (GivesI w (fyR y v)) := by
  have F := fun n h1 h2 => Lib.hid (nearFacts y n v hy1 hy h1 h2 v0 v9)
  have F0 := nearFacts y ((y : Int) - 50) v hy1 hy (by omega) (by omega) v0 v9
  obtain ⟨_, _, _, _, _, _, _, _, _, _, _, r1, r2⟩ := F0
  have f1 : IntKind.i64.wrap ((y : Int) - 50) = (y : Int) - 50 := i64i' (by omega) (by omega)
  have f2 : wrap64 ((y : Int) - 50) = (y : Int) - 50 := w64 (by omega) (by omega)
  obtain ⟨z, hz⟩ : ∃ z, z = fyR y v := ⟨_, rfl⟩
  obtain ⟨Y, hY⟩ : ∃ Y : Int, Y = (y : Int) := ⟨_, rfl⟩
  have F' := fun n h1 h2 => Lib.hid (show ∃ a b : Int, n.tmod 100 = a ∧ wrap64 a = a ∧ IntKind.i64.wrap (a + 100) = a + 100 ∧ wrap64 (a + 100) = a + 100 ∧ (a + 100).tmod 100 = b ∧ wrap64 b = b ∧ IntKind.i64.wrap (n + 1) = n + 1 ∧ wrap64 (n + 1) = n + 1 ∧ (b = v ↔ n = z) from by
    obtain ⟨a, b, q1, q2, q3, q4, q5, q6, q7, q8, q9, _⟩ := (F n h1 h2).out
    exact ⟨a, b, q1, q2, q3, q4, q5, q6, q7, q8, by rw [hz]; exact q9⟩)
  rw [← hz] at r1 r2 ⊢
  rw [← hY] at f1 f2 F' r1 r2 ⊢
  have HR := Lib.hid (And.intro r1 r2)
  clear F hz hY v0 v9 hy1 hy r1 r2
  go_enter Tryz.func69, Tryz.ntmps69
  go_wp2
  go_loopw [5] (fun u wr => ∃ n : Int, u = .int .i64 n ∧ Y - 50 ≤ n ∧ n ≤ z ∧ wr = w) (fun u _ => (z - intOf u).toNat)
  case atStart => exact ⟨Y - 50, rfl, Int.le_refl _, HR.out.1, rfl⟩
  case round =>
    obtain ⟨n, rfl, hn1, hn2, rfl⟩ := hrel
    obtain ⟨a, b, q1, q2, q3, q4, q5, q6, q7, q8, q9⟩ := (F' n hn1 (by have := HR.out; omega)).out
    by_cases hb : b = v
    · have hne := q9.1 hb
      have c1 : (b != v) = false := by rw [hb]; simp
      have c2 : (v != v) = false := by simp
      have HZ := Lib.hid hne
      clear q9 hb hne hn1 hn2
      go_wp2
      go_ret
      exact ⟨by rw [← HZ.out]; rfl, rfl⟩
    · have hne : ¬ n = z := fun e => hb (q9.2 e)
      have c1 : (b != v) = true := bne_iff_ne.2 hb
      have HB := Lib.hid (show Y - 50 ≤ n + 1 ∧ n + 1 ≤ z by omega)
      have HN := Lib.hid (show n < z by omega)
      clear q9 hb hne hn1 hn2
      go_wp2
      go_roundw
      case rel => exact ⟨n + 1, by first | rfl | go_num, HB.out.1, HB.out.2, by first | trivial | rfl⟩
      case measure => have := HN.out; simp [intOf]; omega
set_option maxHeartbeats 2000000 in
theorem Rparsed_ok (n y m k : Nat) (w : World) (hd : IsDate n y m k) (h9 : y ≤ 9999) : Calls Tryz.prog 68 #[.int .i64 (y : Int), .int .i64 (m : Int), .int .i64 (k : Int)] w (GivesA w #[.int .i64 (n : Int), .int .i64 0]) := by
  have K := fun W => Lib.hid (RDayOf_ok n y m k W hd h9)
  clear hd h9
  go_enter Tryz.func68, Tryz.ntmps68
  go_wp2_with (go_at_call 16; refine Calls.mono (K _).out ?_; rintro e w1 ⟨rfl, hb⟩; have B1 := Lib.hid (Bl.step (show Below w.heap.size w _ from by repeat (first | exact Below.refl _ _ | refine Bl.alloc ?_ _ | refine Bl.drew ?_ | refine below_drewN' ?_ _ | refine Below.setCell ?_ (by simp) _)) hb); have X := ((BoxC.new w 29 #[.int .i64 0, .int .i64 0]).stayC hb); have y0 := X.cell (i := 0) rfl; have y1 := X.cell (i := 1) rfl; have z0 := X.frozen 0; have z1 := X.frozen 1; have s1 := X.lt; have HX := Lib.hid X; clear hb X)
  have XF := ((HX.out.set 0 (.int .i64 (n : Int))).set 1 (.int .i64 0)).alloc (.cells #[.int .i64 (n : Int), .int .i64 0] 29)
  have e0 := XF.cell (i := 0) rfl
  have e1 := XF.cell (i := 1) rfl
  refine bodyPost_ret (v := .agg #[.int .i64 (n : Int), .int .i64 0]) (by simp [results, Tryz.results68, go_sem, e0, e1]) rfl ?_
  exact ⟨rfl, by repeat (first | exact B1.out | refine Bl.alloc ?_ _ | refine Below.setCell ?_ (by simp) _)⟩
set_option maxHeartbeats 2000000 in
theorem Rparsed_bad (y m k : Int) (w : World) (h : ∀ n, ¬ IsCal n y m k) : Calls Tryz.prog 68 #[.int .i64 y, .int .i64 m, .int .i64 k] w (GivesA w #[.int .i64 0, .int .i64 2]) := by
  have K := fun W => Lib.hid (RDayOf_bad y m k W h)
  clear h
  go_enter Tryz.func68, Tryz.ntmps68
  go_wp2_with (go_at_call 16; refine Calls.mono (K _).out ?_; rintro e w1 ⟨rfl, hb⟩; have B1 := Lib.hid (Bl.step (show Below w.heap.size w _ from by repeat (first | exact Below.refl _ _ | refine Bl.alloc ?_ _ | refine Bl.drew ?_ | refine below_drewN' ?_ _ | refine Below.setCell ?_ (by simp) _)) hb); have X := ((BoxC.new w 29 #[.int .i64 0, .int .i64 0]).stayC hb); have y0 := X.cell (i := 0) rfl; have y1 := X.cell (i := 1) rfl; have z0 := X.frozen 0; have z1 := X.frozen 1; have s1 := X.lt; have HX := Lib.hid X; clear hb X)
  have XF := ((HX.out.set 0 (.int .i64 0)).set 1 (.int .i64 2)).alloc (.cells #[.int .i64 0, .int .i64 1] 29)
  have e0 := XF.cell (i := 0) rfl
  have e1 := XF.cell (i := 1) rfl
  refine bodyPost_ret (v := .agg #[.int .i64 0, .int .i64 2]) (by simp [results, Tryz.results68, go_sem, e0, e1]) rfl ?_
  exact ⟨rfl, by repeat (first | exact B1.out | refine Bl.alloc ?_ _ | refine Below.setCell ?_ (by simp) _)⟩
namespace Tx
/-- What the reference gives of a day that may be none. -/
def dayV (o : Option Nat) : Int × Int := match o with
  | some n => ((n : Int), 0)
  | none => (0, 2)
end Tx
theorem Rparsed_any (y m k : Int) (w : World) : Calls Tryz.prog 68 #[.int .i64 y, .int .i64 m, .int .i64 k] w (GivesA w #[.int .i64 (dayV (calOf y m k)).1, .int .i64 (dayV (calOf y m k)).2]) := by
  by_cases h : ∃ n, IsCal n y m k
  · obtain ⟨n, hn⟩ := h
    rw [calOf_some hn]
    obtain ⟨y', m', k', rfl, rfl, rfl, hd, h9⟩ := hn
    exact Rparsed_ok n y' m' k' w hd h9
  · have h' : ∀ n, ¬ IsCal n y m k := fun n hn => h ⟨n, hn⟩
    rw [calOf_none h']
    exact Rparsed_bad y m k w h'
end Go.Proofs.YtmjifmlibgpjiaaGreatDoor
namespace Go.Proofs.YtmjifmlibgpjiaaGreatDoor
open Go.RowKit Go.Shelf Tx
set_option linter.unusedVariables false
set_option maxRecDepth 100000

namespace Tx
/-- Three pairs of digits with slashes between. -/
structure Thr (l : List UInt8) : Prop where
  len : l.length = 8
  c2 : l[2]? = some 47
  c5 : l[5]? = some 47
  a0 : 0 ≤ digV (l.take 2)
  b0 : 0 ≤ digV ((l.drop 3).take 2)
  z0 : 0 ≤ digV (l.drop 6)
def numFrom (l : List UInt8) : Nat → Nat → Nat
  | 0, _ => 0
  | k + 1, m => if (monN m).take 3 = l then m else numFrom l k (m + 1)
/-- The month of an abbreviation; 0 if there is none. -/
def numM (l : List UInt8) : Nat := numFrom l 12 1
end Tx
set_option maxHeartbeats 2000000 in
theorem Rthree_yes (s : ByteArray) (w : World) (h : Thr (bts s)) : Calls Tryz.prog 67 #[.string s] w fun e w' => e = .returned (.tuple #[.int .i64 (digV ((bts s).take 2)), .int .i64 (digV (((bts s).drop 3).take 2)), .int .i64 (digV ((bts s).drop 6)), .bool true]) ∧ w = w' := by
  have h8 : s.size = 8 := by rw [← bts_length]; exact h.len
  have c8 : ((s.size : Int) != 8) = false := by rw [h8]; rfl
  have d8 : (s.size : Int) = 8 := by omega
  obtain ⟨x, hx⟩ : ∃ x : UInt8, s[2]'(by omega) = x := ⟨_, rfl⟩
  have lx : (bts s)[2]? = some x := by rw [bts_get s (by omega), hx]
  obtain ⟨y, hy⟩ : ∃ x : UInt8, s[5]'(by omega) = x := ⟨_, rfl⟩
  have ly : (bts s)[5]? = some y := by rw [bts_get s (by omega), hy]
  have ex : x = 47 := by have := h.c2; rw [lx] at this; exact Option.some.inj this
  have ey : y = 47 := by have := h.c5; rw [ly] at this; exact Option.some.inj this
  have qx : ((x.toNat : Int) != 47) = false := by rw [ex]; rfl
  have qy : ((y.toNat : Int) != 47) = false := by rw [ey]; rfl
  have KH := fun W => Lib.hid (show Calls Tryz.prog 70 #[.string (s.extract 0 2)] W (GivesI W (digV ((bts s).take 2))) from by rw [← ext_take]; exact rdig _ W (Nat.le_trans (ext_size s 0 2) (by decide)))
  have KM := fun W => Lib.hid (show Calls Tryz.prog 70 #[.string (s.extract 3 5)] W (GivesI W (digV (((bts s).drop 3).take 2))) from by rw [← ext_mid s 3 5 2 rfl]; exact rdig _ W (Nat.le_trans (ext_size s 3 5) (by decide)))
  have KC := fun W => Lib.hid (show Calls Tryz.prog 70 #[.string (s.extract 6 8)] W (GivesI W (digV ((bts s).drop 6))) from by rw [← ext_dropN s 6 8 h8]; exact rdig _ W (Nat.le_trans (ext_size s 6 8) (by decide)))
  have p1 := h.a0
  have p2 := h.b0
  have p3 := h.z0
  obtain ⟨A, eA⟩ : ∃ A, A = digV ((bts s).take 2) := ⟨_, rfl⟩
  obtain ⟨B, eB⟩ : ∃ A, A = digV (((bts s).drop 3).take 2) := ⟨_, rfl⟩
  obtain ⟨C, eC⟩ : ∃ A, A = digV ((bts s).drop 6) := ⟨_, rfl⟩
  rw [← eA] at p1 KH ⊢
  rw [← eB] at p2 KM ⊢
  rw [← eC] at p3 KC ⊢
  clear eA eB eC lx ly h
  go_enter Tryz.func67, Tryz.ntmps67
  go_wp2_with (go_at_call 70; first | (refine Calls.mono (KH _).out ?_; clear KH; rintro e w1 ⟨rfl, rfl⟩) | (refine Calls.mono (KM _).out ?_; clear KM; rintro e w2 ⟨rfl, rfl⟩) | (refine Calls.mono (KC _).out ?_; clear KC; rintro e w3 ⟨rfl, rfl⟩))
  refine bodyPost_ret (v := .tuple #[.int .i64 A, .int .i64 B, .int .i64 C, .bool true]) (by simp [results, Tryz.results67, go_sem, p1, p2, p3]) rfl ?_
  exact ⟨rfl, rfl⟩
set_option maxHeartbeats 4000000 in
theorem Rthree_no (s : ByteArray) (w : World) (h : ¬ Thr (bts s)) : Calls Tryz.prog 67 #[.string s] w (fun e w' => ∃ a b c : Int, e = .returned (.tuple #[.int .i64 a, .int .i64 b, .int .i64 c, .bool false]) ∧ w = w') := by
  by_cases h8 : s.size = 8
  · have c8 : ((s.size : Int) != 8) = false := by rw [h8]; rfl
    have d8 : (s.size : Int) = 8 := by omega
    obtain ⟨x, hx⟩ : ∃ x : UInt8, s[2]'(by omega) = x := ⟨_, rfl⟩
    have lx : (bts s)[2]? = some x := by rw [bts_get s (by omega), hx]
    obtain ⟨y, hy⟩ : ∃ x : UInt8, s[5]'(by omega) = x := ⟨_, rfl⟩
    have ly : (bts s)[5]? = some y := by rw [bts_get s (by omega), hy]
    by_cases ex : x = 47
    · have qx : ((x.toNat : Int) != 47) = false := by rw [ex]; rfl
      by_cases ey : y = 47
      · have qy : ((y.toNat : Int) != 47) = false := by rw [ey]; rfl
        have Q : digV ((bts s).take 2) < 0 ∨ (¬ digV ((bts s).take 2) < 0 ∧ digV (((bts s).drop 3).take 2) < 0) ∨ (¬ digV ((bts s).take 2) < 0 ∧ ¬ digV (((bts s).drop 3).take 2) < 0 ∧ digV ((bts s).drop 6) < 0) := by
          by_cases a : digV ((bts s).take 2) < 0
          · exact .inl a
          · by_cases b : digV (((bts s).drop 3).take 2) < 0
            · exact .inr (.inl ⟨a, b⟩)
            · by_cases c : digV ((bts s).drop 6) < 0
              · exact .inr (.inr ⟨a, b, c⟩)
              · exact absurd ⟨by rw [bts_length]; exact h8, by rw [lx, ex], by rw [ly, ey], by omega, by omega, by omega⟩ h
        have KH := fun W => Lib.hid (show Calls Tryz.prog 70 #[.string (s.extract 0 2)] W (GivesI W (digV ((bts s).take 2))) from by rw [← ext_take]; exact rdig _ W (Nat.le_trans (ext_size s 0 2) (by decide)))
        have KM := fun W => Lib.hid (show Calls Tryz.prog 70 #[.string (s.extract 3 5)] W (GivesI W (digV (((bts s).drop 3).take 2))) from by rw [← ext_mid s 3 5 2 rfl]; exact rdig _ W (Nat.le_trans (ext_size s 3 5) (by decide)))
        have KC := fun W => Lib.hid (show Calls Tryz.prog 70 #[.string (s.extract 6 8)] W (GivesI W (digV ((bts s).drop 6))) from by rw [← ext_dropN s 6 8 h8]; exact rdig _ W (Nat.le_trans (ext_size s 6 8) (by decide)))
        obtain ⟨A, eA⟩ : ∃ A, A = digV ((bts s).take 2) := ⟨_, rfl⟩
        obtain ⟨B, eB⟩ : ∃ A, A = digV (((bts s).drop 3).take 2) := ⟨_, rfl⟩
        obtain ⟨C, eC⟩ : ∃ A, A = digV ((bts s).drop 6) := ⟨_, rfl⟩
        rw [← eA, ← eB, ← eC] at Q
        rw [← eA] at KH
        rw [← eB] at KM
        rw [← eC] at KC
        clear eA eB eC lx ly h
        rcases Q with Q | ⟨Q1, Q⟩ | ⟨Q1, Q2, Q⟩
        · have g1 : ¬ 0 ≤ A := by omega
          go_enter Tryz.func67, Tryz.ntmps67
          go_wp2_with (go_at_call 70; first | (refine Calls.mono (KH _).out ?_; clear KH; rintro e w1 ⟨rfl, rfl⟩) | (refine Calls.mono (KM _).out ?_; clear KM; rintro e w2 ⟨rfl, rfl⟩) | (refine Calls.mono (KC _).out ?_; clear KC; rintro e w3 ⟨rfl, rfl⟩))
          refine bodyPost_ret (v := .tuple #[.int .i64 A, .int .i64 B, .int .i64 C, .bool false]) (by simp [results, Tryz.results67, go_sem, Q]) rfl ?_
          first | exact ⟨_, _, _, rfl, rfl⟩ | exact ⟨⟨_, _, _, rfl⟩, rfl⟩
        · have g1 : 0 ≤ A := by omega
          have g2 : ¬ 0 ≤ B := by omega
          go_enter Tryz.func67, Tryz.ntmps67
          go_wp2_with (go_at_call 70; first | (refine Calls.mono (KH _).out ?_; clear KH; rintro e w1 ⟨rfl, rfl⟩) | (refine Calls.mono (KM _).out ?_; clear KM; rintro e w2 ⟨rfl, rfl⟩) | (refine Calls.mono (KC _).out ?_; clear KC; rintro e w3 ⟨rfl, rfl⟩))
          refine bodyPost_ret (v := .tuple #[.int .i64 A, .int .i64 B, .int .i64 C, .bool false]) (by simp [results, Tryz.results67, go_sem, Q]) rfl ?_
          first | exact ⟨_, _, _, rfl, rfl⟩ | exact ⟨⟨_, _, _, rfl⟩, rfl⟩
        · have g1 : 0 ≤ A := by omega
          have g2 : 0 ≤ B := by omega
          have g3 : ¬ 0 ≤ C := by omega
          go_enter Tryz.func67, Tryz.ntmps67
          go_wp2_with (go_at_call 70; first | (refine Calls.mono (KH _).out ?_; clear KH; rintro e w1 ⟨rfl, rfl⟩) | (refine Calls.mono (KM _).out ?_; clear KM; rintro e w2 ⟨rfl, rfl⟩) | (refine Calls.mono (KC _).out ?_; clear KC; rintro e w3 ⟨rfl, rfl⟩))
          refine bodyPost_ret (v := .tuple #[.int .i64 A, .int .i64 B, .int .i64 C, .bool false]) (by simp [results, Tryz.results67, go_sem, Q]) rfl ?_
          first | exact ⟨_, _, _, rfl, rfl⟩ | exact ⟨⟨_, _, _, rfl⟩, rfl⟩
      · have qy : ((y.toNat : Int) != 47) = true := by rw [bne_iff_ne]; intro q; exact ey (UInt8.toNat_inj.1 (by rw [show (47 : UInt8).toNat = 47 from rfl]; omega))
        clear lx ly ex ey h
        go_enter Tryz.func67, Tryz.ntmps67
        go_wp2
        refine bodyPost_ret (v := .tuple #[.int .i64 0, .int .i64 0, .int .i64 0, .bool false]) (by simp [results, Tryz.results67, go_sem]) rfl ?_
        first | exact ⟨_, _, _, rfl, rfl⟩ | exact ⟨⟨_, _, _, rfl⟩, rfl⟩
    · have qx : ((x.toNat : Int) != 47) = true := by rw [bne_iff_ne]; intro q; exact ex (UInt8.toNat_inj.1 (by rw [show (47 : UInt8).toNat = 47 from rfl]; omega))
      clear lx ly ex h
      go_enter Tryz.func67, Tryz.ntmps67
      go_wp2
      refine bodyPost_ret (v := .tuple #[.int .i64 0, .int .i64 0, .int .i64 0, .bool false]) (by simp [results, Tryz.results67, go_sem]) rfl ?_
      first | exact ⟨_, _, _, rfl, rfl⟩ | exact ⟨⟨_, _, _, rfl⟩, rfl⟩
  · have c8 : ((s.size : Int) != 8) = true := bne_iff_ne.2 (by omega)
    clear h h8
    go_enter Tryz.func67, Tryz.ntmps67
    go_wp2
    refine bodyPost_ret (v := .tuple #[.int .i64 0, .int .i64 0, .int .i64 0, .bool false]) (by simp [results, Tryz.results67, go_sem]) rfl ?_
    first | exact ⟨_, _, _, rfl, rfl⟩ | exact ⟨⟨_, _, _, rfl⟩, rfl⟩
set_option maxHeartbeats 4000000 in
theorem Rnumbered_any (s : ByteArray) (w : World) : Calls Tryz.prog 106 #[.string s] w fun e w' => e = .returned (.int .i64 ((numM (bts s) : Nat) : Int)) ∧ Below w.heap.size w w' := by
  have K := fun (m : Nat) h1 h2 W => Lib.hid (Rmonth_any m W h1 h2)
  have B0 := Lib.hid (Below.refl w.heap.size w)
  have HL := Lib.hid (fun (m : Nat) (h1 : 1 ≤ m) (h2 : m ≤ 12) => monN_len m h1 h2)
  go_enter Tryz.func106, Tryz.ntmps106
  go_wp2
  go_loopw [3] (fun v wr => ∃ m : Nat, v = .int .i64 (m : Int) ∧ 1 ≤ m ∧ m ≤ 13 ∧ Hid (numM (bts s) = numFrom (bts s) (13 - m) m) ∧ Hid (Below w.heap.size w wr)) (fun v _ => 13 - (intOf v).toNat)
  case atStart => exact ⟨1, rfl, by omega, by omega, Lib.hid rfl, B0⟩
  case round =>
    obtain ⟨m, rfl, h1, h2, hV, hbl⟩ := hrel
    by_cases hlt : m ≤ 12
    · have KX := fun W => K m h1 hlt W
      have hlen := HL.out m h1 hlt
      have c1 : (m : Int) ≤ 12 := by omega
      have k1 : IntKind.i64.wrap ((m : Int) + 1) = (m : Int) + 1 := i64i' (by omega) (by omega)
      have k2 : wrap64 ((m : Int) + 1) = (m : Int) + 1 := w64 (by omega) (by omega)
      have HS := Lib.hid (show numFrom (bts s) (13 - m) m = if (monN m).take 3 = bts s then m else numFrom (bts s) (13 - (m + 1)) (m + 1) by rw [show 13 - m = (13 - (m + 1)) + 1 by omega, numFrom])
      by_cases hg : (monN m).take 3 = bts s
      · have HR := Lib.hid (show numM (bts s) = m by rw [hV.out, HS.out, if_pos hg])
        have HG := Lib.hid hg
        have HN := Lib.hid hlen
        clear hg h1 h2 hlt hlen HS
        go_wp2_with (go_at_call 63; refine Calls.mono (KX _).out ?_; rintro e w1 ⟨t, rfl, ht, hb⟩; have B1 := Lib.hid (Bl.step hbl.out hb); have s3 : (3 : Int) ≤ (t.size : Int) := (by have := HN.out; rw [← ht.out, bts_length] at this; omega); have s4 : ¬ (t.size : Int) < 3 := (by omega); have HQ : (t.extract 0 3).toList = s.toList := (by rw [toList_bts, toList_bts, bts_extract, ht.out]; simpa using HG.out); have e1 : ((t.extract 0 3).toList == s.toList) = true := (by rw [HQ]; simp); clear hb)
        go_ret
        exact ⟨by rw [HR.out]; rfl, B1.out⟩
      · have HR := Lib.hid (show numM (bts s) = numFrom (bts s) (13 - (m + 1)) (m + 1) by rw [hV.out, HS.out, if_neg hg])
        have HG := Lib.hid hg
        have HN := Lib.hid hlen
        have HM := Lib.hid (show 1 ≤ m + 1 ∧ m + 1 ≤ 13 by omega)
        clear hg h1 h2 hlt hlen HS
        go_wp2_with (go_at_call 63; refine Calls.mono (KX _).out ?_; rintro e w1 ⟨t, rfl, ht, hb⟩; have B1 := Lib.hid (Bl.step hbl.out hb); have s3 : (3 : Int) ≤ (t.size : Int) := (by have := HN.out; rw [← ht.out, bts_length] at this; omega); have s4 : ¬ (t.size : Int) < 3 := (by omega); have HQ : ¬ (t.extract 0 3).toList = s.toList := (by rw [toList_bts, toList_bts, bts_extract, ht.out]; simpa using HG.out); have e1 : ((t.extract 0 3).toList == s.toList) = false := (beq_eq_false_iff_ne.2 HQ); clear hb)
        go_roundw
        case rel => exact ⟨m + 1, by first | rfl | go_num, HM.out.1, HM.out.2, HR, B1⟩
        case measure => simp [intOf]; omega
    · obtain rfl : m = 13 := by omega
      have HR := Lib.hid (show numM (bts s) = 0 by rw [hV.out]; rfl)
      go_wp2
      go_ret
      exact ⟨by rw [HR.out]; rfl, hbl.out⟩
end Go.Proofs.YtmjifmlibgpjiaaGreatDoor
namespace Go.Proofs.YtmjifmlibgpjiaaGreatDoor
open Go.RowKit Go.Shelf Tx
set_option linter.unusedVariables false
set_option maxRecDepth 100000

namespace Tx
open Classical in
/-- The day of a text with the name of a month behind k bytes. -/
noncomputable def namK (k : Nat) (l : List UInt8) : Option Nat := if l[k]? = some 32 ∧ l[k + 4]? = some 32 then calOf (digV (l.drop (k + 5))) ((numM ((l.drop (k + 1)).take 3) : Nat) : Int) (plainV (l.take k) 2) else none
noncomputable def namV (l : List UInt8) : Option Nat := if l.length = 10 then namK 1 l else if l.length = 11 then namK 2 l else none
end Tx
set_option maxHeartbeats 8000000 in
theorem Rnamed_1 (s : ByteArray) (w : World) (h8 : s.size = 10) : Calls Tryz.prog 71 #[.string s] w (GivesA w #[.int .i64 (dayV (namK 1 (bts s))).1, .int .i64 (dayV (namK 1 (bts s))).2]) := by
  have d8 : (s.size : Int) = 10 := by omega
  obtain ⟨x, hx⟩ : ∃ x : UInt8, s[1]'(by omega) = x := ⟨_, rfl⟩
  have lx : (bts s)[1]? = some x := by rw [bts_get s (by omega), hx]
  obtain ⟨y, hy⟩ : ∃ x : UInt8, s[5]'(by omega) = x := ⟨_, rfl⟩
  have ly : (bts s)[5]? = some y := by rw [bts_get s (by omega), hy]
  by_cases ex : x = 32
  · have qx : ((x.toNat : Int) != 32) = false := by rw [ex]; rfl
    by_cases ey : y = 32
    · have qy : ((y.toNat : Int) != 32) = false := by rw [ey]; rfl
      have KD := fun W => Lib.hid (show Calls Tryz.prog 70 #[.string (s.extract 6 10)] W (GivesI W (digV ((bts s).drop 6))) from by rw [← ext_dropN s 6 10 h8]; exact rdig _ W (Nat.le_trans (ext_size s 6 10) (by decide)))
      have KM := fun W => Lib.hid (show Calls Tryz.prog 106 #[.string (s.extract 2 5)] W (fun e w' => e = .returned (.int .i64 ((numM (((bts s).drop 2).take 3) : Nat) : Int)) ∧ Below W.heap.size W w') from by rw [← ext_mid s 2 5 3 rfl]; exact Rnumbered_any _ W)
      have KP := fun W => Lib.hid (show Calls Tryz.prog 66 #[.string (s.extract 0 1), .int .i64 2] W (GivesI W (plainV ((bts s).take 1) 2)) from by rw [← ext_take]; exact Rplain_any _ 2 W (by decide))
      have HU := Lib.hid (show namK 1 (bts s) = calOf (digV ((bts s).drop 6)) ((numM (((bts s).drop 2).take 3) : Nat) : Int) (plainV ((bts s).take 1) 2) by unfold namK; rw [if_pos ⟨by rw [lx, ex], by rw [ly, ey]⟩])
      obtain ⟨A, eA⟩ : ∃ A, A = digV ((bts s).drop 6) := ⟨_, rfl⟩
      obtain ⟨B, eB⟩ : ∃ A : Int, A = ((numM (((bts s).drop 2).take 3) : Nat) : Int) := ⟨_, rfl⟩
      obtain ⟨C, eC⟩ : ∃ A, A = plainV ((bts s).take 1) 2 := ⟨_, rfl⟩
      rw [← eA] at KD HU
      rw [← eB] at KM HU
      rw [← eC] at KP HU
      have KR := fun W => Lib.hid (Rparsed_any A B C W)
      rw [HU.out]
      obtain ⟨r, hr⟩ : ∃ r, r = dayV (calOf A B C) := ⟨_, rfl⟩
      rw [← hr] at KR ⊢
      obtain ⟨r1, r2⟩ := r
      clear HU eA eB eC lx ly hr ex ey
      go_enter Tryz.func71, Tryz.ntmps71
      go_wp2
      obtain ⟨W0, hW0⟩ : ∃ W0, W0 = w.alloc (.cells #[.int .i64 0, .int .i64 0] 29) := ⟨_, rfl⟩
      have bF := Lib.hid (show BoxC W0 w.heap.size 29 #[.int .i64 0, .int .i64 0] by rw [hW0]; exact BoxC.new _ _ _)
      have HB0 := Lib.hid (show Below w.heap.size w W0 by rw [hW0]; exact Bl.alloc (Below.refl _ w) _)
      rw [← hW0]
      clear hW0
      go_region_with (first
        | (go_at_call 70; refine Calls.mono (KD _).out ?_; rintro e w1 ⟨rfl, hv1⟩; subst hv1)
        | (go_at_call 66; refine Calls.mono (KP _).out ?_; rintro e w2 ⟨rfl, hv2⟩; subst hv2)
        | (go_at_call 106; refine Calls.mono (KM _).out ?_; rintro e w3 ⟨rfl, hb⟩; have B3 := Lib.hid (Bl.step (show Below w.heap.size w _ from by repeat (first | exact HB0.out | refine Bl.drew ?_)) hb); have X3 := Lib.hid ((show BoxC _ w.heap.size 29 #[.int .i64 0, .int .i64 0] from by repeat (first | exact bF.out | refine BoxC.drew ?_)).stayC hb); clear hb)
        | (go_at_call 68; refine Calls.mono (KR _).out ?_; rintro e w4 ⟨rfl, hb⟩; have B4 := Lib.hid (Bl.step (show Below w.heap.size w _ from by repeat (first | exact B3.out | refine Bl.drew ?_)) hb); have X4 := Lib.hid ((show BoxC _ w.heap.size 29 #[.int .i64 0, .int .i64 0] from by repeat (first | exact X3.out | refine BoxC.drew ?_)).stayC hb); have y0 := X4.out.cell (i := 0) rfl; have y1 := X4.out.cell (i := 1) rfl; have z0 := X4.out.frozen 0; have z1 := X4.out.frozen 1; have s1 := X4.out.lt; clear hb))
      all_goals
        go_wp2
        have XF := ((X4.out.set 0 (.int .i64 r1)).set 1 (.int .i64 r2))
        have e0 := XF.cell (i := 0) rfl
        have e1 := XF.cell (i := 1) rfl
        refine bodyPost_ret (v := .agg #[.int .i64 r1, .int .i64 r2]) (by simp [results, Tryz.results71, go_sem, e0, e1]) rfl ?_
        exact ⟨rfl, by repeat (first | exact B4.out | refine Bl.drew ?_ | refine Below.setCell ?_ (by simp) _)⟩
    · have qy : ((y.toNat : Int) != 32) = true := by rw [bne_iff_ne]; intro q; exact ey (UInt8.toNat_inj.1 (by rw [show (32 : UInt8).toNat = 32 from rfl]; omega))
      have HR := Lib.hid (show namK 1 (bts s) = none by unfold namK; rw [if_neg]; rintro ⟨_, q⟩; rw [ly] at q; exact ey (Option.some.inj q))
      clear lx ly ex ey
      go_enter Tryz.func71, Tryz.ntmps71
      go_wp2
      refine bodyPost_ret (v := .agg #[.int .i64 0, .int .i64 2]) (by simp [results, Tryz.results71, go_sem]) rfl ?_
      exact ⟨by rw [HR.out]; rfl, by repeat (first | exact Below.refl _ _ | refine Bl.alloc ?_ _)⟩
  · have qx : ((x.toNat : Int) != 32) = true := by rw [bne_iff_ne]; intro q; exact ex (UInt8.toNat_inj.1 (by rw [show (32 : UInt8).toNat = 32 from rfl]; omega))
    have HR := Lib.hid (show namK 1 (bts s) = none by unfold namK; rw [if_neg]; rintro ⟨q, _⟩; rw [lx] at q; exact ex (Option.some.inj q))
    clear lx ly ex
    go_enter Tryz.func71, Tryz.ntmps71
    go_wp2
    refine bodyPost_ret (v := .agg #[.int .i64 0, .int .i64 2]) (by simp [results, Tryz.results71, go_sem]) rfl ?_
    exact ⟨by rw [HR.out]; rfl, by repeat (first | exact Below.refl _ _ | refine Bl.alloc ?_ _)⟩
set_option maxHeartbeats 8000000 in
theorem Rnamed_2 (s : ByteArray) (w : World) (h8 : s.size = 11) : Calls Tryz.prog 71 #[.string s] w (GivesA w #[.int .i64 (dayV (namK 2 (bts s))).1, .int .i64 (dayV (namK 2 (bts s))).2]) := by
  have d8 : (s.size : Int) = 11 := by omega
  obtain ⟨x, hx⟩ : ∃ x : UInt8, s[2]'(by omega) = x := ⟨_, rfl⟩
  have lx : (bts s)[2]? = some x := by rw [bts_get s (by omega), hx]
  obtain ⟨y, hy⟩ : ∃ x : UInt8, s[6]'(by omega) = x := ⟨_, rfl⟩
  have ly : (bts s)[6]? = some y := by rw [bts_get s (by omega), hy]
  by_cases ex : x = 32
  · have qx : ((x.toNat : Int) != 32) = false := by rw [ex]; rfl
    by_cases ey : y = 32
    · have qy : ((y.toNat : Int) != 32) = false := by rw [ey]; rfl
      have KD := fun W => Lib.hid (show Calls Tryz.prog 70 #[.string (s.extract 7 11)] W (GivesI W (digV ((bts s).drop 7))) from by rw [← ext_dropN s 7 11 h8]; exact rdig _ W (Nat.le_trans (ext_size s 7 11) (by decide)))
      have KM := fun W => Lib.hid (show Calls Tryz.prog 106 #[.string (s.extract 3 6)] W (fun e w' => e = .returned (.int .i64 ((numM (((bts s).drop 3).take 3) : Nat) : Int)) ∧ Below W.heap.size W w') from by rw [← ext_mid s 3 6 3 rfl]; exact Rnumbered_any _ W)
      have KP := fun W => Lib.hid (show Calls Tryz.prog 66 #[.string (s.extract 0 2), .int .i64 2] W (GivesI W (plainV ((bts s).take 2) 2)) from by rw [← ext_take]; exact Rplain_any _ 2 W (by decide))
      have HU := Lib.hid (show namK 2 (bts s) = calOf (digV ((bts s).drop 7)) ((numM (((bts s).drop 3).take 3) : Nat) : Int) (plainV ((bts s).take 2) 2) by unfold namK; rw [if_pos ⟨by rw [lx, ex], by rw [ly, ey]⟩])
      obtain ⟨A, eA⟩ : ∃ A, A = digV ((bts s).drop 7) := ⟨_, rfl⟩
      obtain ⟨B, eB⟩ : ∃ A : Int, A = ((numM (((bts s).drop 3).take 3) : Nat) : Int) := ⟨_, rfl⟩
      obtain ⟨C, eC⟩ : ∃ A, A = plainV ((bts s).take 2) 2 := ⟨_, rfl⟩
      rw [← eA] at KD HU
      rw [← eB] at KM HU
      rw [← eC] at KP HU
      have KR := fun W => Lib.hid (Rparsed_any A B C W)
      rw [HU.out]
      obtain ⟨r, hr⟩ : ∃ r, r = dayV (calOf A B C) := ⟨_, rfl⟩
      rw [← hr] at KR ⊢
      obtain ⟨r1, r2⟩ := r
      clear HU eA eB eC lx ly hr ex ey
      go_enter Tryz.func71, Tryz.ntmps71
      go_wp2
      obtain ⟨W0, hW0⟩ : ∃ W0, W0 = w.alloc (.cells #[.int .i64 0, .int .i64 0] 29) := ⟨_, rfl⟩
      have bF := Lib.hid (show BoxC W0 w.heap.size 29 #[.int .i64 0, .int .i64 0] by rw [hW0]; exact BoxC.new _ _ _)
      have HB0 := Lib.hid (show Below w.heap.size w W0 by rw [hW0]; exact Bl.alloc (Below.refl _ w) _)
      rw [← hW0]
      clear hW0
      go_region_with (first
        | (go_at_call 70; refine Calls.mono (KD _).out ?_; rintro e w1 ⟨rfl, hv1⟩; subst hv1)
        | (go_at_call 66; refine Calls.mono (KP _).out ?_; rintro e w2 ⟨rfl, hv2⟩; subst hv2)
        | (go_at_call 106; refine Calls.mono (KM _).out ?_; rintro e w3 ⟨rfl, hb⟩; have B3 := Lib.hid (Bl.step (show Below w.heap.size w _ from by repeat (first | exact HB0.out | refine Bl.drew ?_)) hb); have X3 := Lib.hid ((show BoxC _ w.heap.size 29 #[.int .i64 0, .int .i64 0] from by repeat (first | exact bF.out | refine BoxC.drew ?_)).stayC hb); clear hb)
        | (go_at_call 68; refine Calls.mono (KR _).out ?_; rintro e w4 ⟨rfl, hb⟩; have B4 := Lib.hid (Bl.step (show Below w.heap.size w _ from by repeat (first | exact B3.out | refine Bl.drew ?_)) hb); have X4 := Lib.hid ((show BoxC _ w.heap.size 29 #[.int .i64 0, .int .i64 0] from by repeat (first | exact X3.out | refine BoxC.drew ?_)).stayC hb); have y0 := X4.out.cell (i := 0) rfl; have y1 := X4.out.cell (i := 1) rfl; have z0 := X4.out.frozen 0; have z1 := X4.out.frozen 1; have s1 := X4.out.lt; clear hb))
      all_goals
        go_wp2
        have XF := ((X4.out.set 0 (.int .i64 r1)).set 1 (.int .i64 r2))
        have e0 := XF.cell (i := 0) rfl
        have e1 := XF.cell (i := 1) rfl
        refine bodyPost_ret (v := .agg #[.int .i64 r1, .int .i64 r2]) (by simp [results, Tryz.results71, go_sem, e0, e1]) rfl ?_
        exact ⟨rfl, by repeat (first | exact B4.out | refine Bl.drew ?_ | refine Below.setCell ?_ (by simp) _)⟩
    · have qy : ((y.toNat : Int) != 32) = true := by rw [bne_iff_ne]; intro q; exact ey (UInt8.toNat_inj.1 (by rw [show (32 : UInt8).toNat = 32 from rfl]; omega))
      have HR := Lib.hid (show namK 2 (bts s) = none by unfold namK; rw [if_neg]; rintro ⟨_, q⟩; rw [ly] at q; exact ey (Option.some.inj q))
      clear lx ly ex ey
      go_enter Tryz.func71, Tryz.ntmps71
      go_wp2
      refine bodyPost_ret (v := .agg #[.int .i64 0, .int .i64 2]) (by simp [results, Tryz.results71, go_sem]) rfl ?_
      exact ⟨by rw [HR.out]; rfl, by repeat (first | exact Below.refl _ _ | refine Bl.alloc ?_ _)⟩
  · have qx : ((x.toNat : Int) != 32) = true := by rw [bne_iff_ne]; intro q; exact ex (UInt8.toNat_inj.1 (by rw [show (32 : UInt8).toNat = 32 from rfl]; omega))
    have HR := Lib.hid (show namK 2 (bts s) = none by unfold namK; rw [if_neg]; rintro ⟨q, _⟩; rw [lx] at q; exact ex (Option.some.inj q))
    clear lx ly ex
    go_enter Tryz.func71, Tryz.ntmps71
    go_wp2
    refine bodyPost_ret (v := .agg #[.int .i64 0, .int .i64 2]) (by simp [results, Tryz.results71, go_sem]) rfl ?_
    exact ⟨by rw [HR.out]; rfl, by repeat (first | exact Below.refl _ _ | refine Bl.alloc ?_ _)⟩
set_option maxHeartbeats 2000000 in
theorem Rnamed_any (s : ByteArray) (w : World) (hs : s.size ≤ 1000000) : Calls Tryz.prog 71 #[.string s] w (GivesA w #[.int .i64 (dayV (namV (bts s))).1, .int .i64 (dayV (namV (bts s))).2]) := by
  have hl := bts_length s
  by_cases h10 : s.size = 10
  · rw [show namV (bts s) = namK 1 (bts s) by unfold namV; rw [if_pos (by omega)]]
    exact Rnamed_1 s w h10
  · by_cases h11 : s.size = 11
    · rw [show namV (bts s) = namK 2 (bts s) by unfold namV; rw [if_neg (by omega), if_pos (by omega)]]
      exact Rnamed_2 s w h11
    · have HR := Lib.hid (show namV (bts s) = none by unfold namV; rw [if_neg (by omega), if_neg (by omega)])
      have c1 : ((s.size : Int) == 11) = false := beq_eq_false_iff_ne.2 (by omega)
      have c2 : ((s.size : Int) != 10) = true := bne_iff_ne.2 (by omega)
      clear hl h10 h11 hs
      go_enter Tryz.func71, Tryz.ntmps71
      go_wp2
      refine bodyPost_ret (v := .agg #[.int .i64 0, .int .i64 2]) (by simp [results, Tryz.results71, go_sem]) rfl ?_
      exact ⟨by rw [HR.out]; rfl, by repeat (first | exact Below.refl _ _ | refine Bl.alloc ?_ _)⟩
end Go.Proofs.YtmjifmlibgpjiaaGreatDoor
