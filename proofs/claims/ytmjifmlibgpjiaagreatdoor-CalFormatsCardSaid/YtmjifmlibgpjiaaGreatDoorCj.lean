/- The reference's functions on days and weeks. -/
import Derived.Test.YtmjifmlibgpjiaaGreatDoorCi
namespace Go.Proofs.YtmjifmlibgpjiaaGreatDoor
open Go.RowKit Tx
set_option linter.unusedVariables false
set_option maxRecDepth 100000

/-- What a function gives: a struct, and only new memory. -/
def GivesA (w : World) (vs : Array Value) (e : Ending) (w' : World) : Prop := e = .returned (.agg vs) ∧ Below w.heap.size w w'
set_option maxHeartbeats 800000 in
theorem Rfirst_any (p : Nat) (w : World) (hp : p ≤ 20000) : Calls Tryz.prog 57 #[.int .i64 ((p : Int) + 1)] w fun e w' => e = .returned (.int .i64 (mon p : Int)) ∧ w = w' := by
  have KB := fun W => Lib.hid (Rbefore_any p W hp)
  have hbl := bef_le366 p
  obtain ⟨f, hf⟩ : ∃ f, f = bef p := ⟨_, rfl⟩
  have hmon : mon p = f + 3 - (f + 3) % 7 := by rw [hf]; rfl
  obtain ⟨g, hg⟩ : ∃ g, g = f + 3 := ⟨_, rfl⟩
  rw [← hf] at KB hbl
  have w1 : IntKind.i64.wrap ((f : Int) + 3) = (g : Int) := by rw [show (f : Int) + 3 = (g : Int) by omega]; exact IntWalk.i64_in _ (by omega)
  have HR := Lib.hid (show wrap64 ((g : Int) - (g : Int) % 7) = (mon p : Int) by rw [w64 (by omega) (by omega)]; omega)
  clear hp hbl hf hmon hg
  go_enter Tryz.func57, Tryz.ntmps57
  go_wp2_with (first
    | (go_at_call 50; refine Calls.mono (KB _).out ?_; rintro e W1 ⟨rfl, rfl⟩))
  go_ret
  refine ⟨ret_i ?_, rfl⟩
  first | exact HR.out | (simp [*]; exact HR.out) | (rw [← HR.out]; simp [*])
theorem RIn_ok (n : Nat) (w : World) (hn : n ≤ 3652058) : Calls Tryz.prog 22 #[.int .i64 (n : Int)] w fun e w' => e = .returned (.bool true) ∧ w = w' := by
  have := RIn_any (n : Int) w
  rwa [inR_true (by omega) (by omega)] at this
theorem RIn_bad (n : Int) (w : World) (h : ¬ (0 ≤ n ∧ n ≤ 3652058)) : Calls Tryz.prog 22 #[.int .i64 n] w fun e w' => e = .returned (.bool false) ∧ w = w' := by
  have := RIn_any n w
  rwa [inR_false h] at this
set_option maxHeartbeats 1600000 in
theorem RDayOf_ok (n y m k : Nat) (w : World) (hd : IsDate n y m k) (h9 : y ≤ 9999) : Calls Tryz.prog 16 #[.int .i64 (y : Int), .int .i64 (m : Int), .int .i64 (k : Int)] w (GivesA w #[.int .i64 (n : Int), .int .i64 0]) := by
  obtain ⟨p, rfl⟩ : ∃ p, y = p + 1 := ⟨y - 1, by have := hd.y1; omega⟩
  have KY := fun W => Lib.hid (RinYears_any ((p + 1 : Nat) : Int) W)
  rw [inR_true (by omega) (by omega)] at KY
  have KM := fun W => Lib.hid (RinMonths_any (m : Int) W)
  rw [inR_true (by have := hd.m1; omega) (by have := hd.m12; omega)] at KM
  have KD := fun (i : Nat) W h1 h2 => Lib.hid (RDaysIn_any (p + 1) i W h1 h2)
  have KDm := fun W => KD m W hd.m1 hd.m12
  have KB := fun W => Lib.hid (Rbefore_any p W (by omega))
  have hdm := dim_pos (p + 1) m
  have hk := hd.kd
  have hk1 := hd.k1
  have hm1 := hd.m1
  have hm12 := hd.m12
  have hcl := cum_le (p + 1) (show m ≤ 13 by omega)
  have hlp := lp_le (p + 1)
  have hbl := bef_le366 p
  have he := hd.eq
  rw [show p + 1 - 1 = p by omega] at he
  obtain ⟨f, hf⟩ : ∃ f, f = bef p := ⟨_, rfl⟩
  rw [← hf] at KB hbl he
  obtain ⟨g, hg⟩ : ∃ g, g = f + (k - 1) := ⟨_, rfl⟩
  have hg1 : g ≤ 366 * p + 31 := by clear KY KM KD KDm KB he hcl; omega
  have HG := Lib.hid (show g ≤ 4000000 from Nat.le_trans hg1 (by clear hg1 hg hbl hk he hcl KY KM KD KDm KB; omega))
  have w1 : IntKind.i64.wrap ((f : Int) + (k : Int)) = (f : Int) + (k : Int) := IntWalk.i64_in _ (by omega)
  have w2 : IntKind.i64.wrap ((f : Int) + (k : Int) - 1) = (g : Int) := by rw [show (f : Int) + (k : Int) - 1 = (g : Int) by omega]; exact IntWalk.i64_in _ (by omega)
  have w2' : wrap64 (wrap64 ((f : Int) + (k : Int)) - 1) = (g : Int) := by rw [w64 (x := (f : Int) + (k : Int)) (by omega) (by omega), w64 (by omega) (by omega)]; omega
  have hkl : ¬ (k : Int) < 1 := by omega
  have hkg : ¬ (dim (p + 1) m : Int) < (k : Int) := by omega
  have HE := Lib.hid (show n = g + cum (p + 1) m by omega)
  have HM := Lib.hid (show 1 ≤ m ∧ m ≤ 12 from ⟨hm1, hm12⟩)
  rw [show ((p + 1 : Nat) : Int) = (p : Int) + 1 by omega] at *
  clear hd h9 hdm hk hk1 hcl hlp hbl he hf hg hg1 hm1 hm12
  go_enter Tryz.func16, Tryz.ntmps16
  go_wp2_with (first
    | (go_at_call 48; refine Calls.mono (KY _).out ?_; rintro e W1 ⟨rfl, rfl⟩)
    | (go_at_call 49; refine Calls.mono (KM _).out ?_; rintro e W2 ⟨rfl, rfl⟩)
    | (go_at_call 21; refine Calls.mono (KDm _).out ?_; rintro e W3 ⟨rfl, rfl⟩)
    | (go_at_call 50; refine Calls.mono (KB _).out ?_; rintro e W4 ⟨rfl, rfl⟩))
  go_loopw [7, 8] (fun v7 v8 wr => ∃ i : Nat, v7 = .int .i64 ((g + cum (p + 1) i : Nat) : Int) ∧ v8 = .int .i64 (i : Int) ∧ 1 ≤ i ∧ i ≤ m ∧ wr = w.alloc (.cells #[.int .i64 0, .int .i64 0] 29)) (fun _ v8 _ => (m : Nat) - (intOf v8).toNat)
  case atStart => exact ⟨1, by simp [cum1], rfl, Nat.le_refl _, HM.out.1, rfl⟩
  case round =>
    obtain ⟨i, rfl, rfl, hi1, him, rfl⟩ := hrel
    have hmm := HM.out
    have hcl := cum_le (p + 1) (show i ≤ 13 by omega)
    have hlp := lp_le (p + 1)
    have hgg := HG.out
    by_cases hlt : i < m
    · have KDi := fun W => KD i W hi1 (by omega)
      have HC := Lib.hid (cum_succ (p + 1) i hi1 (by omega))
      have hdd := dim_pos (p + 1) i
      obtain ⟨s, hs⟩ : ∃ s, s = g + cum (p + 1) i := ⟨_, rfl⟩
      rw [← hs]
      have w3 : IntKind.i64.wrap ((s : Int) + (dim (p + 1) i : Int)) = ((g + cum (p + 1) (i + 1) : Nat) : Int) := by rw [show (s : Int) + (dim (p + 1) i : Int) = ((g + cum (p + 1) (i + 1) : Nat) : Int) by rw [HC.out]; omega]; exact IntWalk.i64_in _ (by rw [HC.out]; omega)
      have w3' : wrap64 ((s : Int) + (dim (p + 1) i : Int)) = ((g + cum (p + 1) (i + 1) : Nat) : Int) := by rw [w64 (by omega) (by omega)]; rw [HC.out]; omega
      clear hcl hlp hgg hdd hs
      go_wp2_with (first
        | (go_at_call 21; refine Calls.mono (KDi _).out ?_; rintro e w5 ⟨rfl, rfl⟩))
      go_roundw
      case rel => exact ⟨i + 1, by first | rfl | go_num | (simp [*]), by go_num, by omega, by omega, by first | trivial | rfl⟩
      case measure => simp [intOf]; omega
    · obtain rfl : i = m := by omega
      have HN := Lib.hid (show ((g + cum (p + 1) i : Nat) : Int) = (n : Int) by rw [HE.out])
      obtain ⟨s, hs⟩ : ∃ s, s = g + cum (p + 1) i := ⟨_, rfl⟩
      rw [← hs] at HN ⊢
      clear hcl hlp hgg hs
      go_wp2
      refine bodyPost_ret (v := .agg #[.int .i64 (s : Int), .int .i64 0]) (by simp [results, Tryz.results16, go_sem]) rfl ?_
      exact ⟨by rw [HN.out], Bl.alloc (Below.refl _ w) _⟩
set_option maxHeartbeats 1600000 in
theorem RDayOf_bad (y m k : Int) (w : World) (h : ∀ n, ¬ IsCal n y m k) : Calls Tryz.prog 16 #[.int .i64 y, .int .i64 m, .int .i64 k] w (GivesA w #[.int .i64 0, .int .i64 1]) := by
  have KY := fun W => Lib.hid (RinYears_any y W)
  have KM := fun W => Lib.hid (RinMonths_any m W)
  by_cases hy : 1 ≤ y ∧ y ≤ 9999
  · rw [inR_true hy.1 hy.2] at KY
    by_cases hm : 1 ≤ m ∧ m ≤ 12
    · rw [inR_true hm.1 hm.2] at KM
      by_cases hk : k < 1
      · clear h hy hm
        go_enter Tryz.func16, Tryz.ntmps16
        go_wp2_with (first
          | (go_at_call 48; refine Calls.mono (KY _).out ?_; rintro e W1 ⟨rfl, rfl⟩)
          | (go_at_call 49; refine Calls.mono (KM _).out ?_; rintro e W2 ⟨rfl, rfl⟩))
        refine bodyPost_ret (v := .agg #[.int .i64 0, .int .i64 1]) (by simp [results, Tryz.results16, go_sem]) rfl ?_
        exact ⟨rfl, Bl.alloc (Below.refl _ w) _⟩
      · obtain ⟨p, rfl⟩ : ∃ p : Nat, y = (p : Int) + 1 := ⟨(y - 1).toNat, by omega⟩
        obtain ⟨m, rfl⟩ : ∃ m' : Nat, m = (m' : Int) := ⟨m.toNat, by omega⟩
        obtain ⟨k, rfl⟩ : ∃ k' : Nat, k = (k' : Int) := ⟨k.toNat, by omega⟩
        have hkd : (dim (p + 1) m : Int) < (k : Int) := by
          rcases Nat.lt_or_ge (dim (p + 1) m) k with q | q
          · omega
          · exact absurd ⟨p + 1, m, k, by omega, rfl, rfl, ⟨by omega, by omega, by omega, by omega, q, rfl⟩, by omega⟩ (h _)
        have KD := fun W => Lib.hid (RDaysIn_any (p + 1) m W (by omega) (by omega))
        rw [show ((p + 1 : Nat) : Int) = (p : Int) + 1 by omega] at KD
        clear h hy hm
        go_enter Tryz.func16, Tryz.ntmps16
        go_wp2_with (first
          | (go_at_call 48; refine Calls.mono (KY _).out ?_; rintro e W1 ⟨rfl, rfl⟩)
          | (go_at_call 49; refine Calls.mono (KM _).out ?_; rintro e W2 ⟨rfl, rfl⟩)
          | (go_at_call 21; refine Calls.mono (KD _).out ?_; rintro e W3 ⟨rfl, rfl⟩))
        refine bodyPost_ret (v := .agg #[.int .i64 0, .int .i64 1]) (by simp [results, Tryz.results16, go_sem]) rfl ?_
        exact ⟨rfl, Bl.alloc (Below.refl _ w) _⟩
    · rw [inR_false hm] at KM
      clear h hy hm
      go_enter Tryz.func16, Tryz.ntmps16
      go_wp2_with (first
        | (go_at_call 48; refine Calls.mono (KY _).out ?_; rintro e W1 ⟨rfl, rfl⟩)
        | (go_at_call 49; refine Calls.mono (KM _).out ?_; rintro e W2 ⟨rfl, rfl⟩))
      refine bodyPost_ret (v := .agg #[.int .i64 0, .int .i64 1]) (by simp [results, Tryz.results16, go_sem]) rfl ?_
      exact ⟨rfl, Bl.alloc (Below.refl _ w) _⟩
  · rw [inR_false hy] at KY
    clear h hy KM
    go_enter Tryz.func16, Tryz.ntmps16
    go_wp2_with (first
      | (go_at_call 48; refine Calls.mono (KY _).out ?_; rintro e W1 ⟨rfl, rfl⟩))
    refine bodyPost_ret (v := .agg #[.int .i64 0, .int .i64 1]) (by simp [results, Tryz.results16, go_sem]) rfl ?_
    exact ⟨rfl, Bl.alloc (Below.refl _ w) _⟩
set_option maxHeartbeats 1600000 in
theorem RDateOf_ok (n y m k : Nat) (w : World) (hd : IsDate n y m k) (h9 : y ≤ 9999) : Calls Tryz.prog 18 #[.int .i64 (n : Int)] w (GivesA w #[.int .i64 (y : Int), .int .i64 (m : Int), .int .i64 (k : Int), .int .i64 0]) := by
  have hn := isDate_max hd h9
  have KI := fun W => Lib.hid (RIn_ok n W hn)
  have hy := hd.isYear
  have KB := fun (q : Nat) W (h : q ≤ 20000) => Lib.hid (Rbefore_any q W h)
  have KD := fun (i : Nat) W h1 h2 => Lib.hid (RDaysIn_any y i W h1 h2)
  have HD := Lib.hid hd
  have HY := Lib.hid hy
  have HN := Lib.hid hn
  obtain ⟨q0, hq0⟩ : ∃ q0 : Nat, q0 = n / 366 := ⟨_, rfl⟩
  have w0 : (n : Int) / 366 = (q0 : Int) := by omega
  have w1 : IntKind.i64.wrap ((q0 : Int) + 1) = (q0 : Int) + 1 := IntWalk.i64_in _ (by omega)
  have w1a : wrap64 (q0 : Int) = (q0 : Int) := w64 (by omega) (by omega)
  have w1b : IntKind.i64.wrap (q0 : Int) = (q0 : Int) := IntWalk.i64_in _ (by omega)
  have w1' : wrap64 (wrap64 (q0 : Int) + 1) = (q0 : Int) + 1 := by rw [w64 (x := (q0 : Int)) (by omega) (by omega), w64 (by omega) (by omega)]
  have HQ := Lib.hid (show q0 + 1 ≤ y by have := hy.hi; have := bef_le366 y; omega)
  clear hd hy hn hq0
  go_enter Tryz.func18, Tryz.ntmps18
  go_wp2_with (first
    | (go_at_call 22; refine Calls.mono (KI _).out ?_; rintro e W1 ⟨rfl, rfl⟩))
  go_loopw [3] (fun v3 wr => ∃ i : Nat, v3 = .int .i64 (i : Int) ∧ 1 ≤ i ∧ i ≤ y ∧ wr = w.alloc (.cells #[.int .i64 0, .int .i64 0, .int .i64 0, .int .i64 0] 34)) (fun v3 _ => (y : Nat) - (intOf v3).toNat)
  case atStart => refine ⟨q0 + 1, ?_, by omega, HQ.out, rfl⟩; first | rfl | go_num
  case round =>
    obtain ⟨i, rfl, hi1, hiy, rfl⟩ := hrel
    have KBi := fun W => KB i W (by omega)
    have w3 : IntKind.i64.wrap ((i : Int) + 1) = (i : Int) + 1 := IntWalk.i64_in _ (by omega)
    by_cases hlt : i < y
    · have hle : (bef i : Int) ≤ (n : Int) := by have h1 := bef_mono (show i ≤ y - 1 by omega); have h2 := HY.out.lo; omega
      go_wp2_with (first
        | (go_at_call 50; refine Calls.mono (KBi _).out ?_; rintro e w5 ⟨rfl, rfl⟩))
      go_roundw
      case rel => exact ⟨i + 1, by go_num, by omega, by omega, by first | trivial | rfl⟩
      case measure => simp [intOf]; omega
    · obtain rfl : i = y := by omega
      have hle : ¬ (bef i : Int) ≤ (n : Int) := by have h2 := HY.out.hi; omega
      obtain ⟨p, rfl⟩ : ∃ p, i = p + 1 := ⟨i - 1, by omega⟩
      have KBp := fun W => KB p W (by omega)
      have hlo := HY.out.lo
      rw [show p + 1 - 1 = p by omega] at hlo
      have hnn := HN.out
      have he := HD.out.eq
      rw [show p + 1 - 1 = p by omega] at he
      have hk1 := HD.out.k1
      have HC := Lib.hid (show n = bef p + (cum (p + 1) m + (k - 1)) by omega)
      obtain ⟨f, hf⟩ : ∃ f, f = bef p := ⟨_, rfl⟩
      rw [← hf] at KBp hlo HC
      obtain ⟨r, hr⟩ : ∃ r, r = cum (p + 1) m + (k - 1) := ⟨_, rfl⟩
      have HR := Lib.hid hr
      have hrn : n = f + r := by have := HC.out; omega
      have w4 : IntKind.i64.wrap ((n : Int) - (f : Int)) = (r : Int) := by rw [show (n : Int) - (f : Int) = (r : Int) by omega]; exact IntWalk.i64_in _ (by omega)
      have w4' : wrap64 ((n : Int) - (f : Int)) = (r : Int) := by rw [w64 (by omega) (by omega)]; omega
      rw [show ((p + 1 : Nat) : Int) = (p : Int) + 1 by omega] at *
      have HRB := Lib.hid (show r ≤ 4000000 by omega)
      clear hlo hnn he hk1 hf hr hrn KB
      go_wp2_with (go_at_call 50; first
        | ((with_reducible refine Calls.mono (KBi _).out ?_); rintro e w5 ⟨rfl, rfl⟩)
        | ((with_reducible refine Calls.mono (KBp _).out ?_); rintro e w5 ⟨rfl, rfl⟩))
      go_loopw [4, 5] (fun v4 v5 wr => ∃ j s : Nat, v4 = .int .i64 (s : Int) ∧ v5 = .int .i64 (j : Int) ∧ 1 ≤ j ∧ j ≤ m ∧ s + cum (p + 1) j = r ∧ wr = w.alloc (.cells #[.int .i64 0, .int .i64 0, .int .i64 0, .int .i64 0] 34)) (fun _ v5 _ => (m : Nat) - (intOf v5).toNat)
      case atStart => exact ⟨1, r, rfl, rfl, Nat.le_refl _, HD.out.m1, by rw [cum1]; omega, rfl⟩
      case round =>
        obtain ⟨j, s, rfl, rfl, hj1, hjm, hs, rfl⟩ := hrel
        have hm12 := HD.out.m12
        have KDj := fun W => KD j W hj1 (by omega)
        have hrb := HRB.out
        have HC1 := Lib.hid (cum_succ (p + 1) j hj1 (by omega))
        have HSS := Lib.hid hs
        by_cases hltm : j < m
        · have hge : (dim (p + 1) j : Int) ≤ (s : Int) := by
            have h1 := HC1.out
            have h2 := cum_mono (p + 1) (show 1 ≤ j + 1 by omega) (show j + 1 ≤ m by omega) (by omega)
            have h3 := HR.out
            omega
          have w5 : IntKind.i64.wrap ((s : Int) - (dim (p + 1) j : Int)) = ((s - dim (p + 1) j : Nat) : Int) := by rw [show (s : Int) - (dim (p + 1) j : Int) = ((s - dim (p + 1) j : Nat) : Int) by omega]; exact IntWalk.i64_in _ (by omega)
          have w5' : wrap64 ((s : Int) - (dim (p + 1) j : Int)) = ((s - dim (p + 1) j : Nat) : Int) := by rw [w64 (by omega) (by omega)]; omega
          have HGE := Lib.hid hge
          clear hs hrb
          go_wp2_with (first
            | (go_at_call 21; refine Calls.mono (KDj _).out ?_; rintro e w6 ⟨rfl, rfl⟩))
          go_roundw
          case rel => exact ⟨j + 1, s - dim (p + 1) j, by first | rfl | go_num | (simp [*]), by go_num, by omega, by omega, by have h1 := HC1.out; have h2 := HSS.out; have h3 := HGE.out; omega, by first | trivial | rfl⟩
          case measure => simp [intOf]; omega
        · obtain rfl : j = m := by omega
          have hge : ¬ (dim (p + 1) j : Int) ≤ (s : Int) := by
            have h1 := HD.out.kd
            have h2 := HD.out.k1
            have h3 := HR.out
            omega
          have HK := Lib.hid (show (s : Int) + 1 = (k : Int) by have h3 := HR.out; have h2 := HD.out.k1; omega)
          have w6 : IntKind.i64.wrap ((s : Int) + 1) = (s : Int) + 1 := IntWalk.i64_in _ (by omega)
          clear hs hrb
          go_wp2_with (first
            | (go_at_call 21; refine Calls.mono (KDj _).out ?_; rintro e w6 ⟨rfl, rfl⟩))
          refine bodyPost_ret (v := .agg #[.int .i64 ((p : Int) + 1), .int .i64 (j : Int), .int .i64 ((s : Int) + 1), .int .i64 0]) (by simp [results, Tryz.results18, go_sem]) rfl ?_
          exact ⟨by rw [HK.out]; try rfl, Bl.alloc (Below.refl _ w) _⟩
set_option maxHeartbeats 800000 in
theorem RDateOf_bad (n : Int) (w : World) (h : ¬ (0 ≤ n ∧ n ≤ 3652058)) : Calls Tryz.prog 18 #[.int .i64 n] w (GivesA w #[.int .i64 0, .int .i64 0, .int .i64 0, .int .i64 1]) := by
  have KI := fun W => Lib.hid (RIn_bad n W h)
  clear h
  go_enter Tryz.func18, Tryz.ntmps18
  go_wp2_with (first
    | (go_at_call 22; refine Calls.mono (KI _).out ?_; rintro e W1 ⟨rfl, rfl⟩))
  refine bodyPost_ret (v := .agg #[.int .i64 0, .int .i64 0, .int .i64 0, .int .i64 1]) (by simp [results, Tryz.results18, go_sem]) rfl ?_
  exact ⟨rfl, Bl.alloc (Below.refl _ w) _⟩
end Go.Proofs.YtmjifmlibgpjiaaGreatDoor
