/- The other program's LastPos. -/
import Derived.Test.YtoilgjlbpimcpaaDoorZr
namespace Go.Proofs.YtoilgjlbpimcpaaDoor
open Go.RowKit Go.Shelf Tx
set_option linter.unusedVariables false
set_option maxRecDepth 100000

namespace Tx
def lastF (p l : List UInt8) (D : Int) : Int := firstIn p l (run D (-1) (D + 1 - 0).toNat)
theorem run_down (a : Int) (k : Nat) : run a (-1) (k + 1) = a :: run (a - 1) (-1) k := by
  unfold run
  rw [List.range_succ_eq_map, List.map_cons, List.map_map]
  have e : (List.range k).map ((fun (i : Nat) => a + -1 * (i : Int)) ∘ Nat.succ) = (List.range k).map (fun (i : Nat) => a - 1 + -1 * (i : Int)) := by
    apply List.map_congr_left
    intro i _
    show a + -1 * ((i + 1 : Nat) : Int) = a - 1 + -1 * (i : Int)
    omega
  rw [e]
  simp
theorem lastF_stop {p l : List UInt8} {D : Int} (h : D < 0) : lastF p l D = -1 := by
  unfold lastF
  rw [show (D + 1 - 0).toNat = 0 by omega]
  unfold firstIn run
  split <;> rfl
theorem lastF_nil {p l : List UInt8} {D : Int} (h : p = []) : lastF p l D = -1 := by unfold lastF firstIn; rw [if_pos h]
theorem lastF_step {p l : List UInt8} {i : Nat} (hp : p ≠ []) (h : i + p.length ≤ l.length) : lastF p l (i : Int) = if atB l p i then (i : Int) else lastF p l ((i : Int) - 1) := by
  unfold lastF firstIn
  rw [if_neg hp, if_neg hp, show ((i : Int) + 1 - 0).toNat = ((i : Int) - 1 + 1 - 0).toNat + 1 by omega, run_down, List.find?_cons, occ_at h]
  by_cases hb : atB l p i = true
  · rw [hb]; rfl
  · rw [Bool.not_eq_true] at hb
    rw [hb]
    rfl
end Tx
set_option maxHeartbeats 4000000 in
theorem RLastPos_any (p s : ByteArray) (n : Int) (w : World) (hsp : p.size ≤ maxLen) (hss : s.size ≤ maxLen) (hn : n ≤ 9223372036854775807) :
    Calls Tryd.prog 47 #[.string p, .string s, .int .i64 n] w (GivesM w (lastPosR (bts p) (bts s) n)) := by
  have KVp := fun (W : World) => Lib.hid (RValid_any p W hsp)
  have KVs := fun (W : World) => Lib.hid (RValid_any s W hss)
  have KMn := fun (W : World) => Lib.hid (Rwhole1_any n 1 W)
  cases hv0 : validL (bts p) with
  | false =>
    rw [hv0] at KVp
    have HR := Lib.hid (show lastPosR (bts p) (bts s) n = (0, 1) by unfold lastPosR guardN; simp only [hv0, Bool.and_false, Bool.false_and, Bool.true_and, Bool.and_true]; rfl)
    clear hv0
    go_enter Tryd.func47, Tryd.ntmps47
    go_wp2_with (first
      | (go_at_call 32; (with_reducible refine Calls.mono (KVp _).out ?_); rintro e w1 ⟨rfl, rfl⟩))
    refine bodyPost_ret (v := .agg #[.int .i64 0, .int .i64 1]) (by simp [results, Tryd.results47, go_sem]) rfl ?_
    exact givesM HR.out ((Below.refl _ w).alloc (Nat.le_refl _) _)
  | true =>
    rw [hv0] at KVp
    cases hv1 : validL (bts s) with
    | false =>
      rw [hv1] at KVs
      have HR := Lib.hid (show lastPosR (bts p) (bts s) n = (0, 1) by unfold lastPosR guardN; simp only [hv0, hv1, Bool.and_false, Bool.false_and, Bool.true_and, Bool.and_true]; rfl)
      clear hv0 hv1
      go_enter Tryd.func47, Tryd.ntmps47
      go_wp2_with (first
        | (go_at_call 32; (with_reducible refine Calls.mono (KVp _).out ?_); rintro e w1 ⟨rfl, rfl⟩)
        | (go_at_call 32; (with_reducible refine Calls.mono (KVs _).out ?_); rintro e w1 ⟨rfl, rfl⟩))
      refine bodyPost_ret (v := .agg #[.int .i64 0, .int .i64 1]) (by simp [results, Tryd.results47, go_sem]) rfl ?_
      exact givesM HR.out ((Below.refl _ w).alloc (Nat.le_refl _) _)
    | true =>
      rw [hv1] at KVs
      cases hv2 : (decide (n = -1) || decide (1 ≤ n)) with
      | false =>
        rw [hv2] at KMn
        have HR := Lib.hid (show lastPosR (bts p) (bts s) n = (0, 1) by unfold lastPosR guardN; simp only [hv0, hv1, hv2, Bool.and_false, Bool.false_and, Bool.true_and, Bool.and_true]; rfl)
        clear hv0 hv1 hv2
        go_enter Tryd.func47, Tryd.ntmps47
        go_wp2_with (first
          | (go_at_call 32; (with_reducible refine Calls.mono (KVp _).out ?_); rintro e w1 ⟨rfl, rfl⟩)
          | (go_at_call 32; (with_reducible refine Calls.mono (KVs _).out ?_); rintro e w1 ⟨rfl, rfl⟩)
          | (go_at_call 106; (with_reducible refine Calls.mono (KMn _).out ?_); rintro e w1 ⟨rfl, rfl⟩))
        refine bodyPost_ret (v := .agg #[.int .i64 0, .int .i64 1]) (by simp [results, Tryd.results47, go_sem]) rfl ?_
        exact givesM HR.out ((Below.refl _ w).alloc (Nat.le_refl _) _)
      | true =>
        rw [hv2] at KMn
        have hlen := valid_le hv0
        have hlen2 := valid_le hv1
        by_cases hm : n = -1
        · subst hm
          have HR := Lib.hid (show lastPosR (bts p) (bts s) (-1) = (lastF (bts p) (bts s) ((s.size : Int) - (p.size : Int)) + 1, 0) by unfold lastPosR guardN lastB lastF; rw [hv0, hv1, hv2]; simp [bts_length])
          have hwd : IntKind.i64.wrap ((s.size : Int) - (p.size : Int)) = (s.size : Int) - (p.size : Int) := IntWalk.i64_in _ (by omega)
          clear hv0 hv1 hv2 hn
          go_enter Tryd.func47, Tryd.ntmps47
          go_wp2_with (first
            | (go_at_call 32; (with_reducible refine Calls.mono (KVp _).out ?_); rintro e w1 ⟨rfl, rfl⟩)
            | (go_at_call 32; (with_reducible refine Calls.mono (KVs _).out ?_); rintro e w1 ⟨rfl, rfl⟩)
            | (go_at_call 106; (with_reducible refine Calls.mono (KMn _).out ?_); rintro e w1 ⟨rfl, rfl⟩))
          go_loop [7] (fun x => ∃ j : Int, x = .int .i64 j ∧ j ≤ (s.size : Int) - (p.size : Int) ∧ -1000000 ≤ j ∧ Hid (lastF (bts p) (bts s) ((s.size : Int) - (p.size : Int)) = lastF (bts p) (bts s) j)) (fun x => (intOf x + 1).toNat)
          case atStart => exact ⟨(s.size : Int) - (p.size : Int), rfl, Int.le_refl _, by omega, Lib.hid rfl⟩
          case round =>
            obtain ⟨j, rfl, hj, hj2, hq⟩ := hrel
            by_cases hp0 : p.size = 0
            · have hpi : ¬ (0 : Int) < (p.size : Int) := by omega
              have HZ := Lib.hid (HR.out.trans (by rw [hq.out, lastF_nil (List.eq_nil_of_length_eq_zero (by rw [bts_length]; exact hp0))]; rfl : (lastF (bts p) (bts s) ((s.size : Int) - (p.size : Int)) + 1, (0 : Int)) = (0, 0)))
              clear hp0
              by_cases hj0 : (0 : Int) ≤ j
              · go_wp2
                refine bodyPost_ret (v := .agg #[.int .i64 0, .int .i64 0]) (by simp [results, Tryd.results47, go_sem]) rfl ?_
                exact givesM HZ.out ((Below.refl _ w).alloc (Nat.le_refl _) _)
              · go_wp2
                refine bodyPost_ret (v := .agg #[.int .i64 0, .int .i64 0]) (by simp [results, Tryd.results47, go_sem]) rfl ?_
                exact givesM HZ.out ((Below.refl _ w).alloc (Nat.le_refl _) _)
            · have HPN := Lib.hid (show bts p ≠ [] by intro e; have := congrArg List.length e; rw [bts_length] at this; exact hp0 this)
              have hpi : (0 : Int) < (p.size : Int) := by omega
              clear hp0
              by_cases hj0 : (0 : Int) ≤ j
              · obtain ⟨i, rfl⟩ := Int.eq_ofNat_of_zero_le hj0
                have HST := Lib.hid (lastF_step (p := bts p) (l := bts s) (i := i) HPN.out (by rw [bts_length, bts_length]; omega))
                have KA := fun W => Lib.hid (Rat_any p s i W (by omega) (by omega) (by omega))
                have hw1 : IntKind.i64.wrap ((i : Int) + 1) = (i : Int) + 1 := IntWalk.i64_in _ (by omega)
                have hw2 : IntKind.i64.wrap ((i : Int) - 1) = (i : Int) - 1 := IntWalk.i64_in _ (by omega)
                cases hb : atB (bts s) (bts p) i with
                | true =>
                  rw [hb] at KA
                  have HZ := Lib.hid (HR.out.trans (by rw [hq.out, HST.out, hb]; rfl : (lastF (bts p) (bts s) ((s.size : Int) - (p.size : Int)) + 1, (0 : Int)) = ((i : Int) + 1, 0)))
                  clear hb
                  go_wp2_with (go_at_call 124; (with_reducible refine Calls.mono (KA _).out ?_); rintro e w1 ⟨rfl, rfl⟩)
                  refine bodyPost_ret (v := .agg #[.int .i64 ((i : Int) + 1), .int .i64 0]) (by simp [results, Tryd.results47, go_sem]) rfl ?_
                  exact givesM HZ.out ((Below.refl _ w).alloc (Nat.le_refl _) _)
                | false =>
                  rw [hb] at KA
                  have HN := Lib.hid (show lastF (bts p) (bts s) ((s.size : Int) - (p.size : Int)) = lastF (bts p) (bts s) ((i : Int) - 1) by rw [hq.out, HST.out, hb]; rfl)
                  clear hb
                  go_wp2_with (go_at_call 124; (with_reducible refine Calls.mono (KA _).out ?_); rintro e w1 ⟨rfl, rfl⟩)
                  go_round
                  case rel => exact ⟨(i : Int) - 1, rfl, by omega, by omega, HN⟩
                  case measure => simp [intOf] <;> omega
              · have HZ := Lib.hid (HR.out.trans (by rw [hq.out, lastF_stop (by omega)]; rfl : (lastF (bts p) (bts s) ((s.size : Int) - (p.size : Int)) + 1, (0 : Int)) = (0, 0)))
                go_wp2
                refine bodyPost_ret (v := .agg #[.int .i64 0, .int .i64 0]) (by simp [results, Tryd.results47, go_sem]) rfl ?_
                exact givesM HZ.out ((Below.refl _ w).alloc (Nat.le_refl _) _)
        · have h1 : 1 ≤ n := by
            have := hv2
            rw [decide_eq_false hm, Bool.false_or] at this
            exact of_decide_eq_true this
          have hmb : (n != -1) = true := by simpa using hm
          by_cases hlt : n < (s.size : Int)
          · obtain ⟨k, rfl⟩ := Int.eq_ofNat_of_zero_le (show 0 ≤ n by omega)
            obtain ⟨t, ht⟩ : ∃ t, t = s.extract 0 k := ⟨_, rfl⟩
            have hx : bts t = (bts s).take k := by rw [ht, bts_extract]; simp
            have hts : t.size ≤ 1000 := by have := size_of_bts hx; rw [List.length_take, bts_length] at this; omega
            have HT := Lib.hid ht
            have HR := Lib.hid (show lastPosR (bts p) (bts s) (k : Int) = (lastF (bts p) (bts t) ((t.size : Int) - (p.size : Int)) + 1, 0) by unfold lastPosR guardN lastB lastF; rw [hv0, hv1, hv2, if_neg hm, Int.toNat_natCast, ← hx, bts_length, bts_length]; simp)
            have hwd : IntKind.i64.wrap ((t.size : Int) - (p.size : Int)) = (t.size : Int) - (p.size : Int) := IntWalk.i64_in _ (by omega)
            have hk0 : (0 : Int) ≤ (k : Int) := by omega
            have hks : (k : Int) ≤ (s.size : Int) := by omega
            clear hv0 hv1 hv2 hn hm hx
            have hex : s.extract 0 k = t := ht.symm
            clear ht
            go_enter Tryd.func47, Tryd.ntmps47
            go_wp2_with (first
              | (go_at_call 32; (with_reducible refine Calls.mono (KVp _).out ?_); rintro e w1 ⟨rfl, rfl⟩)
              | (go_at_call 32; (with_reducible refine Calls.mono (KVs _).out ?_); rintro e w1 ⟨rfl, rfl⟩)
              | (go_at_call 106; (with_reducible refine Calls.mono (KMn _).out ?_); rintro e w1 ⟨rfl, rfl⟩))
            go_loop [7] (fun x => ∃ j : Int, x = .int .i64 j ∧ j ≤ (t.size : Int) - (p.size : Int) ∧ -1000000 ≤ j ∧ Hid (lastF (bts p) (bts t) ((t.size : Int) - (p.size : Int)) = lastF (bts p) (bts t) j)) (fun x => (intOf x + 1).toNat)
            case atStart => exact ⟨(t.size : Int) - (p.size : Int), rfl, Int.le_refl _, by omega, Lib.hid rfl⟩
            case round =>
              obtain ⟨j, rfl, hj, hj2, hq⟩ := hrel
              by_cases hp0 : p.size = 0
              · have hpi : ¬ (0 : Int) < (p.size : Int) := by omega
                have HZ := Lib.hid (HR.out.trans (by rw [hq.out, lastF_nil (List.eq_nil_of_length_eq_zero (by rw [bts_length]; exact hp0))]; rfl : (lastF (bts p) (bts t) ((t.size : Int) - (p.size : Int)) + 1, (0 : Int)) = (0, 0)))
                clear hp0
                by_cases hj0 : (0 : Int) ≤ j
                · go_wp2
                  refine bodyPost_ret (v := .agg #[.int .i64 0, .int .i64 0]) (by simp [results, Tryd.results47, go_sem]) rfl ?_
                  exact givesM HZ.out ((Below.refl _ w).alloc (Nat.le_refl _) _)
                · go_wp2
                  refine bodyPost_ret (v := .agg #[.int .i64 0, .int .i64 0]) (by simp [results, Tryd.results47, go_sem]) rfl ?_
                  exact givesM HZ.out ((Below.refl _ w).alloc (Nat.le_refl _) _)
              · have HPN := Lib.hid (show bts p ≠ [] by intro e; have := congrArg List.length e; rw [bts_length] at this; exact hp0 this)
                have hpi : (0 : Int) < (p.size : Int) := by omega
                clear hp0
                by_cases hj0 : (0 : Int) ≤ j
                · obtain ⟨i, rfl⟩ := Int.eq_ofNat_of_zero_le hj0
                  have HST := Lib.hid (lastF_step (p := bts p) (l := bts t) (i := i) HPN.out (by rw [bts_length, bts_length]; omega))
                  have KA := fun W => Lib.hid (Rat_any p t i W (by omega) (by omega) (by omega))
                  have hw1 : IntKind.i64.wrap ((i : Int) + 1) = (i : Int) + 1 := IntWalk.i64_in _ (by omega)
                  have hw2 : IntKind.i64.wrap ((i : Int) - 1) = (i : Int) - 1 := IntWalk.i64_in _ (by omega)
                  cases hb : atB (bts t) (bts p) i with
                  | true =>
                    rw [hb] at KA
                    have HZ := Lib.hid (HR.out.trans (by rw [hq.out, HST.out, hb]; rfl : (lastF (bts p) (bts t) ((t.size : Int) - (p.size : Int)) + 1, (0 : Int)) = ((i : Int) + 1, 0)))
                    clear hb
                    go_wp2_with (go_at_call 124; (with_reducible refine Calls.mono (KA _).out ?_); rintro e w1 ⟨rfl, rfl⟩)
                    refine bodyPost_ret (v := .agg #[.int .i64 ((i : Int) + 1), .int .i64 0]) (by simp [results, Tryd.results47, go_sem]) rfl ?_
                    exact givesM HZ.out ((Below.refl _ w).alloc (Nat.le_refl _) _)
                  | false =>
                    rw [hb] at KA
                    have HN := Lib.hid (show lastF (bts p) (bts t) ((t.size : Int) - (p.size : Int)) = lastF (bts p) (bts t) ((i : Int) - 1) by rw [hq.out, HST.out, hb]; rfl)
                    clear hb
                    go_wp2_with (go_at_call 124; (with_reducible refine Calls.mono (KA _).out ?_); rintro e w1 ⟨rfl, rfl⟩)
                    go_round
                    case rel => exact ⟨(i : Int) - 1, rfl, by omega, by omega, HN⟩
                    case measure => simp [intOf] <;> omega
                · have HZ := Lib.hid (HR.out.trans (by rw [hq.out, lastF_stop (by omega)]; rfl : (lastF (bts p) (bts t) ((t.size : Int) - (p.size : Int)) + 1, (0 : Int)) = (0, 0)))
                  go_wp2
                  refine bodyPost_ret (v := .agg #[.int .i64 0, .int .i64 0]) (by simp [results, Tryd.results47, go_sem]) rfl ?_
                  exact givesM HZ.out ((Below.refl _ w).alloc (Nat.le_refl _) _)
          · have hx : (bts s).take n.toNat = bts s := List.take_of_length_le (by rw [bts_length]; omega)
            have HR := Lib.hid (show lastPosR (bts p) (bts s) n = (lastF (bts p) (bts s) ((s.size : Int) - (p.size : Int)) + 1, 0) by unfold lastPosR guardN lastB lastF; rw [hv0, hv1, hv2, if_neg hm, hx, bts_length, bts_length]; simp)
            have hwd : IntKind.i64.wrap ((s.size : Int) - (p.size : Int)) = (s.size : Int) - (p.size : Int) := IntWalk.i64_in _ (by omega)
            clear hv0 hv1 hv2 hn hm hx
            go_enter Tryd.func47, Tryd.ntmps47
            go_wp2_with (first
              | (go_at_call 32; (with_reducible refine Calls.mono (KVp _).out ?_); rintro e w1 ⟨rfl, rfl⟩)
              | (go_at_call 32; (with_reducible refine Calls.mono (KVs _).out ?_); rintro e w1 ⟨rfl, rfl⟩)
              | (go_at_call 106; (with_reducible refine Calls.mono (KMn _).out ?_); rintro e w1 ⟨rfl, rfl⟩))
            go_loop [7] (fun x => ∃ j : Int, x = .int .i64 j ∧ j ≤ (s.size : Int) - (p.size : Int) ∧ -1000000 ≤ j ∧ Hid (lastF (bts p) (bts s) ((s.size : Int) - (p.size : Int)) = lastF (bts p) (bts s) j)) (fun x => (intOf x + 1).toNat)
            case atStart => exact ⟨(s.size : Int) - (p.size : Int), rfl, Int.le_refl _, by omega, Lib.hid rfl⟩
            case round =>
              obtain ⟨j, rfl, hj, hj2, hq⟩ := hrel
              by_cases hp0 : p.size = 0
              · have hpi : ¬ (0 : Int) < (p.size : Int) := by omega
                have HZ := Lib.hid (HR.out.trans (by rw [hq.out, lastF_nil (List.eq_nil_of_length_eq_zero (by rw [bts_length]; exact hp0))]; rfl : (lastF (bts p) (bts s) ((s.size : Int) - (p.size : Int)) + 1, (0 : Int)) = (0, 0)))
                clear hp0
                by_cases hj0 : (0 : Int) ≤ j
                · go_wp2
                  refine bodyPost_ret (v := .agg #[.int .i64 0, .int .i64 0]) (by simp [results, Tryd.results47, go_sem]) rfl ?_
                  exact givesM HZ.out ((Below.refl _ w).alloc (Nat.le_refl _) _)
                · go_wp2
                  refine bodyPost_ret (v := .agg #[.int .i64 0, .int .i64 0]) (by simp [results, Tryd.results47, go_sem]) rfl ?_
                  exact givesM HZ.out ((Below.refl _ w).alloc (Nat.le_refl _) _)
              · have HPN := Lib.hid (show bts p ≠ [] by intro e; have := congrArg List.length e; rw [bts_length] at this; exact hp0 this)
                have hpi : (0 : Int) < (p.size : Int) := by omega
                clear hp0
                by_cases hj0 : (0 : Int) ≤ j
                · obtain ⟨i, rfl⟩ := Int.eq_ofNat_of_zero_le hj0
                  have HST := Lib.hid (lastF_step (p := bts p) (l := bts s) (i := i) HPN.out (by rw [bts_length, bts_length]; omega))
                  have KA := fun W => Lib.hid (Rat_any p s i W (by omega) (by omega) (by omega))
                  have hw1 : IntKind.i64.wrap ((i : Int) + 1) = (i : Int) + 1 := IntWalk.i64_in _ (by omega)
                  have hw2 : IntKind.i64.wrap ((i : Int) - 1) = (i : Int) - 1 := IntWalk.i64_in _ (by omega)
                  cases hb : atB (bts s) (bts p) i with
                  | true =>
                    rw [hb] at KA
                    have HZ := Lib.hid (HR.out.trans (by rw [hq.out, HST.out, hb]; rfl : (lastF (bts p) (bts s) ((s.size : Int) - (p.size : Int)) + 1, (0 : Int)) = ((i : Int) + 1, 0)))
                    clear hb
                    go_wp2_with (go_at_call 124; (with_reducible refine Calls.mono (KA _).out ?_); rintro e w1 ⟨rfl, rfl⟩)
                    refine bodyPost_ret (v := .agg #[.int .i64 ((i : Int) + 1), .int .i64 0]) (by simp [results, Tryd.results47, go_sem]) rfl ?_
                    exact givesM HZ.out ((Below.refl _ w).alloc (Nat.le_refl _) _)
                  | false =>
                    rw [hb] at KA
                    have HN := Lib.hid (show lastF (bts p) (bts s) ((s.size : Int) - (p.size : Int)) = lastF (bts p) (bts s) ((i : Int) - 1) by rw [hq.out, HST.out, hb]; rfl)
                    clear hb
                    go_wp2_with (go_at_call 124; (with_reducible refine Calls.mono (KA _).out ?_); rintro e w1 ⟨rfl, rfl⟩)
                    go_round
                    case rel => exact ⟨(i : Int) - 1, rfl, by omega, by omega, HN⟩
                    case measure => simp [intOf] <;> omega
                · have HZ := Lib.hid (HR.out.trans (by rw [hq.out, lastF_stop (by omega)]; rfl : (lastF (bts p) (bts s) ((s.size : Int) - (p.size : Int)) + 1, (0 : Int)) = (0, 0)))
                  go_wp2
                  refine bodyPost_ret (v := .agg #[.int .i64 0, .int .i64 0]) (by simp [results, Tryd.results47, go_sem]) rfl ?_
                  exact givesM HZ.out ((Below.refl _ w).alloc (Nat.le_refl _) _)
end Go.Proofs.YtoilgjlbpimcpaaDoor
