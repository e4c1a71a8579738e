/- The other program's Substr, DelStr, Insert, Overlay. -/
import Derived.Test.YtoilgjlbpimcpaaDoorVb
namespace Go.Proofs.YtoilgjlbpimcpaaDoor
open Go.RowKit Go.Shelf Tx
set_option linter.unusedVariables false
set_option maxRecDepth 100000

theorem pb_u8 (c : UInt8) : pb (c.toNat : Int) = c := by
  unfold pb
  simp [Nat.toUInt8]
theorem if_pos' {α : Type} {p : Prop} [Decidable p] (h : p) (a b : α) : (if p then a else b) = a := if_pos h

set_option maxHeartbeats 2000000 in
theorem RSubstr_any (s : ByteArray) (n m : Int) (c : UInt8) (w : World) (hss : s.size ≤ maxLen) (hn : n ≤ 9223372036854775807) (hm9 : m ≤ 9223372036854775807) :
    Calls Tryd.prog 37 #[.string s, .int .i64 n, .int .i64 m, .int .u8 (c.toNat : Int)] w (GivesA w (substrR (bts s) n m (c.toNat : Int))) := by
  have KVs := fun (W : World) => Lib.hid (RValid_any s W hss)
  have KAn := fun (W : World) => Lib.hid (Rwhole0_any n 1 W)
  have KMm := fun (W : World) => Lib.hid (Rwhole1_any m 0 W)
  have KPc := fun (W : World) => Lib.hid (RPad_any (c.toNat : Int) W)
  cases hv0 : validL (bts s) with
  | false =>
    rw [hv0] at KVs
    have HR := Lib.hid (show substrR (bts s) n m (c.toNat : Int) = ([], 1) by unfold substrR guardR; simp only [hv0, Bool.and_false, Bool.false_and, Bool.true_and, Bool.and_true]; rfl)
    clear hv0
    go_enter Tryd.func37, Tryd.ntmps37
    go_wp2_with (first
      | (go_at_call 32; (with_reducible refine Calls.mono (KVs _).out ?_); rintro e w1 ⟨rfl, rfl⟩))
    refine bodyPost_ret (v := .agg #[.string ⟨#[]⟩, .int .i64 1]) (by simp [results, Tryd.results37, go_sem]) rfl ?_
    exact givesA HR.out rfl ((Below.refl _ w).alloc (Nat.le_refl _) _)
  | true =>
    rw [hv0] at KVs
    cases hv1 : decide (1 ≤ n) with
    | false =>
      rw [hv1] at KAn
      have HR := Lib.hid (show substrR (bts s) n m (c.toNat : Int) = ([], 1) by unfold substrR guardR; simp only [hv0, hv1, Bool.and_false, Bool.false_and, Bool.true_and, Bool.and_true]; rfl)
      clear hv0 hv1
      go_enter Tryd.func37, Tryd.ntmps37
      go_wp2_with (first
        | (go_at_call 32; (with_reducible refine Calls.mono (KVs _).out ?_); rintro e w1 ⟨rfl, rfl⟩)
        | (go_at_call 106; (with_reducible refine Calls.mono (KAn _).out ?_); rintro e w1 ⟨rfl, rfl⟩))
      refine bodyPost_ret (v := .agg #[.string ⟨#[]⟩, .int .i64 1]) (by simp [results, Tryd.results37, go_sem]) rfl ?_
      exact givesA HR.out rfl ((Below.refl _ w).alloc (Nat.le_refl _) _)
    | true =>
      rw [hv1] at KAn
      cases hv2 : (decide (m = -1) || decide (0 ≤ m)) with
      | false =>
        rw [hv2] at KMm
        have HR := Lib.hid (show substrR (bts s) n m (c.toNat : Int) = ([], 1) by unfold substrR guardR; simp only [hv0, hv1, hv2, Bool.and_false, Bool.false_and, Bool.true_and, Bool.and_true]; rfl)
        clear hv0 hv1 hv2
        go_enter Tryd.func37, Tryd.ntmps37
        go_wp2_with (first
          | (go_at_call 32; (with_reducible refine Calls.mono (KVs _).out ?_); rintro e w1 ⟨rfl, rfl⟩)
          | (go_at_call 106; (with_reducible refine Calls.mono (KAn _).out ?_); rintro e w1 ⟨rfl, rfl⟩)
          | (go_at_call 106; (with_reducible refine Calls.mono (KMm _).out ?_); rintro e w1 ⟨rfl, rfl⟩))
        refine bodyPost_ret (v := .agg #[.string ⟨#[]⟩, .int .i64 1]) (by simp [results, Tryd.results37, go_sem]) rfl ?_
        exact givesA HR.out rfl ((Below.refl _ w).alloc (Nat.le_refl _) _)
      | true =>
        rw [hv2] at KMm
        cases hv3 : padI (c.toNat : Int) with
        | false =>
          rw [hv3] at KPc
          have HR := Lib.hid (show substrR (bts s) n m (c.toNat : Int) = ([], 1) by unfold substrR guardR; simp only [hv0, hv1, hv2, hv3, Bool.and_false, Bool.false_and, Bool.true_and, Bool.and_true]; rfl)
          clear hv0 hv1 hv2 hv3
          go_enter Tryd.func37, Tryd.ntmps37
          go_wp2_with (first
            | (go_at_call 32; (with_reducible refine Calls.mono (KVs _).out ?_); rintro e w1 ⟨rfl, rfl⟩)
            | (go_at_call 106; (with_reducible refine Calls.mono (KAn _).out ?_); rintro e w1 ⟨rfl, rfl⟩)
            | (go_at_call 106; (with_reducible refine Calls.mono (KMm _).out ?_); rintro e w1 ⟨rfl, rfl⟩)
            | (go_at_call 107; (with_reducible refine Calls.mono (KPc _).out ?_); rintro e w1 ⟨rfl, rfl⟩))
          refine bodyPost_ret (v := .agg #[.string ⟨#[]⟩, .int .i64 1]) (by simp [results, Tryd.results37, go_sem]) rfl ?_
          exact givesA HR.out rfl ((Below.refl _ w).alloc (Nat.le_refl _) _)
        | true =>
          rw [hv3] at KPc
          have hlen := valid_le hv0
          have h1 := of_decide_eq_true hv1
          obtain ⟨k, rfl⟩ : ∃ k : Nat, n = (k : Int) + 1 := ⟨(n - 1).toNat, by omega⟩
          have hk : ((k : Int) + 1 - 1).toNat = k := by omega
          by_cases hks : k + 1 ≤ s.size
          · have hw1 : IntKind.i64.wrap ((k : Int) + 1 - 1) = (k : Int) := by rw [show (k : Int) + 1 - 1 = (k : Int) by omega]; exact IntWalk.i64_in _ (by omega)
            by_cases hm : m = -1
            · subst hm
              have HR := Lib.hid (show substrR (bts s) ((k : Int) + 1) (-1) (c.toNat : Int) = ((bts s).drop k, 0) by unfold substrR guardR; rw [hv0, hv3, hv1, hk]; simp)
              have HX := Lib.hid (show bts (s.extract k s.size) = (bts s).drop k by rw [bts_extract]; exact List.take_of_length_le (by rw [List.length_drop, bts_length]; omega))
              clear hn hm9 hss hv0 hv1 hv2 hv3 hk
              go_enter Tryd.func37, Tryd.ntmps37
              go_wp2_with (first
                | (go_at_call 32; (with_reducible refine Calls.mono (KVs _).out ?_); rintro e w1 ⟨rfl, rfl⟩)
                | (go_at_call 106; (with_reducible refine Calls.mono (KAn _).out ?_); rintro e w1 ⟨rfl, rfl⟩)
                | (go_at_call 106; (with_reducible refine Calls.mono (KMm _).out ?_); rintro e w1 ⟨rfl, rfl⟩)
                | (go_at_call 107; (with_reducible refine Calls.mono (KPc _).out ?_); rintro e w1 ⟨rfl, rfl⟩))
              refine bodyPost_ret (v := .agg #[.string (s.extract k s.size), .int .i64 0]) (by simp [results, Tryd.results37, go_sem]) rfl ?_
              exact givesA HR.out HX.out ((Below.refl _ w).alloc (Nat.le_refl _) _)
            · have h0 : 0 ≤ m := by
                rw [decide_eq_false hm, Bool.false_or] at hv2
                exact of_decide_eq_true hv2
              obtain ⟨j, rfl⟩ := Int.eq_ofNat_of_zero_le h0
              have hmb : ((j : Int) == -1) = false := by simp
              have HX := Lib.hid (show bts (s.extract k s.size) = (bts s).drop k by rw [bts_extract]; exact List.take_of_length_le (by rw [List.length_drop, bts_length]; omega))
              obtain ⟨⟨rl, rk⟩, hrr⟩ : ∃ r, substrR (bts s) ((k : Int) + 1) (j : Int) (c.toNat : Int) = r := ⟨_, rfl⟩
              have HRR := Lib.hid hrr
              have HR := Lib.hid (show outR (rfit (bts (s.extract k s.size)) j c) = (rl, rk) by
                rw [← hrr, HX.out, outR_fit (cleanL_drop (valid_clean hv0) k) (by rw [List.length_drop, bts_length]; omega) hv3]
                unfold substrR guardR
                rw [hv0, hv1, hv2, hv3, hk, if_neg hm, pb_u8]
                have e : (1000 < (j : Int)) = (1000 < j) := by apply propext; omega
                simp [e])
              have KF := fun W => Lib.hid (Rfit_any (s.extract k s.size) j c W (by have := size_of_bts HX.out; rw [List.length_drop, bts_length] at this; omega) (by omega))
              have hrl : (rfit (bts (s.extract k s.size)) j c).length ≤ 3000 := by rw [HX.out]; unfold rfit; split <;> simp [bts_length] <;> omega
              have HRL := Lib.hid hrl
              clear hn hm9 hss hv0 hv1 hv2 hv3 hk hm hrl hrr
              go_enter Tryd.func37, Tryd.ntmps37
              go_wp2_with (first
                | (go_at_call 32; (with_reducible refine Calls.mono (KVs _).out ?_); rintro e w1 ⟨rfl, rfl⟩)
                | (go_at_call 106; (with_reducible refine Calls.mono (KAn _).out ?_); rintro e w1 ⟨rfl, rfl⟩)
                | (go_at_call 106; (with_reducible refine Calls.mono (KMm _).out ?_); rintro e w1 ⟨rfl, rfl⟩)
                | (go_at_call 107; (with_reducible refine Calls.mono (KPc _).out ?_); rintro e w1 ⟨rfl, rfl⟩)
                | (go_at_call 109; refine Calls.mono (KF _).out ?_; rintro e w4 ⟨v, rfl, hbr, hb4⟩; have HB4 := Lib.hid ((sbB_new w).step hb4); have KO0 := Rout_any v _ w4 hbr.out.rd (Nat.le_trans HRL.out (by decide)); rw [HR.out] at KO0; have KO := Lib.hid KO0; clear KO0 hb4)
                | (go_at_call 108; refine Calls.mono KO.out ?_; rintro e w5 ⟨t, rfl, ht, hb5⟩; have HB5 := Lib.hid (HB4.out.step hb5); obtain ⟨p1, p2, f1, f2⟩ := HB5.out.facts; clear hb5))
              refine bodyPost_ret (v := .agg #[.string t, .int .i64 rk]) (by simp [results, Tryd.results37, go_sem, p1, p2]) rfl ?_
              rw [HRR.out]
              exact ⟨t, rfl, ht, HB5.out.fin _ _⟩
          · by_cases hm : m = -1
            · subst hm
              have HR := Lib.hid (show substrR (bts s) ((k : Int) + 1) (-1) (c.toNat : Int) = ((bts s).drop k, 0) by unfold substrR guardR; rw [hv0, hv3, hv1, hk]; simp)
              have HX := Lib.hid (show bts (⟨#[]⟩) = (bts s).drop k by rw [List.drop_of_length_le (by rw [bts_length]; omega)]; rfl)
              clear hn hm9 hss hv0 hv1 hv2 hv3 hk
              go_enter Tryd.func37, Tryd.ntmps37
              go_wp2_with (first
                | (go_at_call 32; (with_reducible refine Calls.mono (KVs _).out ?_); rintro e w1 ⟨rfl, rfl⟩)
                | (go_at_call 106; (with_reducible refine Calls.mono (KAn _).out ?_); rintro e w1 ⟨rfl, rfl⟩)
                | (go_at_call 106; (with_reducible refine Calls.mono (KMm _).out ?_); rintro e w1 ⟨rfl, rfl⟩)
                | (go_at_call 107; (with_reducible refine Calls.mono (KPc _).out ?_); rintro e w1 ⟨rfl, rfl⟩))
              refine bodyPost_ret (v := .agg #[.string (⟨#[]⟩), .int .i64 0]) (by simp [results, Tryd.results37, go_sem]) rfl ?_
              exact givesA HR.out HX.out ((Below.refl _ w).alloc (Nat.le_refl _) _)
            · have h0 : 0 ≤ m := by
                rw [decide_eq_false hm, Bool.false_or] at hv2
                exact of_decide_eq_true hv2
              obtain ⟨j, rfl⟩ := Int.eq_ofNat_of_zero_le h0
              have hmb : ((j : Int) == -1) = false := by simp
              have HX := Lib.hid (show bts (⟨#[]⟩) = (bts s).drop k by rw [List.drop_of_length_le (by rw [bts_length]; omega)]; rfl)
              obtain ⟨⟨rl, rk⟩, hrr⟩ : ∃ r, substrR (bts s) ((k : Int) + 1) (j : Int) (c.toNat : Int) = r := ⟨_, rfl⟩
              have HRR := Lib.hid hrr
              have HR := Lib.hid (show outR (rfit (bts (⟨#[]⟩)) j c) = (rl, rk) by
                rw [← hrr, HX.out, outR_fit (cleanL_drop (valid_clean hv0) k) (by rw [List.length_drop, bts_length]; omega) hv3]
                unfold substrR guardR
                rw [hv0, hv1, hv2, hv3, hk, if_neg hm, pb_u8]
                have e : (1000 < (j : Int)) = (1000 < j) := by apply propext; omega
                simp [e])
              have KF := fun W => Lib.hid (Rfit_any (⟨#[]⟩) j c W (by have := size_of_bts HX.out; rw [List.length_drop, bts_length] at this; omega) (by omega))
              have hrl : (rfit (bts (⟨#[]⟩)) j c).length ≤ 3000 := by rw [HX.out]; unfold rfit; split <;> simp [bts_length] <;> omega
              have HRL := Lib.hid hrl
              clear hn hm9 hss hv0 hv1 hv2 hv3 hk hm hrl hrr
              go_enter Tryd.func37, Tryd.ntmps37
              go_wp2_with (first
                | (go_at_call 32; (with_reducible refine Calls.mono (KVs _).out ?_); rintro e w1 ⟨rfl, rfl⟩)
                | (go_at_call 106; (with_reducible refine Calls.mono (KAn _).out ?_); rintro e w1 ⟨rfl, rfl⟩)
                | (go_at_call 106; (with_reducible refine Calls.mono (KMm _).out ?_); rintro e w1 ⟨rfl, rfl⟩)
                | (go_at_call 107; (with_reducible refine Calls.mono (KPc _).out ?_); rintro e w1 ⟨rfl, rfl⟩)
                | (go_at_call 109; refine Calls.mono (KF _).out ?_; rintro e w4 ⟨v, rfl, hbr, hb4⟩; have HB4 := Lib.hid ((sbB_new w).step hb4); have KO0 := Rout_any v _ w4 hbr.out.rd (Nat.le_trans HRL.out (by decide)); rw [HR.out] at KO0; have KO := Lib.hid KO0; clear KO0 hb4)
                | (go_at_call 108; refine Calls.mono KO.out ?_; rintro e w5 ⟨t, rfl, ht, hb5⟩; have HB5 := Lib.hid (HB4.out.step hb5); obtain ⟨p1, p2, f1, f2⟩ := HB5.out.facts; clear hb5))
              refine bodyPost_ret (v := .agg #[.string t, .int .i64 rk]) (by simp [results, Tryd.results37, go_sem, p1, p2]) rfl ?_
              rw [HRR.out]
              exact ⟨t, rfl, ht, HB5.out.fin _ _⟩
set_option maxHeartbeats 2000000 in
theorem RDelStr_any (s : ByteArray) (n m : Int) (w : World) (hss : s.size ≤ maxLen) (hn : n ≤ 9223372036854775807) (hm9 : m ≤ 9223372036854775807) :
    Calls Tryd.prog 38 #[.string s, .int .i64 n, .int .i64 m] w (GivesA w (delStrR (bts s) n m)) := by
  have KVs := fun (W : World) => Lib.hid (RValid_any s W hss)
  have KAn := fun (W : World) => Lib.hid (Rwhole0_any n 1 W)
  have KMm := fun (W : World) => Lib.hid (Rwhole1_any m 0 W)
  cases hv0 : validL (bts s) with
  | false =>
    rw [hv0] at KVs
    have HR := Lib.hid (show delStrR (bts s) n m = ([], 1) by unfold delStrR guardR; simp only [hv0, Bool.and_false, Bool.false_and, Bool.true_and, Bool.and_true]; rfl)
    clear hv0
    go_enter Tryd.func38, Tryd.ntmps38
    go_wp2_with (first
      | (go_at_call 32; (with_reducible refine Calls.mono (KVs _).out ?_); rintro e w1 ⟨rfl, rfl⟩))
    refine bodyPost_ret (v := .agg #[.string ⟨#[]⟩, .int .i64 1]) (by simp [results, Tryd.results38, go_sem]) rfl ?_
    exact givesA HR.out rfl ((Below.refl _ w).alloc (Nat.le_refl _) _)
  | true =>
    rw [hv0] at KVs
    cases hv1 : decide (1 ≤ n) with
    | false =>
      rw [hv1] at KAn
      have HR := Lib.hid (show delStrR (bts s) n m = ([], 1) by unfold delStrR guardR; simp only [hv0, hv1, Bool.and_false, Bool.false_and, Bool.true_and, Bool.and_true]; rfl)
      clear hv0 hv1
      go_enter Tryd.func38, Tryd.ntmps38
      go_wp2_with (first
        | (go_at_call 32; (with_reducible refine Calls.mono (KVs _).out ?_); rintro e w1 ⟨rfl, rfl⟩)
        | (go_at_call 106; (with_reducible refine Calls.mono (KAn _).out ?_); rintro e w1 ⟨rfl, rfl⟩))
      refine bodyPost_ret (v := .agg #[.string ⟨#[]⟩, .int .i64 1]) (by simp [results, Tryd.results38, go_sem]) rfl ?_
      exact givesA HR.out rfl ((Below.refl _ w).alloc (Nat.le_refl _) _)
    | true =>
      rw [hv1] at KAn
      cases hv2 : (decide (m = -1) || decide (0 ≤ m)) with
      | false =>
        rw [hv2] at KMm
        have HR := Lib.hid (show delStrR (bts s) n m = ([], 1) by unfold delStrR guardR; simp only [hv0, hv1, hv2, Bool.and_false, Bool.false_and, Bool.true_and, Bool.and_true]; rfl)
        clear hv0 hv1 hv2
        go_enter Tryd.func38, Tryd.ntmps38
        go_wp2_with (first
          | (go_at_call 32; (with_reducible refine Calls.mono (KVs _).out ?_); rintro e w1 ⟨rfl, rfl⟩)
          | (go_at_call 106; (with_reducible refine Calls.mono (KAn _).out ?_); rintro e w1 ⟨rfl, rfl⟩)
          | (go_at_call 106; (with_reducible refine Calls.mono (KMm _).out ?_); rintro e w1 ⟨rfl, rfl⟩))
        refine bodyPost_ret (v := .agg #[.string ⟨#[]⟩, .int .i64 1]) (by simp [results, Tryd.results38, go_sem]) rfl ?_
        exact givesA HR.out rfl ((Below.refl _ w).alloc (Nat.le_refl _) _)
      | true =>
        rw [hv2] at KMm
        have hlen := valid_le hv0
        have h1 := of_decide_eq_true hv1
        obtain ⟨k, rfl⟩ : ∃ k : Nat, n = (k : Int) + 1 := ⟨(n - 1).toNat, by omega⟩
        have hk : ((k : Int) + 1 - 1).toNat = k := by omega
        have hw1 : IntKind.i64.wrap ((k : Int) + 1 - 1) = (k : Int) := by rw [show (k : Int) + 1 - 1 = (k : Int) by omega]; exact IntWalk.i64_in _ (by omega)
        by_cases hks : k + 1 ≤ s.size
        · have hw2 : IntKind.i64.wrap ((s.size : Int) - ((k : Int) + 1)) = (s.size : Int) - ((k : Int) + 1) := IntWalk.i64_in _ (by omega)
          by_cases hm : m = -1
          · subst hm
            have HR := Lib.hid (show delStrR (bts s) ((k : Int) + 1) (-1) = ((bts s).take k, 0) by unfold delStrR guardR; rw [hv0, hv1, hk]; simp)
            have HX := Lib.hid (show bts (s.extract 0 k) = (bts s).take k by rw [bts_extract]; simp)
            clear hn hm9 hss hv0 hv1 hv2 hk
            go_enter Tryd.func38, Tryd.ntmps38
            go_wp2_with (first
              | (go_at_call 32; (with_reducible refine Calls.mono (KVs _).out ?_); rintro e w1 ⟨rfl, rfl⟩)
              | (go_at_call 106; (with_reducible refine Calls.mono (KAn _).out ?_); rintro e w1 ⟨rfl, rfl⟩)
              | (go_at_call 106; (with_reducible refine Calls.mono (KMm _).out ?_); rintro e w1 ⟨rfl, rfl⟩))
            refine bodyPost_ret (v := .agg #[.string (s.extract 0 k), .int .i64 0]) (by simp [results, Tryd.results38, go_sem]) rfl ?_
            exact givesA HR.out HX.out ((Below.refl _ w).alloc (Nat.le_refl _) _)
          · have h0 : 0 ≤ m := by
              rw [decide_eq_false hm, Bool.false_or] at hv2
              exact of_decide_eq_true hv2
            obtain ⟨j, rfl⟩ := Int.eq_ofNat_of_zero_le h0
            have hmb : ((j : Int) == -1) = false := by simp
            by_cases hj : (s.size : Int) - ((k : Int) + 1) < (j : Int)
            · have HR := Lib.hid (show delStrR (bts s) ((k : Int) + 1) (j : Int) = ((bts s).take k, 0) by unfold delStrR guardR; rw [hv0, hv1, hv2, hk, if_neg hm, List.drop_drop, List.drop_of_length_le (by rw [bts_length, Int.toNat_natCast]; omega)]; simp)
              have HX := Lib.hid (show bts (s.extract 0 k) = (bts s).take k by rw [bts_extract]; simp)
              clear hn hm9 hss hv0 hv1 hv2 hk hm
              go_enter Tryd.func38, Tryd.ntmps38
              go_wp2_with (first
                | (go_at_call 32; (with_reducible refine Calls.mono (KVs _).out ?_); rintro e w1 ⟨rfl, rfl⟩)
                | (go_at_call 106; (with_reducible refine Calls.mono (KAn _).out ?_); rintro e w1 ⟨rfl, rfl⟩)
                | (go_at_call 106; (with_reducible refine Calls.mono (KMm _).out ?_); rintro e w1 ⟨rfl, rfl⟩))
              refine bodyPost_ret (v := .agg #[.string (s.extract 0 k), .int .i64 0]) (by simp [results, Tryd.results38, go_sem]) rfl ?_
              exact givesA HR.out HX.out ((Below.refl _ w).alloc (Nat.le_refl _) _)
            · have HR := Lib.hid (show delStrR (bts s) ((k : Int) + 1) (j : Int) = ((bts s).take k ++ (bts s).drop (k + j), 0) by unfold delStrR guardR; rw [hv0, hv1, hv2, hk, if_neg hm, List.drop_drop, Int.toNat_natCast]; simp)
              have HX := Lib.hid (show bts (s.extract 0 k ++ s.extract (k + j) s.size) = (bts s).take k ++ (bts s).drop (k + j) by rw [bts_append, bts_extract, bts_extract, List.take_of_length_le (show ((bts s).drop (k + j)).length ≤ s.size - (k + j) by rw [List.length_drop, bts_length]; omega)]; simp)
              have hw3 : IntKind.i64.wrap ((k : Int) + (j : Int)) = (k : Int) + (j : Int) := IntWalk.i64_in _ (by omega)
              have hw4 : ((k : Int) + (j : Int)).toNat = k + j := by omega
              clear hn hm9 hss hv0 hv1 hv2 hk hm
              go_enter Tryd.func38, Tryd.ntmps38
              go_wp2_with (first
                | (go_at_call 32; (with_reducible refine Calls.mono (KVs _).out ?_); rintro e w1 ⟨rfl, rfl⟩)
                | (go_at_call 106; (with_reducible refine Calls.mono (KAn _).out ?_); rintro e w1 ⟨rfl, rfl⟩)
                | (go_at_call 106; (with_reducible refine Calls.mono (KMm _).out ?_); rintro e w1 ⟨rfl, rfl⟩))
              go_region
              go_wp2
              refine bodyPost_ret (v := .agg #[.string (s.extract 0 k ++ s.extract (k + j) s.size), .int .i64 0]) (by simp [results, Tryd.results38, go_sem]) rfl ?_
              exact givesA HR.out HX.out ((Below.refl _ w).alloc (Nat.le_refl _) _).drew
        · have HR := Lib.hid (show delStrR (bts s) ((k : Int) + 1) m = (bts s, 0) by
            unfold delStrR guardR
            rw [hv0, hv1, hv2, hk, List.take_of_length_le (by rw [bts_length]; omega), List.drop_drop, List.drop_of_length_le (by rw [bts_length]; omega)]
            simp)
          clear hn hm9 hss hv0 hv1 hv2 hk
          go_enter Tryd.func38, Tryd.ntmps38
          go_wp2_with (first
            | (go_at_call 32; (with_reducible refine Calls.mono (KVs _).out ?_); rintro e w1 ⟨rfl, rfl⟩)
            | (go_at_call 106; (with_reducible refine Calls.mono (KAn _).out ?_); rintro e w1 ⟨rfl, rfl⟩)
            | (go_at_call 106; (with_reducible refine Calls.mono (KMm _).out ?_); rintro e w1 ⟨rfl, rfl⟩))
          refine bodyPost_ret (v := .agg #[.string s, .int .i64 0]) (by simp [results, Tryd.results38, go_sem]) rfl ?_
          exact givesA HR.out rfl ((Below.refl _ w).alloc (Nat.le_refl _) _)
end Go.Proofs.YtoilgjlbpimcpaaDoor
