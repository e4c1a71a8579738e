/- The other program's WordPos. -/
import Derived.Test.YtoilgjlbpimcpaaDoorZx
import Derived.Test.YtoilgjlbpimcpaaDoorZf
import Derived.BigQuiet
namespace Go.Proofs.YtoilgjlbpimcpaaDoor
open Go.RowKit Go.Shelf Tx
set_option linter.unusedVariables false
set_option maxRecDepth 100000

theorem toList_bts' (s : ByteArray) : s.toList = bts s := by simp [bts, ByteArray.toList_eq]
set_option maxHeartbeats 4000000 in
theorem RWordPos_any (p s : ByteArray) (n : Int) (w : World) (hsp : p.size ≤ maxLen) (hss : s.size ≤ maxLen) (hn2 : n ≤ 9223372036854775807) :
    Calls Tryd.prog 71 #[.string p, .string s, .int .i64 n] w (GivesM w (wordPosR (bts p) (bts s) n)) := by
  have KVp := fun (W : World) => Lib.hid (RValid_any p W hsp)
  have KVs := fun (W : World) => Lib.hid (RValid_any s W hss)
  have KAn := fun (W : World) => Lib.hid (Rwhole0_any n 1 W)
  cases hv0 : validL (bts p) with
  | false =>
    rw [hv0] at KVp
    have HR := Lib.hid (show wordPosR (bts p) (bts s) n = (0, 1) by unfold wordPosR guardN; simp only [hv0, Bool.and_false, Bool.false_and, Bool.true_and, Bool.and_true]; rfl)
    clear hv0
    go_enter Tryd.func71, Tryd.ntmps71
    go_wp2_with (first
      | (go_at_call 32; (with_reducible refine Calls.mono (KVp _).out ?_); rintro e w1 ⟨rfl, rfl⟩))
    refine bodyPost_ret (v := .agg #[.int .i64 0, .int .i64 1]) (by simp [results, Tryd.results71, go_sem]) rfl ?_
    exact givesM HR.out ((Below.refl _ w).alloc (Nat.le_refl _) _)
  | true =>
    rw [hv0] at KVp
    cases hv1 : validL (bts s) with
    | false =>
      rw [hv1] at KVs
      have HR := Lib.hid (show wordPosR (bts p) (bts s) n = (0, 1) by unfold wordPosR guardN; simp only [hv0, hv1, Bool.and_false, Bool.false_and, Bool.true_and, Bool.and_true]; rfl)
      clear hv0 hv1
      go_enter Tryd.func71, Tryd.ntmps71
      go_wp2_with (first
        | (go_at_call 32; (with_reducible refine Calls.mono (KVp _).out ?_); rintro e w1 ⟨rfl, rfl⟩)
        | (go_at_call 32; (with_reducible refine Calls.mono (KVs _).out ?_); rintro e w1 ⟨rfl, rfl⟩))
      refine bodyPost_ret (v := .agg #[.int .i64 0, .int .i64 1]) (by simp [results, Tryd.results71, go_sem]) rfl ?_
      exact givesM HR.out ((Below.refl _ w).alloc (Nat.le_refl _) _)
    | true =>
      rw [hv1] at KVs
      cases hv2 : decide (1 ≤ n) with
      | false =>
        rw [hv2] at KAn
        have HR := Lib.hid (show wordPosR (bts p) (bts s) n = (0, 1) by unfold wordPosR guardN; simp only [hv0, hv1, hv2, Bool.and_false, Bool.false_and, Bool.true_and, Bool.and_true]; rfl)
        clear hv0 hv1 hv2
        go_enter Tryd.func71, Tryd.ntmps71
        go_wp2_with (first
          | (go_at_call 32; (with_reducible refine Calls.mono (KVp _).out ?_); rintro e w1 ⟨rfl, rfl⟩)
          | (go_at_call 32; (with_reducible refine Calls.mono (KVs _).out ?_); rintro e w1 ⟨rfl, rfl⟩)
          | (go_at_call 106; (with_reducible refine Calls.mono (KAn _).out ?_); rintro e w1 ⟨rfl, rfl⟩))
        refine bodyPost_ret (v := .agg #[.int .i64 0, .int .i64 1]) (by simp [results, Tryd.results71, go_sem]) rfl ?_
        exact givesM HR.out ((Below.refl _ w).alloc (Nat.le_refl _) _)
      | true =>
        rw [hv2] at KAn
        have hlen := valid_le hv0
        have hlen2 := valid_le hv1
        have hn := of_decide_eq_true hv2
        have KP := fun W => Lib.hid (Spans_any p W (by omega))
        have KS := fun W => Lib.hid (Spans_any s W (by omega))
        obtain ⟨a, ha⟩ : ∃ a : Nat, n = (a : Int) + 1 := ⟨(n - 1).toNat, by omega⟩
        subst ha
        have HR0 := Lib.hid (show wordPosR (bts p) (bts s) ((a : Int) + 1) = (fromW (wordsL (bts p)) (wordsL (bts s)) (a : Int) + 1, 0) by unfold wordPosR guardN; rw [hv0, hv1, hv2, show (a : Int) + 1 - 1 = (a : Int) by omega]; rfl)
        have hpl := spans_length (bts p)
        have hsl := spans_length (bts s)
        rw [bts_length] at hpl hsl
        have hWP := wordsL_length (bts p)
        have hWS := wordsL_length (bts s)
        obtain ⟨k, hk⟩ : ∃ k, (spans (bts p)).length = k := ⟨_, rfl⟩
        obtain ⟨m, hm⟩ : ∃ m, (spans (bts s)).length = m := ⟨_, rfl⟩
        rw [hk] at hpl hWP
        rw [hm] at hsl hWS
        have HKL := Lib.hid hk
        have HML := Lib.hid hm
        have HWP := Lib.hid hWP
        have HWS := Lib.hid hWS
        have hwa : IntKind.i64.wrap ((a : Int) + 1 - 1) = (a : Int) := by rw [show (a : Int) + 1 - 1 = (a : Int) by omega]; exact IntWalk.i64_in _ (by omega)
        have hk1 : k ≤ 1001 := by omega
        have hm1 : m ≤ 1001 := by omega
        have hwa2 : IntKind.i64.wrap (a : Int) = (a : Int) := IntWalk.i64_in _ (by omega)
        clear hpl hsl hWP hWS hk hm hlen hlen2 hv0 hv1 hv2 hn hsp hss
        have hmix : Tryd.prog.follows .mixedOrders = true := by kernel_rfl
        by_cases hstop : (m : Int) ≤ (a : Int) ∨ k = 0 ∨ (m : Int) - (k : Int) < (a : Int)
        · have HR := Lib.hid (show wordPosR (bts p) (bts s) ((a : Int) + 1) = (0, 0) by
            rw [HR0.out]
            rcases hstop with h | h | h
            · by_cases hk0 : k = 0
              · rw [fromW_nil (wordsL_nil (by rw [HKL.out]; exact hk0))]; rfl
              · rw [fromW_stop (by rw [HWP.out, HWS.out]; omega)]; rfl
            · rw [fromW_nil (wordsL_nil (by rw [HKL.out]; exact h))]; rfl
            · rw [fromW_stop (by rw [HWP.out, HWS.out]; omega)]; rfl)
          by_cases hA : (a : Int) < (m : Int)
          · by_cases hK0 : (0 : Int) < (k : Int)
            · have hC : ¬ (k : Int) ≤ (m : Int) - (a : Int) := by omega
              have hw1 : IntKind.i64.wrap ((m : Int) - (a : Int)) = (m : Int) - (a : Int) := IntWalk.i64_in _ (by omega)
              clear hstop hn2
              go_enter Tryd.func71, Tryd.ntmps71
              go_wp2_with (first
                | (go_at_call 32; (with_reducible refine Calls.mono (KVp _).out ?_); rintro e w1 ⟨rfl, rfl⟩)
                | (go_at_call 32; (with_reducible refine Calls.mono (KVs _).out ?_); rintro e w1 ⟨rfl, rfl⟩)
                | (go_at_call 106; (with_reducible refine Calls.mono (KAn _).out ?_); rintro e w1 ⟨rfl, rfl⟩)
                | (go_at_call 134; (with_reducible refine Calls.mono (KP _).out ?_); rintro e w4 ⟨vp, rfl, hsp, hb4⟩; have HB4 := Lib.hid ((nbB_new 49 w).step hb4); obtain ⟨aop, capp, rfl⟩ := sps_shape hsp; clear hsp; rw [HKL.out]; clear hb4)
                | (go_at_call 134; (with_reducible refine Calls.mono (KS _).out ?_); rintro e w5 ⟨vs, rfl, hss2, hb5⟩; have HB5 := Lib.hid (HB4.out.step hb5); obtain ⟨p1, p2, f1, f2⟩ := HB5.out.facts; obtain ⟨aos, caps, rfl⟩ := sps_shape hss2; clear hss2; rw [HML.out]; clear hb5))
              go_loopw [9] (fun v wr => v = .int .i64 (a : Int) ∧ Hid (wr = w5)) (fun _ _ => 0)
              case atStart => first | exact ⟨rfl, Lib.hid rfl⟩ | exact ⟨by go_num, Lib.hid rfl⟩
              case round =>
                obtain ⟨rfl, hw⟩ := hrel
                have := hw.out
                subst this
                go_wp2
                refine bodyPost_ret (v := .agg #[.int .i64 0, .int .i64 0]) (by simp [results, Tryd.results71, go_sem, p1, p2]) rfl ?_
                exact givesM HR.out (HB5.out.fin _ _)
            · clear hstop hn2
              go_enter Tryd.func71, Tryd.ntmps71
              go_wp2_with (first
                | (go_at_call 32; (with_reducible refine Calls.mono (KVp _).out ?_); rintro e w1 ⟨rfl, rfl⟩)
                | (go_at_call 32; (with_reducible refine Calls.mono (KVs _).out ?_); rintro e w1 ⟨rfl, rfl⟩)
                | (go_at_call 106; (with_reducible refine Calls.mono (KAn _).out ?_); rintro e w1 ⟨rfl, rfl⟩)
                | (go_at_call 134; (with_reducible refine Calls.mono (KP _).out ?_); rintro e w4 ⟨vp, rfl, hsp, hb4⟩; have HB4 := Lib.hid ((nbB_new 49 w).step hb4); obtain ⟨aop, capp, rfl⟩ := sps_shape hsp; clear hsp; rw [HKL.out]; clear hb4)
                | (go_at_call 134; (with_reducible refine Calls.mono (KS _).out ?_); rintro e w5 ⟨vs, rfl, hss2, hb5⟩; have HB5 := Lib.hid (HB4.out.step hb5); obtain ⟨p1, p2, f1, f2⟩ := HB5.out.facts; obtain ⟨aos, caps, rfl⟩ := sps_shape hss2; clear hss2; rw [HML.out]; clear hb5))
              go_loopw [9] (fun v wr => v = .int .i64 (a : Int) ∧ Hid (wr = w5)) (fun _ _ => 0)
              case atStart => first | exact ⟨rfl, Lib.hid rfl⟩ | exact ⟨by go_num, Lib.hid rfl⟩
              case round =>
                obtain ⟨rfl, hw⟩ := hrel
                have := hw.out
                subst this
                go_wp2
                refine bodyPost_ret (v := .agg #[.int .i64 0, .int .i64 0]) (by simp [results, Tryd.results71, go_sem, p1, p2]) rfl ?_
                exact givesM HR.out (HB5.out.fin _ _)
          · clear hstop hn2
            go_enter Tryd.func71, Tryd.ntmps71
            go_wp2_with (first
              | (go_at_call 32; (with_reducible refine Calls.mono (KVp _).out ?_); rintro e w1 ⟨rfl, rfl⟩)
              | (go_at_call 32; (with_reducible refine Calls.mono (KVs _).out ?_); rintro e w1 ⟨rfl, rfl⟩)
              | (go_at_call 106; (with_reducible refine Calls.mono (KAn _).out ?_); rintro e w1 ⟨rfl, rfl⟩)
              | (go_at_call 134; (with_reducible refine Calls.mono (KP _).out ?_); rintro e w4 ⟨vp, rfl, hsp, hb4⟩; have HB4 := Lib.hid ((nbB_new 49 w).step hb4); obtain ⟨aop, capp, rfl⟩ := sps_shape hsp; clear hsp; rw [HKL.out]; clear hb4)
              | (go_at_call 134; (with_reducible refine Calls.mono (KS _).out ?_); rintro e w5 ⟨vs, rfl, hss2, hb5⟩; have HB5 := Lib.hid (HB4.out.step hb5); obtain ⟨p1, p2, f1, f2⟩ := HB5.out.facts; obtain ⟨aos, caps, rfl⟩ := sps_shape hss2; clear hss2; rw [HML.out]; clear hb5))
            go_loopw [9] (fun v wr => v = .int .i64 (a : Int) ∧ Hid (wr = w5)) (fun _ _ => 0)
            case atStart => first | exact ⟨rfl, Lib.hid rfl⟩ | exact ⟨by go_num, Lib.hid rfl⟩
            case round =>
              obtain ⟨rfl, hw⟩ := hrel
              have := hw.out
              subst this
              go_wp2
              refine bodyPost_ret (v := .agg #[.int .i64 0, .int .i64 0]) (by simp [results, Tryd.results71, go_sem, p1, p2]) rfl ?_
              exact givesM HR.out (HB5.out.fin _ _)
        · have hA : a < m := by omega
          have hK0 : 0 < k := by omega
          have HPN := Lib.hid (show wordsL (bts p) ≠ [] by intro e; have := HWP.out; rw [e] at this; simp at this; omega)
          clear hstop hn2
          go_enter Tryd.func71, Tryd.ntmps71
          go_wp2_with (first
            | (go_at_call 32; (with_reducible refine Calls.mono (KVp _).out ?_); rintro e w1 ⟨rfl, rfl⟩)
            | (go_at_call 32; (with_reducible refine Calls.mono (KVs _).out ?_); rintro e w1 ⟨rfl, rfl⟩)
            | (go_at_call 106; (with_reducible refine Calls.mono (KAn _).out ?_); rintro e w1 ⟨rfl, rfl⟩)
            | (go_at_call 134; (with_reducible refine Calls.mono (KP _).out ?_); rintro e w4 ⟨vp, rfl, hsp, hb4⟩; have HB4 := Lib.hid ((nbB_new 49 w).step hb4); obtain ⟨g, cap, hvp, hgl, hcp⟩ := sps_cells hsp (by intro e; have := HKL.out; rw [e] at this; simp at this; omega); rw [HKL.out] at hvp; subst hvp; have HCP := Lib.hid hcp; have HGL := Lib.hid hgl; clear hsp hcp hgl; clear hb4)
            | (go_at_call 134; (with_reducible refine Calls.mono (KS _).out ?_); rintro e w5 ⟨vs, rfl, hss2, hb5⟩; have HB5 := Lib.hid (HB4.out.step hb5); obtain ⟨gs, caps, hvs, hgsl, hcs⟩ := sps_cells hss2 (by intro e; have := HML.out; rw [e] at this; simp at this; omega); rw [HML.out] at hvs; subst hvs; have HCS := Lib.hid hcs; have HCP5 := Lib.hid (show ∀ (i : Nat) (q : Nat × Nat), (spans (bts p))[i]? = some q → w5.cell? ⟨g, i * 2, none⟩ = some (.int .i64 (q.1 : Int)) ∧ w5.cell? ⟨g, i * 2 + 1, none⟩ = some (.int .i64 (q.2 : Int)) from fun i q hq => ⟨(hb5.cell (p := ⟨g, i * 2, none⟩) HGL.out).trans (HCP.out i q hq).1, (hb5.cell (p := ⟨g, i * 2 + 1, none⟩) HGL.out).trans (HCP.out i q hq).2⟩); clear hss2 hcs hgsl; clear hb5))
          go_loopw [9, 10, 11] (fun v _ _ wr => ∃ (i nd : Nat), v = .int .i64 (i : Int) ∧ i ≤ m ∧ Hid (fromW (wordsL (bts p)) (wordsL (bts s)) (a : Int) = fromW (wordsL (bts p)) (wordsL (bts s)) (i : Int)) ∧ wr = w5.drewN nd) (fun v _ _ _ => m + 1 - (intOf v).toNat)
          case atStart => exact ⟨a, 0, rfl, by omega, Lib.hid rfl, rfl⟩
          case round =>
            obtain ⟨i, nd, rfl, hi, hq, rfl⟩ := hrel
            have hw1 : IntKind.i64.wrap ((m : Int) - (i : Int)) = (m : Int) - (i : Int) := IntWalk.i64_in _ (by omega)
            have hK0i : (0 : Int) < (k : Int) := by omega
            by_cases hlt : (i : Int) ≤ (m : Int) - (k : Int)
            · have him : (i : Int) < (m : Int) := by omega
              have hkc : (k : Int) ≤ (m : Int) - (i : Int) := by omega
              have HST := Lib.hid (fromW_step (P := wordsL (bts p)) (L := wordsL (bts s)) (i := i) HPN.out (by rw [HWP.out, HWS.out]; exact hlt))
              go_wp2
              go_loopw [10, 11] (fun b v wi => ∃ (j ne : Nat), v = .int .i64 (j : Int) ∧ j ≤ k ∧ b = .bool (sameW (wordsL (bts p)) (wordsL (bts s)) i j) ∧ wi = w5.drewN ne) (fun _ v _ => k - (intOf v).toNat)
              case atStart => exact ⟨0, nd, rfl, Nat.zero_le _, by rw [sameW_zero], rfl⟩
              case round =>
                obtain ⟨j, ne, rfl, hj, rfl, rfl⟩ := hrel
                by_cases hjk : j < k
                · have hjki : (j : Int) < (k : Int) := by omega
                  have hwj : IntKind.i64.wrap ((j : Int) + 1) = (j : Int) + 1 := IntWalk.i64_in _ (by omega)
                  have hwij : IntKind.i64.wrap ((i : Int) + (j : Int)) = ((i + j : Nat) : Int) := by rw [show (i : Int) + (j : Int) = ((i + j : Nat) : Int) by omega]; exact IntWalk.i64_in _ (by omega)
                  have hij : ((i + j : Nat) : Int) < (m : Int) := by omega
                  have hij0 : (0 : Int) ≤ ((i + j : Nat) : Int) := by omega
                  obtain ⟨⟨q1, q2⟩, hqq⟩ : ∃ q, (spans (bts p))[j]? = some q := ⟨_, List.getElem?_eq_getElem (by rw [HKL.out]; exact hjk)⟩
                  obtain ⟨⟨r1, r2⟩, hrr⟩ : ∃ q, (spans (bts s))[i + j]? = some q := ⟨_, List.getElem?_eq_getElem (by rw [HML.out]; omega)⟩
                  have HSS := Lib.hid (sameW_step (wordsL_get hrr) (wordsL_get hqq))
                  have hq12 := (spans_inv (bts p)).1 _ (List.mem_of_getElem? hqq)
                  have hr12 := (spans_inv (bts s)).1 _ (List.mem_of_getElem? hrr)
                  rw [bts_length] at hq12 hr12
                  dsimp only at hq12 hr12
                  have c1 := (HCP5.out j _ hqq).1
                  have c2 := (HCP5.out j _ hqq).2
                  have c3 := (HCS.out (i + j) _ hrr).1
                  have c4 := (HCS.out (i + j) _ hrr).2
                  have HX1 := Lib.hid (show bts (p.extract q1 q2) = wordL (bts p) (q1, q2) by rw [bts_extract]; unfold wordL; rw [List.drop_take])
                  have HX2 := Lib.hid (show bts (s.extract r1 r2) = wordL (bts s) (r1, r2) by rw [bts_extract]; unfold wordL; rw [List.drop_take])
                  clear hqq hrr
                  dsimp only at c1 c2 c3 c4
                  cases hb : sameW (wordsL (bts p)) (wordsL (bts s)) i j with
                  | false =>
                    have HN := Lib.hid (show sameW (wordsL (bts p)) (wordsL (bts s)) i (j + 1) = false by rw [HSS.out, hb]; rfl)
                    clear hb c1 c2 c3 c4
                    go_wp2
                    go_quiet (fail)
                    go_wp2
                    go_roundw
                    case rel => exact ⟨j + 1, _, by go_num, by omega, by rw [HN.out], rfl⟩
                    case measure => simp [intOf]; omega
                  | true =>
                    by_cases heq : wordL (bts s) (r1, r2) = wordL (bts p) (q1, q2)
                    · have HN := Lib.hid (show sameW (wordsL (bts p)) (wordsL (bts s)) i (j + 1) = true by rw [HSS.out, hb, decide_eq_true heq]; rfl)
                      have hte : (p.extract q1 q2).toList = (s.extract r1 r2).toList := by rw [toList_bts', toList_bts', HX1.out, HX2.out, heq]
                      clear hb heq
                      go_wp2
                      go_quiet (fail)
                      go_wp2
                      go_roundw
                      case rel => exact ⟨j + 1, _, by go_num, by omega, by rw [HN.out], rfl⟩
                      case measure => simp [intOf]; omega
                    · have HN := Lib.hid (show sameW (wordsL (bts p)) (wordsL (bts s)) i (j + 1) = false by rw [HSS.out, hb, decide_eq_false heq]; rfl)
                      have hte : ¬ (p.extract q1 q2).toList = (s.extract r1 r2).toList := by rw [toList_bts', toList_bts', HX1.out, HX2.out]; exact fun e => heq e.symm
                      clear hb heq
                      go_wp2
                      go_quiet (fail)
                      go_wp2
                      go_roundw
                      case rel => exact ⟨j + 1, _, by go_num, by omega, by rw [HN.out]; first | rfl | (congr 1; simpa using hte), rfl⟩
                      case measure => simp [intOf]; omega
                · obtain rfl : j = k := by omega
                  have HOC := Lib.hid (show sameW (wordsL (bts p)) (wordsL (bts s)) i j = occW (wordsL (bts p)) (wordsL (bts s)) (i : Int) by rw [← HWP.out]; exact sameW_all _ _ _)
                  have hwi : IntKind.i64.wrap ((i : Int) + 1) = (i : Int) + 1 := IntWalk.i64_in _ (by omega)
                  cases hb : occW (wordsL (bts p)) (wordsL (bts s)) (i : Int) with
                  | false =>
                    have HN := Lib.hid (show fromW (wordsL (bts p)) (wordsL (bts s)) (a : Int) = fromW (wordsL (bts p)) (wordsL (bts s)) ((i + 1 : Nat) : Int) by rw [hq.out, HST.out, hb]; rfl)
                    rw [HOC.out, hb]
                    clear hb
                    go_wp2
                    go_roundw
                    case rel => exact ⟨i + 1, _, by go_num, by omega, HN, rfl⟩
                    case measure => simp [intOf]; omega
                  | true =>
                    have HR := Lib.hid (show wordPosR (bts p) (bts s) ((a : Int) + 1) = ((i : Int) + 1, 0) by rw [HR0.out, hq.out, HST.out, hb]; rfl)
                    have HB6 := Lib.hid (HB5.out.step (below_drewN (Below.refl _ _) ne))
                    obtain ⟨p1, p2, f1, f2⟩ := HB6.out.facts
                    rw [HOC.out, hb]
                    clear hb
                    go_wp2
                    refine bodyPost_ret (v := .agg #[.int .i64 ((i : Int) + 1), .int .i64 0]) (by simp [results, Tryd.results71, go_sem, p1, p2]) rfl ?_
                    exact givesM HR.out (HB6.out.fin _ _)
            · have HR := Lib.hid (show wordPosR (bts p) (bts s) ((a : Int) + 1) = (0, 0) by rw [HR0.out, hq.out, fromW_stop (by rw [HWP.out, HWS.out]; omega)]; rfl)
              have hkc : ¬ (k : Int) ≤ (m : Int) - (i : Int) := by omega
              have HB6 := Lib.hid (HB5.out.step (below_drewN (Below.refl _ _) nd))
              obtain ⟨p1, p2, f1, f2⟩ := HB6.out.facts
              by_cases him : (i : Int) < (m : Int)
              · go_wp2
                refine bodyPost_ret (v := .agg #[.int .i64 0, .int .i64 0]) (by simp [results, Tryd.results71, go_sem, p1, p2]) rfl ?_
                exact givesM HR.out (HB6.out.fin _ _)
              · go_wp2
                refine bodyPost_ret (v := .agg #[.int .i64 0, .int .i64 0]) (by simp [results, Tryd.results71, go_sem, p1, p2]) rfl ?_
                exact givesM HR.out (HB6.out.fin _ _)

end Go.Proofs.YtoilgjlbpimcpaaDoor
