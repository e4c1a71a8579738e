/- The other program's Overlay. -/
import Derived.Test.YtoilgjlbpimcpaaDoorVc
namespace Go.Proofs.YtoilgjlbpimcpaaDoor
open Go.RowKit Go.Shelf Tx
set_option linter.unusedVariables false
set_option maxRecDepth 100000

set_option maxHeartbeats 4000000 in
theorem ROverlay_any (p s : ByteArray) (n m : Int) (c : UInt8) (w : World) (hsp : p.size ≤ maxLen) (hss : s.size ≤ maxLen) (hn : n ≤ 9223372036854775807) (hm9 : m ≤ 9223372036854775807) :
    Calls Tryd.prog 40 #[.string p, .string s, .int .i64 n, .int .i64 m, .int .u8 (c.toNat : Int)] w (GivesA w (overlayR (bts p) (bts s) n m (c.toNat : Int))) := by
  have KVp := fun (W : World) => Lib.hid (RValid_any p W hsp)
  have KVs := fun (W : World) => Lib.hid (RValid_any s W hss)
  have KAn := fun (W : World) => Lib.hid (Rwhole0_any n 1 W)
  have KMm := fun (W : World) => Lib.hid (Rwhole1_any m 0 W)
  have KPc := fun (W : World) => Lib.hid (RPad_any (c.toNat : Int) W)
  cases hv0 : validL (bts p) with
  | false =>
    rw [hv0] at KVp
    have HR := Lib.hid (show overlayR (bts p) (bts s) n m (c.toNat : Int) = ([], 1) by unfold overlayR guardR; simp only [hv0, Bool.and_false, Bool.false_and, Bool.true_and, Bool.and_true]; rfl)
    clear hv0
    go_enter Tryd.func40, Tryd.ntmps40
    go_wp2_with (first
      | (go_at_call 32; (with_reducible refine Calls.mono (KVp _).out ?_); rintro e w1 ⟨rfl, rfl⟩))
    refine bodyPost_ret (v := .agg #[.string ⟨#[]⟩, .int .i64 1]) (by simp [results, Tryd.results40, go_sem]) rfl ?_
    exact givesA HR.out rfl ((Below.refl _ w).alloc (Nat.le_refl _) _)
  | true =>
    rw [hv0] at KVp
    cases hv1 : validL (bts s) with
    | false =>
      rw [hv1] at KVs
      have HR := Lib.hid (show overlayR (bts p) (bts s) n m (c.toNat : Int) = ([], 1) by unfold overlayR guardR; simp only [hv0, hv1, Bool.and_false, Bool.false_and, Bool.true_and, Bool.and_true]; rfl)
      clear hv0 hv1
      go_enter Tryd.func40, Tryd.ntmps40
      go_wp2_with (first
        | (go_at_call 32; (with_reducible refine Calls.mono (KVp _).out ?_); rintro e w1 ⟨rfl, rfl⟩)
        | (go_at_call 32; (with_reducible refine Calls.mono (KVs _).out ?_); rintro e w1 ⟨rfl, rfl⟩))
      refine bodyPost_ret (v := .agg #[.string ⟨#[]⟩, .int .i64 1]) (by simp [results, Tryd.results40, go_sem]) rfl ?_
      exact givesA HR.out rfl ((Below.refl _ w).alloc (Nat.le_refl _) _)
    | true =>
      rw [hv1] at KVs
      cases hv2 : decide (1 ≤ n) with
      | false =>
        rw [hv2] at KAn
        have HR := Lib.hid (show overlayR (bts p) (bts s) n m (c.toNat : Int) = ([], 1) by unfold overlayR guardR; simp only [hv0, hv1, hv2, Bool.and_false, Bool.false_and, Bool.true_and, Bool.and_true]; rfl)
        clear hv0 hv1 hv2
        go_enter Tryd.func40, Tryd.ntmps40
        go_wp2_with (first
          | (go_at_call 32; (with_reducible refine Calls.mono (KVp _).out ?_); rintro e w1 ⟨rfl, rfl⟩)
          | (go_at_call 32; (with_reducible refine Calls.mono (KVs _).out ?_); rintro e w1 ⟨rfl, rfl⟩)
          | (go_at_call 106; (with_reducible refine Calls.mono (KAn _).out ?_); rintro e w1 ⟨rfl, rfl⟩))
        refine bodyPost_ret (v := .agg #[.string ⟨#[]⟩, .int .i64 1]) (by simp [results, Tryd.results40, go_sem]) rfl ?_
        exact givesA HR.out rfl ((Below.refl _ w).alloc (Nat.le_refl _) _)
      | true =>
        rw [hv2] at KAn
        cases hv3 : (decide (m = -1) || decide (0 ≤ m)) with
        | false =>
          rw [hv3] at KMm
          have HR := Lib.hid (show overlayR (bts p) (bts s) n m (c.toNat : Int) = ([], 1) by unfold overlayR guardR; simp only [hv0, hv1, hv2, hv3, Bool.and_false, Bool.false_and, Bool.true_and, Bool.and_true]; rfl)
          clear hv0 hv1 hv2 hv3
          go_enter Tryd.func40, Tryd.ntmps40
          go_wp2_with (first
            | (go_at_call 32; (with_reducible refine Calls.mono (KVp _).out ?_); rintro e w1 ⟨rfl, rfl⟩)
            | (go_at_call 32; (with_reducible refine Calls.mono (KVs _).out ?_); rintro e w1 ⟨rfl, rfl⟩)
            | (go_at_call 106; (with_reducible refine Calls.mono (KAn _).out ?_); rintro e w1 ⟨rfl, rfl⟩)
            | (go_at_call 106; (with_reducible refine Calls.mono (KMm _).out ?_); rintro e w1 ⟨rfl, rfl⟩))
          refine bodyPost_ret (v := .agg #[.string ⟨#[]⟩, .int .i64 1]) (by simp [results, Tryd.results40, go_sem]) rfl ?_
          exact givesA HR.out rfl ((Below.refl _ w).alloc (Nat.le_refl _) _)
        | true =>
          rw [hv3] at KMm
          cases hv4 : padI (c.toNat : Int) with
          | false =>
            rw [hv4] at KPc
            have HR := Lib.hid (show overlayR (bts p) (bts s) n m (c.toNat : Int) = ([], 1) by unfold overlayR guardR; simp only [hv0, hv1, hv2, hv3, hv4, Bool.and_false, Bool.false_and, Bool.true_and, Bool.and_true]; rfl)
            clear hv0 hv1 hv2 hv3 hv4
            go_enter Tryd.func40, Tryd.ntmps40
            go_wp2_with (first
              | (go_at_call 32; (with_reducible refine Calls.mono (KVp _).out ?_); rintro e w1 ⟨rfl, rfl⟩)
              | (go_at_call 32; (with_reducible refine Calls.mono (KVs _).out ?_); rintro e w1 ⟨rfl, rfl⟩)
              | (go_at_call 106; (with_reducible refine Calls.mono (KAn _).out ?_); rintro e w1 ⟨rfl, rfl⟩)
              | (go_at_call 106; (with_reducible refine Calls.mono (KMm _).out ?_); rintro e w1 ⟨rfl, rfl⟩)
              | (go_at_call 107; (with_reducible refine Calls.mono (KPc _).out ?_); rintro e w1 ⟨rfl, rfl⟩))
            refine bodyPost_ret (v := .agg #[.string ⟨#[]⟩, .int .i64 1]) (by simp [results, Tryd.results40, go_sem]) rfl ?_
            exact givesA HR.out rfl ((Below.refl _ w).alloc (Nat.le_refl _) _)
          | true =>
            rw [hv4] at KPc
            have hlen := valid_le hv0
            have hlen2 := valid_le hv1
            have h1 := of_decide_eq_true hv2
            obtain ⟨k, rfl⟩ : ∃ k : Nat, n = (k : Int) + 1 := ⟨(n - 1).toNat, by omega⟩
            have hk : ((k : Int) + 1 - 1).toNat = k := by omega
            have hw1 : IntKind.i64.wrap (k : Int) = (k : Int) := IntWalk.i64_in _ (by omega)
            have hw2 : RowKit.wrap64 (k : Int) = (k : Int) := by unfold RowKit.wrap64; omega
            by_cases hm : m = -1
            · subst hm
              have HR0 := Lib.hid (show overlayR (bts p) (bts s) ((k : Int) + 1) (-1) (c.toNat : Int) = rovB (bts p) (bts s) k p.size c by
                rw [rovB_eq (valid_clean hv0) (valid_clean hv1) (by rw [bts_length]; exact hlen2) hv4]
                unfold overlayR guardR
                rw [hv0, hv1, hv2, hv3, hv4, hk]
                simp [pb_u8, bts_length])
              by_cases hk1 : 1000 < k
              · have HR := Lib.hid (show overlayR (bts p) (bts s) ((k : Int) + 1) (-1) (c.toNat : Int) = ([], 3) by rw [HR0.out]; unfold rovB; rw [if_pos (.inl hk1)])
                clear hn hm9 hss hsp hv0 hv1 hv2 hv3 hv4 hk
                go_enter Tryd.func40, Tryd.ntmps40
                go_wp2_with (first
                  | (go_at_call 32; (with_reducible refine Calls.mono (KVp _).out ?_); rintro e w1 ⟨rfl, rfl⟩)
                  | (go_at_call 32; (with_reducible refine Calls.mono (KVs _).out ?_); rintro e w1 ⟨rfl, rfl⟩)
                  | (go_at_call 106; (with_reducible refine Calls.mono (KAn _).out ?_); rintro e w1 ⟨rfl, rfl⟩)
                  | (go_at_call 106; (with_reducible refine Calls.mono (KMm _).out ?_); rintro e w1 ⟨rfl, rfl⟩)
                  | (go_at_call 107; (with_reducible refine Calls.mono (KPc _).out ?_); rintro e w1 ⟨rfl, rfl⟩))
                refine bodyPost_ret (v := .agg #[.string ⟨#[]⟩, .int .i64 3]) (by simp [results, Tryd.results40, go_sem]) rfl ?_
                exact givesA HR.out rfl ((Below.refl _ w).alloc (Nat.le_refl _) _)
              · by_cases hl1 : 1000 < p.size
                · exfalso; omega
                · obtain ⟨⟨rl, rk⟩, hrr⟩ : ∃ r, overlayR (bts p) (bts s) ((k : Int) + 1) (-1) (c.toNat : Int) = r := ⟨_, rfl⟩
                  have HRR := Lib.hid hrr
                  have HRS := Lib.hid (show outR (rfit (bts s) k c ++ rfit (bts p) p.size c ++ (bts s).drop (k + p.size)) = (rl, rk) by rw [← hrr, HR0.out]; unfold rovB; rw [if_neg (by omega)])
                  clear hrr
                  have KF1 := fun W => Lib.hid (Rfit_any s k c W hlen2 (by omega))
                  have KF2 := fun W => Lib.hid (Rfit_any p p.size c W hlen (by omega))
                  have HL1 := Lib.hid (show (rfit (bts s) k c).length = k by rw [rfit_eq c (by omega), fitL_length])
                  have HL2 := Lib.hid (show (rfit (bts p) p.size c).length = p.size by rw [rfit_eq c (by omega), fitL_length])
                  clear hn hm9 hss hsp hv0 hv1 hv2 hv3 hv4 hk
                  by_cases hks : k + p.size < s.size
                  · have hks2 : (k : Int) + (p.size : Int) < (s.size : Int) := by omega
                    have HX := Lib.hid (show bts (s.extract (k + p.size) s.size) = (bts s).drop (k + p.size) by rw [bts_extract]; exact List.take_of_length_le (by rw [List.length_drop, bts_length]; omega))
                    have HR := Lib.hid (show outR (rfit (bts s) k c ++ rfit (bts p) p.size c ++ bts (s.extract (k + p.size) s.size)) = (rl, rk) by rw [HX.out]; exact HRS.out)
                    have HL3 := Lib.hid (show (bts (s.extract (k + p.size) s.size)).length = s.size - (k + p.size) by rw [HX.out, List.length_drop, bts_length])
                    have hkt : ((k : Int) + (p.size : Int)).toNat = k + p.size := by omega
                    go_enter Tryd.func40, Tryd.ntmps40
                    go_wp2_with (first
                      | (go_at_call 32; (with_reducible refine Calls.mono (KVp _).out ?_); rintro e w1 ⟨rfl, rfl⟩)
                      | (go_at_call 32; (with_reducible refine Calls.mono (KVs _).out ?_); rintro e w1 ⟨rfl, rfl⟩)
                      | (go_at_call 106; (with_reducible refine Calls.mono (KAn _).out ?_); rintro e w1 ⟨rfl, rfl⟩)
                      | (go_at_call 106; (with_reducible refine Calls.mono (KMm _).out ?_); rintro e w1 ⟨rfl, rfl⟩)
                      | (go_at_call 107; (with_reducible refine Calls.mono (KPc _).out ?_); rintro e w1 ⟨rfl, rfl⟩)
                      | (go_at_call 109; (with_reducible refine Calls.mono (KF1 _).out ?_); clear KF1; rintro e w4 ⟨v1, rfl, hbr1, hb1⟩; have HB1 := Lib.hid ((sbB_new w).step hb1); have HQ1 := Lib.hid (hbr1.out.low (B' := w.heap.size + 1) (by simp)); clear hbr1 hb1)
                      | (go_at_call 109; (with_reducible refine Calls.mono (KF2 _).out ?_); rintro e w5 ⟨v2, rfl, hbr2, hb2⟩; have HB2 := Lib.hid (HB1.out.step hb2); have HS1 := Lib.hid (HQ1.out.below hb2); have HS2 := Lib.hid hbr2.out.src; clear hbr2 hb2)
                      | (at_builtin; refine wpList_br rfl _ _ 89 rfl (w.heap.size + 1) _ _ (rfit (bts s) k c) (rfit (bts p) p.size c) rfl rfl HS1.out HS2.out (by rw [HL1.out, HL2.out]; omega) HB2.out.le ?_; intro v3 w6 hbr3 hg3; have HB3 := Lib.hid (HB2.out.grown hg3 HS1.out.own); have HBR3 := Lib.hid hbr3; obtain ⟨ao, cp, rfl⟩ := hbr3.shape (n := k + p.size) (by rw [List.length_append, HL1.out, HL2.out]); clear hbr3 hg3)
                      | (at_builtin; refine wpList_br rfl _ _ 9 rfl (w.heap.size + 1) _ (.string (s.extract (k + p.size) s.size)) (rfit (bts s) k c ++ rfit (bts p) p.size c) (bts (s.extract (k + p.size) s.size)) rfl rfl HBR3.out (src_str _ _) (by rw [List.length_append, HL1.out, HL2.out, HL3.out]; omega) HB3.out.le ?_; intro v4 w7 hbr4 hg4; have HB4 := Lib.hid (HB3.out.grown hg4 HBR3.out.own); have KO0 := Rout_any v4 _ w7 hbr4.rd (by rw [List.length_append, List.length_append, HL1.out, HL2.out, HL3.out]; omega); rw [HR.out] at KO0; have KO := Lib.hid KO0; clear hbr4 hg4 KO0)
                      | (go_at_call 108; refine Calls.mono KO.out ?_; rintro e w8 ⟨t, rfl, ht, hb5⟩; have HB5 := Lib.hid (HB4.out.step hb5); obtain ⟨p1, p2, f1, f2⟩ := HB5.out.facts; clear hb5))
                    refine bodyPost_ret (v := .agg #[.string t, .int .i64 rk]) (by simp [results, Tryd.results40, go_sem, p1, p2]) rfl ?_
                    rw [HRR.out]
                    exact ⟨t, rfl, ht, HB5.out.fin _ _⟩
                  · have hks2 : ¬ (k : Int) + (p.size : Int) < (s.size : Int) := by omega
                    have HX := Lib.hid (show (bts s).drop (k + p.size) = [] from List.drop_of_length_le (by rw [bts_length]; omega))
                    have HR := Lib.hid (show outR (rfit (bts s) k c ++ rfit (bts p) p.size c) = (rl, rk) by have h := HRS.out; rw [HX.out, List.append_nil] at h; exact h)
                    go_enter Tryd.func40, Tryd.ntmps40
                    go_wp2_with (first
                      | (go_at_call 32; (with_reducible refine Calls.mono (KVp _).out ?_); rintro e w1 ⟨rfl, rfl⟩)
                      | (go_at_call 32; (with_reducible refine Calls.mono (KVs _).out ?_); rintro e w1 ⟨rfl, rfl⟩)
                      | (go_at_call 106; (with_reducible refine Calls.mono (KAn _).out ?_); rintro e w1 ⟨rfl, rfl⟩)
                      | (go_at_call 106; (with_reducible refine Calls.mono (KMm _).out ?_); rintro e w1 ⟨rfl, rfl⟩)
                      | (go_at_call 107; (with_reducible refine Calls.mono (KPc _).out ?_); rintro e w1 ⟨rfl, rfl⟩)
                      | (go_at_call 109; (with_reducible refine Calls.mono (KF1 _).out ?_); clear KF1; rintro e w4 ⟨v1, rfl, hbr1, hb1⟩; have HB1 := Lib.hid ((sbB_new w).step hb1); have HQ1 := Lib.hid (hbr1.out.low (B' := w.heap.size + 1) (by simp)); clear hbr1 hb1)
                      | (go_at_call 109; (with_reducible refine Calls.mono (KF2 _).out ?_); rintro e w5 ⟨v2, rfl, hbr2, hb2⟩; have HB2 := Lib.hid (HB1.out.step hb2); have HS1 := Lib.hid (HQ1.out.below hb2); have HS2 := Lib.hid hbr2.out.src; clear hbr2 hb2)
                      | (at_builtin; refine wpList_br rfl _ _ 89 rfl (w.heap.size + 1) _ _ (rfit (bts s) k c) (rfit (bts p) p.size c) rfl rfl HS1.out HS2.out (by rw [HL1.out, HL2.out]; omega) HB2.out.le ?_; intro v3 w6 hbr3 hg3; have HB3 := Lib.hid (HB2.out.grown hg3 HS1.out.own); have HBR3 := Lib.hid hbr3; have KO0 := Rout_any v3 _ w6 hbr3.rd (by rw [List.length_append, HL1.out, HL2.out]; omega); rw [HR.out] at KO0; have KO := Lib.hid KO0; clear KO0; obtain ⟨ao, cp, rfl⟩ := hbr3.shape (n := k + p.size) (by rw [List.length_append, HL1.out, HL2.out]); clear hbr3 hg3)
                      | (go_at_call 108; refine Calls.mono KO.out ?_; rintro e w8 ⟨t, rfl, ht, hb5⟩; have HB5 := Lib.hid (HB3.out.step hb5); obtain ⟨p1, p2, f1, f2⟩ := HB5.out.facts; clear hb5))
                    refine bodyPost_ret (v := .agg #[.string t, .int .i64 rk]) (by simp [results, Tryd.results40, go_sem, p1, p2]) rfl ?_
                    rw [HRR.out]
                    exact ⟨t, rfl, ht, HB5.out.fin _ _⟩
            · have h0 : 0 ≤ m := by
                rw [decide_eq_false hm, Bool.false_or] at hv3
                exact of_decide_eq_true hv3
              obtain ⟨j, rfl⟩ := Int.eq_ofNat_of_zero_le h0
              have hmb : ((j : Int) == -1) = false := by simp
              have HR0 := Lib.hid (show overlayR (bts p) (bts s) ((k : Int) + 1) (j : Int) (c.toNat : Int) = rovB (bts p) (bts s) k j c by
                rw [rovB_eq (valid_clean hv0) (valid_clean hv1) (by rw [bts_length]; exact hlen2) hv4]
                unfold overlayR guardR
                rw [hv0, hv1, hv2, hv3, hv4, hk]
                rw [if_neg hm, Int.toNat_natCast, pb_u8] <;> rfl)
              by_cases hk1 : 1000 < k
              · have HR := Lib.hid (show overlayR (bts p) (bts s) ((k : Int) + 1) (j : Int) (c.toNat : Int) = ([], 3) by rw [HR0.out]; unfold rovB; rw [if_pos (.inl hk1)])
                clear hm hn hm9 hss hsp hv0 hv1 hv2 hv3 hv4 hk
                go_enter Tryd.func40, Tryd.ntmps40
                go_wp2_with (first
                  | (go_at_call 32; (with_reducible refine Calls.mono (KVp _).out ?_); rintro e w1 ⟨rfl, rfl⟩)
                  | (go_at_call 32; (with_reducible refine Calls.mono (KVs _).out ?_); rintro e w1 ⟨rfl, rfl⟩)
                  | (go_at_call 106; (with_reducible refine Calls.mono (KAn _).out ?_); rintro e w1 ⟨rfl, rfl⟩)
                  | (go_at_call 106; (with_reducible refine Calls.mono (KMm _).out ?_); rintro e w1 ⟨rfl, rfl⟩)
                  | (go_at_call 107; (with_reducible refine Calls.mono (KPc _).out ?_); rintro e w1 ⟨rfl, rfl⟩))
                refine bodyPost_ret (v := .agg #[.string ⟨#[]⟩, .int .i64 3]) (by simp [results, Tryd.results40, go_sem]) rfl ?_
                exact givesA HR.out rfl ((Below.refl _ w).alloc (Nat.le_refl _) _)
              · by_cases hl1 : 1000 < j
                · have HR := Lib.hid (show overlayR (bts p) (bts s) ((k : Int) + 1) (j : Int) (c.toNat : Int) = ([], 3) by rw [HR0.out]; unfold rovB; rw [if_pos (.inr hl1)])
                  clear hm hn hm9 hss hsp hv0 hv1 hv2 hv3 hv4 hk
                  go_enter Tryd.func40, Tryd.ntmps40
                  go_wp2_with (first
                    | (go_at_call 32; (with_reducible refine Calls.mono (KVp _).out ?_); rintro e w1 ⟨rfl, rfl⟩)
                    | (go_at_call 32; (with_reducible refine Calls.mono (KVs _).out ?_); rintro e w1 ⟨rfl, rfl⟩)
                    | (go_at_call 106; (with_reducible refine Calls.mono (KAn _).out ?_); rintro e w1 ⟨rfl, rfl⟩)
                    | (go_at_call 106; (with_reducible refine Calls.mono (KMm _).out ?_); rintro e w1 ⟨rfl, rfl⟩)
                    | (go_at_call 107; (with_reducible refine Calls.mono (KPc _).out ?_); rintro e w1 ⟨rfl, rfl⟩))
                  refine bodyPost_ret (v := .agg #[.string ⟨#[]⟩, .int .i64 3]) (by simp [results, Tryd.results40, go_sem]) rfl ?_
                  exact givesA HR.out rfl ((Below.refl _ w).alloc (Nat.le_refl _) _)
                · obtain ⟨⟨rl, rk⟩, hrr⟩ : ∃ r, overlayR (bts p) (bts s) ((k : Int) + 1) (j : Int) (c.toNat : Int) = r := ⟨_, rfl⟩
                  have HRR := Lib.hid hrr
                  have HRS := Lib.hid (show outR (rfit (bts s) k c ++ rfit (bts p) j c ++ (bts s).drop (k + j)) = (rl, rk) by rw [← hrr, HR0.out]; unfold rovB; rw [if_neg (by omega)])
                  clear hrr
                  have KF1 := fun W => Lib.hid (Rfit_any s k c W hlen2 (by omega))
                  have KF2 := fun W => Lib.hid (Rfit_any p j c W hlen (by omega))
                  have HL1 := Lib.hid (show (rfit (bts s) k c).length = k by rw [rfit_eq c (by omega), fitL_length])
                  have HL2 := Lib.hid (show (rfit (bts p) j c).length = j by rw [rfit_eq c (by omega), fitL_length])
                  clear hm hn hm9 hss hsp hv0 hv1 hv2 hv3 hv4 hk
                  by_cases hks : k + j < s.size
                  · have hks2 : (k : Int) + (j : Int) < (s.size : Int) := by omega
                    have HX := Lib.hid (show bts (s.extract (k + j) s.size) = (bts s).drop (k + j) by rw [bts_extract]; exact List.take_of_length_le (by rw [List.length_drop, bts_length]; omega))
                    have HR := Lib.hid (show outR (rfit (bts s) k c ++ rfit (bts p) j c ++ bts (s.extract (k + j) s.size)) = (rl, rk) by rw [HX.out]; exact HRS.out)
                    have HL3 := Lib.hid (show (bts (s.extract (k + j) s.size)).length = s.size - (k + j) by rw [HX.out, List.length_drop, bts_length])
                    have hkt : ((k : Int) + (j : Int)).toNat = k + j := by omega
                    go_enter Tryd.func40, Tryd.ntmps40
                    go_wp2_with (first
                      | (go_at_call 32; (with_reducible refine Calls.mono (KVp _).out ?_); rintro e w1 ⟨rfl, rfl⟩)
                      | (go_at_call 32; (with_reducible refine Calls.mono (KVs _).out ?_); rintro e w1 ⟨rfl, rfl⟩)
                      | (go_at_call 106; (with_reducible refine Calls.mono (KAn _).out ?_); rintro e w1 ⟨rfl, rfl⟩)
                      | (go_at_call 106; (with_reducible refine Calls.mono (KMm _).out ?_); rintro e w1 ⟨rfl, rfl⟩)
                      | (go_at_call 107; (with_reducible refine Calls.mono (KPc _).out ?_); rintro e w1 ⟨rfl, rfl⟩)
                      | (go_at_call 109; (with_reducible refine Calls.mono (KF1 _).out ?_); clear KF1; rintro e w4 ⟨v1, rfl, hbr1, hb1⟩; have HB1 := Lib.hid ((sbB_new w).step hb1); have HQ1 := Lib.hid (hbr1.out.low (B' := w.heap.size + 1) (by simp)); clear hbr1 hb1)
                      | (go_at_call 109; (with_reducible refine Calls.mono (KF2 _).out ?_); rintro e w5 ⟨v2, rfl, hbr2, hb2⟩; have HB2 := Lib.hid (HB1.out.step hb2); have HS1 := Lib.hid (HQ1.out.below hb2); have HS2 := Lib.hid hbr2.out.src; clear hbr2 hb2)
                      | (at_builtin; refine wpList_br rfl _ _ 89 rfl (w.heap.size + 1) _ _ (rfit (bts s) k c) (rfit (bts p) j c) rfl rfl HS1.out HS2.out (by rw [HL1.out, HL2.out]; omega) HB2.out.le ?_; intro v3 w6 hbr3 hg3; have HB3 := Lib.hid (HB2.out.grown hg3 HS1.out.own); have HBR3 := Lib.hid hbr3; obtain ⟨ao, cp, rfl⟩ := hbr3.shape (n := k + j) (by rw [List.length_append, HL1.out, HL2.out]); clear hbr3 hg3)
                      | (at_builtin; refine wpList_br rfl _ _ 9 rfl (w.heap.size + 1) _ (.string (s.extract (k + j) s.size)) (rfit (bts s) k c ++ rfit (bts p) j c) (bts (s.extract (k + j) s.size)) rfl rfl HBR3.out (src_str _ _) (by rw [List.length_append, HL1.out, HL2.out, HL3.out]; omega) HB3.out.le ?_; intro v4 w7 hbr4 hg4; have HB4 := Lib.hid (HB3.out.grown hg4 HBR3.out.own); have KO0 := Rout_any v4 _ w7 hbr4.rd (by rw [List.length_append, List.length_append, HL1.out, HL2.out, HL3.out]; omega); rw [HR.out] at KO0; have KO := Lib.hid KO0; clear hbr4 hg4 KO0)
                      | (go_at_call 108; refine Calls.mono KO.out ?_; rintro e w8 ⟨t, rfl, ht, hb5⟩; have HB5 := Lib.hid (HB4.out.step hb5); obtain ⟨p1, p2, f1, f2⟩ := HB5.out.facts; clear hb5))
                    refine bodyPost_ret (v := .agg #[.string t, .int .i64 rk]) (by simp [results, Tryd.results40, go_sem, p1, p2]) rfl ?_
                    rw [HRR.out]
                    exact ⟨t, rfl, ht, HB5.out.fin _ _⟩
                  · have hks2 : ¬ (k : Int) + (j : Int) < (s.size : Int) := by omega
                    have HX := Lib.hid (show (bts s).drop (k + j) = [] from List.drop_of_length_le (by rw [bts_length]; omega))
                    have HR := Lib.hid (show outR (rfit (bts s) k c ++ rfit (bts p) j c) = (rl, rk) by have h := HRS.out; rw [HX.out, List.append_nil] at h; exact h)
                    go_enter Tryd.func40, Tryd.ntmps40
                    go_wp2_with (first
                      | (go_at_call 32; (with_reducible refine Calls.mono (KVp _).out ?_); rintro e w1 ⟨rfl, rfl⟩)
                      | (go_at_call 32; (with_reducible refine Calls.mono (KVs _).out ?_); rintro e w1 ⟨rfl, rfl⟩)
                      | (go_at_call 106; (with_reducible refine Calls.mono (KAn _).out ?_); rintro e w1 ⟨rfl, rfl⟩)
                      | (go_at_call 106; (with_reducible refine Calls.mono (KMm _).out ?_); rintro e w1 ⟨rfl, rfl⟩)
                      | (go_at_call 107; (with_reducible refine Calls.mono (KPc _).out ?_); rintro e w1 ⟨rfl, rfl⟩)
                      | (go_at_call 109; (with_reducible refine Calls.mono (KF1 _).out ?_); clear KF1; rintro e w4 ⟨v1, rfl, hbr1, hb1⟩; have HB1 := Lib.hid ((sbB_new w).step hb1); have HQ1 := Lib.hid (hbr1.out.low (B' := w.heap.size + 1) (by simp)); clear hbr1 hb1)
                      | (go_at_call 109; (with_reducible refine Calls.mono (KF2 _).out ?_); rintro e w5 ⟨v2, rfl, hbr2, hb2⟩; have HB2 := Lib.hid (HB1.out.step hb2); have HS1 := Lib.hid (HQ1.out.below hb2); have HS2 := Lib.hid hbr2.out.src; clear hbr2 hb2)
                      | (at_builtin; refine wpList_br rfl _ _ 89 rfl (w.heap.size + 1) _ _ (rfit (bts s) k c) (rfit (bts p) j c) rfl rfl HS1.out HS2.out (by rw [HL1.out, HL2.out]; omega) HB2.out.le ?_; intro v3 w6 hbr3 hg3; have HB3 := Lib.hid (HB2.out.grown hg3 HS1.out.own); have HBR3 := Lib.hid hbr3; have KO0 := Rout_any v3 _ w6 hbr3.rd (by rw [List.length_append, HL1.out, HL2.out]; omega); rw [HR.out] at KO0; have KO := Lib.hid KO0; clear KO0; obtain ⟨ao, cp, rfl⟩ := hbr3.shape (n := k + j) (by rw [List.length_append, HL1.out, HL2.out]); clear hbr3 hg3)
                      | (go_at_call 108; refine Calls.mono KO.out ?_; rintro e w8 ⟨t, rfl, ht, hb5⟩; have HB5 := Lib.hid (HB3.out.step hb5); obtain ⟨p1, p2, f1, f2⟩ := HB5.out.facts; clear hb5))
                    refine bodyPost_ret (v := .agg #[.string t, .int .i64 rk]) (by simp [results, Tryd.results40, go_sem, p1, p2]) rfl ?_
                    rw [HRR.out]
                    exact ⟨t, rfl, ht, HB5.out.fin _ _⟩
end Go.Proofs.YtoilgjlbpimcpaaDoor
