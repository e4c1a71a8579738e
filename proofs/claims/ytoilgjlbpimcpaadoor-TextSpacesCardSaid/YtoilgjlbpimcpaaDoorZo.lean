/- The other program's Space. -/
import Derived.Test.YtoilgjlbpimcpaaDoorZn
import Derived.Test.YtoilgjlbpimcpaaDoorZf
import Derived.Test.YtoilgjlbpimcpaaDoorZp
namespace Go.Proofs.YtoilgjlbpimcpaaDoor
open Go.RowKit Go.Shelf Tx
set_option linter.unusedVariables false
set_option maxRecDepth 100000

set_option maxHeartbeats 8000000 in
theorem RSpace_any (s : ByteArray) (n : Int) (c : UInt8) (w : World) (hss : s.size ≤ maxLen) (hn : n ≤ 9223372036854775807) :
    Calls Tryd.prog 70 #[.string s, .int .i64 n, .int .u8 (c.toNat : Int)] w (GivesA w (spaceR (bts s) n (c.toNat : Int))) := by
  have KVs := fun (W : World) => Lib.hid (RValid_any s W hss)
  have KAn := fun (W : World) => Lib.hid (Rwhole0_any n 0 W)
  have KPc := fun (W : World) => Lib.hid (RPad_any (c.toNat : Int) W)
  cases hv0 : validL (bts s) with
  | false =>
    rw [hv0] at KVs
    have HR := Lib.hid (show spaceR (bts s) n (c.toNat : Int) = ([], 1) by unfold spaceR guardR; simp only [hv0, Bool.and_false, Bool.false_and, Bool.true_and, Bool.and_true]; rfl)
    clear hv0
    go_enter Tryd.func70, Tryd.ntmps70
    go_wp2_with (first
      | (go_at_call 32; (with_reducible refine Calls.mono (KVs _).out ?_); rintro e w1 ⟨rfl, rfl⟩))
    refine bodyPost_ret (v := .agg #[.string ⟨#[]⟩, .int .i64 1]) (by simp [results, Tryd.results70, go_sem]) rfl ?_
    exact givesA HR.out rfl ((Below.refl _ w).alloc (Nat.le_refl _) _)
  | true =>
    rw [hv0] at KVs
    cases hv1 : decide (0 ≤ n) with
    | false =>
      rw [hv1] at KAn
      have HR := Lib.hid (show spaceR (bts s) n (c.toNat : Int) = ([], 1) by unfold spaceR guardR; simp only [hv0, hv1, Bool.and_false, Bool.false_and, Bool.true_and, Bool.and_true]; rfl)
      clear hv0 hv1
      go_enter Tryd.func70, Tryd.ntmps70
      go_wp2_with (first
        | (go_at_call 32; (with_reducible refine Calls.mono (KVs _).out ?_); rintro e w1 ⟨rfl, rfl⟩)
        | (go_at_call 106; (with_reducible refine Calls.mono (KAn _).out ?_); rintro e w1 ⟨rfl, rfl⟩))
      refine bodyPost_ret (v := .agg #[.string ⟨#[]⟩, .int .i64 1]) (by simp [results, Tryd.results70, go_sem]) rfl ?_
      exact givesA HR.out rfl ((Below.refl _ w).alloc (Nat.le_refl _) _)
    | true =>
      rw [hv1] at KAn
      cases hv2 : padI (c.toNat : Int) with
      | false =>
        rw [hv2] at KPc
        have HR := Lib.hid (show spaceR (bts s) n (c.toNat : Int) = ([], 1) by unfold spaceR guardR; simp only [hv0, hv1, hv2, Bool.and_false, Bool.false_and, Bool.true_and, Bool.and_true]; rfl)
        clear hv0 hv1 hv2
        go_enter Tryd.func70, Tryd.ntmps70
        go_wp2_with (first
          | (go_at_call 32; (with_reducible refine Calls.mono (KVs _).out ?_); rintro e w1 ⟨rfl, rfl⟩)
          | (go_at_call 106; (with_reducible refine Calls.mono (KAn _).out ?_); rintro e w1 ⟨rfl, rfl⟩)
          | (go_at_call 107; (with_reducible refine Calls.mono (KPc _).out ?_); rintro e w1 ⟨rfl, rfl⟩))
        refine bodyPost_ret (v := .agg #[.string ⟨#[]⟩, .int .i64 1]) (by simp [results, Tryd.results70, go_sem]) rfl ?_
        exact givesA HR.out rfl ((Below.refl _ w).alloc (Nat.le_refl _) _)
      | true =>
        rw [hv2] at KPc
        have hlen := valid_le hv0
        have hn0 := of_decide_eq_true hv1
        obtain ⟨N, rfl⟩ : ∃ N : Nat, n = (N : Int) := ⟨n.toNat, by omega⟩
        obtain ⟨M, hM⟩ : ∃ M, M = min N 1001 := ⟨_, rfl⟩
        have hM1 : M ≤ 1001 := by omega
        have hMi : min (N : Int) 1001 = (M : Int) := by omega
        obtain ⟨⟨rl, rk⟩, hrr⟩ : ∃ r, spaceR (bts s) (N : Int) (c.toNat : Int) = r := ⟨_, rfl⟩
        have HRR := Lib.hid hrr
        have HRa := Lib.hid (show outR (jn (bts s) M c (spans (bts s)).length) = (rl, rk) by rw [← hrr, hM]; exact space_out hv0 hv2)
        have HRe := Lib.hid (show ∀ i, 1000 < (jn (bts s) M c i).length → outR (jn (bts s) M c i) = (rl, rk) by intro i h; rw [← hrr]; rw [hM] at h ⊢; exact space_early hv0 hv2 h)
        have KS := fun W => Lib.hid (Spans_any s W (by omega))
        have hsl := spans_length (bts s)
        rw [bts_length] at hsl
        have HBD := Lib.hid (show ∀ i, (jn (bts s) M c i).length ≤ 1000000000 from fun i => Nat.le_trans jn_bd (by have h := Nat.mul_le_mul hM1 (show (spans (bts s)).length ≤ 1001 by omega); have := bts_length s; omega))
        obtain ⟨K, hK⟩ : ∃ K, K = (spans (bts s)).length := ⟨_, rfl⟩
        have HK := Lib.hid hK
        rw [← hK] at HRa hsl
        clear hv0 hv1 hv2 hn hrr hM hK
        go_enter Tryd.func70, Tryd.ntmps70
        go_wp2_with (first
          | (go_at_call 32; (with_reducible refine Calls.mono (KVs _).out ?_); rintro e w1 ⟨rfl, rfl⟩)
          | (go_at_call 106; (with_reducible refine Calls.mono (KAn _).out ?_); rintro e w1 ⟨rfl, rfl⟩)
          | (go_at_call 107; (with_reducible refine Calls.mono (KPc _).out ?_); rintro e w1 ⟨rfl, rfl⟩)
          | (go_at_call 134; (with_reducible refine Calls.mono (KS _).out ?_); rintro e w3 ⟨vs, rfl, hsp, hb1⟩; have HSB3 := Lib.hid ((sbB_new w).step hb1); have HSP := Lib.hid hsp; obtain ⟨ao, cap, rfl⟩ := sps_shape hsp; rw [← HK.out]; clear hb1 hsp))
        go_loopw [7, 9] (fun v x wr => ∃ i : Nat, x = .int .i64 i ∧ i ≤ K ∧ Hid (Br wr w3.heap.size v (jn (bts s) M c i)) ∧ Hid (Below w3.heap.size w3 wr)) (fun _ x _ => K - (intOf x).toNat)
        case atStart => exact ⟨0, rfl, Nat.zero_le _, Lib.hid (Br.nil _ _), Lib.hid (Below.refl _ _)⟩
        case round =>
          obtain ⟨i, rfl, hi, hbr, hb⟩ := hrel
          obtain ⟨ln, hln⟩ : ∃ ln, (jn (bts s) M c i).length = ln := ⟨_, rfl⟩
          have HLN := Lib.hid hln
          by_cases hstop : i < K ∧ ln ≤ 1000
          · obtain ⟨hlt, hl1⟩ := hstop
            obtain ⟨⟨a, b⟩, hp⟩ : ∃ p, (spans (bts s))[i]? = some p := ⟨_, List.getElem?_eq_getElem (by rw [← HK.out]; exact hlt)⟩
            have hpi := (spans_inv (bts s)).1 (a, b) (List.mem_of_getElem? hp)
            rw [bts_length] at hpi
            obtain ⟨hab, hbl⟩ := hpi
            dsimp only at hab hbl
            have HP := Lib.hid hp
            have HX := Lib.hid (show bts (s.extract a b) = wordL (bts s) (a, b) by rw [bts_extract]; unfold wordL; rw [List.drop_take])
            have HXL := Lib.hid (show (bts (s.extract a b)).length ≤ 1000 by rw [HX.out]; exact Nat.le_trans (wordL_le _ _) (by rw [bts_length]; omega))
            obtain ⟨g, cap', hgs, hgl, hcells⟩ := sps_cells HSP.out (by intro e; have := HK.out; rw [e] at this; simp at this; omega)
            rw [← HK.out] at hgs
            injection hgs with hao _ hcap
            subst hao
            subst hcap
            have d0 := Lib.hid (hcells i (a, b) hp).1
            have d1 := Lib.hid (hcells i (a, b) hp).2
            have HGL := Lib.hid hgl
            obtain ⟨ao7, cap7, hsh⟩ := hbr.out.shape hln
            subst hsh
            have hab2 : (a : Int) ≤ (b : Int) := by omega
            have hbl2 : (b : Int) ≤ (s.size : Int) := by omega
            have hab3 : a ≤ b := by omega
            have hiK : (i : Int) < (K : Int) := by omega
            have hlI : (ln : Int) ≤ 1000 := by omega
            have hmix : Tryd.prog.follows .mixedOrders = true := by kernel_rfl
            have hsz := hb.out.size
            clear hp hcells hln hgl
            by_cases hi0 : i = 0
            · have hii : ¬ (0 : Int) < (i : Int) := by omega
              have HNX := Lib.hid (show jn (bts s) M c (i + 1) = jn (bts s) M c i ++ wordL (bts s) (a, b) by
                subst hi0
                rw [jn_one HP.out]; rfl)
              have c0 := (hb.out.cell (p := ⟨g, i * 2, none⟩) HGL.out).trans d0.out
              have c1 := (hb.out.cell (p := ⟨g, i * 2 + 1, none⟩) HGL.out).trans d1.out
              clear hi0
              go_wp2
              go_region_law (refine step_brs rfl _ _ 9 rfl w3.heap.size _ (.string (s.extract a b)) (jn (bts s) M c i) (bts (s.extract a b)) rfl rfl (hbr.out.drew) (src_str _ _) (by have := HLN.out; have := HXL.out; omega) hsz ?_; intro v' w4 hbr' hgrow; have HBR := Lib.hid hbr'; have HB4 := Lib.hid (Below.grown hb.out.drew hgrow hsz hbr.out.own); clear hbr' hgrow)
              all_goals
                go_wp2
                go_roundw
                case rel => exact ⟨i + 1, by go_num, by omega, Lib.hid (by rw [HNX.out, ← HX.out]; exact HBR.out), HB4⟩
                case measure => simp [intOf]; omega
            · have hii : (0 : Int) < (i : Int) := by omega
              have HNX := Lib.hid (jn_next (m := M) (c := c) (by omega) HP.out)
              have KP := Lib.hid (Rpads_any w3.heap.size (.slice ao7 ln cap7) (jn (bts s) M c i) M c wr hbr.out hb.out.size (by rw [HLN.out]; omega))
              clear hi0
              go_wp2_with (first
                | (go_at_call 110; refine Calls.mono KP.out ?_; rintro e w5 ⟨v5, rfl, hbr5, hb5⟩; have HB5 := Lib.hid (hb.out.trans hb5); have hsz5 := HB5.out.size; have c0 := (HB5.out.cell (p := ⟨g, i * 2, none⟩) HGL.out).trans d0.out; have c1 := (HB5.out.cell (p := ⟨g, i * 2 + 1, none⟩) HGL.out).trans d1.out; clear hb5))
              go_region_law (refine step_brs rfl _ _ 9 rfl w3.heap.size _ (.string (s.extract a b)) (jn (bts s) M c i ++ List.replicate M c) (bts (s.extract a b)) rfl rfl (hbr5.out.drew) (src_str _ _) (by have := HLN.out; have := HXL.out; rw [List.length_append, List.length_replicate]; omega) hsz5 ?_; intro v' w4 hbr' hgrow; have HBR := Lib.hid hbr'; have HB4 := Lib.hid (Below.grown HB5.out.drew hgrow hsz5 hbr5.out.own); clear hbr' hgrow)
              all_goals
                go_wp2
                go_roundw
                case rel => exact ⟨i + 1, by go_num, by omega, Lib.hid (by rw [HNX.out, ← HX.out]; exact HBR.out), HB4⟩
                case measure => simp [intOf]; omega
          · have HR := Lib.hid (show outR (jn (bts s) M c i) = (rl, rk) by
              by_cases h : i < K
              · exact HRe.out i (by rw [HLN.out]; omega)
              · have : i = K := by omega
                rw [this]; exact HRa.out)
            have KO0 := Rout_any _ _ wr hbr.out.rd (HBD.out i)
            rw [HR.out] at KO0
            have KO := Lib.hid KO0
            have HSB := Lib.hid (HSB3.out.low hb.out (HSB3.out.le))
            obtain ⟨ao7, cap7, hsh⟩ := hbr.out.shape hln
            subst hsh
            clear KO0
            by_cases hlt : i < K
            · have hiK : (i : Int) < (K : Int) := by omega
              have hlI : ¬ (ln : Int) ≤ 1000 := by omega
              have hlI2 : (1000 : Int) < (ln : Int) := by omega
              clear hstop
              go_wp2_with (go_at_call 108; refine Calls.mono KO.out ?_; rintro e w8 ⟨t, rfl, ht, hb5⟩; have HB5 := Lib.hid (HSB.out.step hb5); obtain ⟨p1, p2, f1, f2⟩ := HB5.out.facts; clear hb5)
              refine bodyPost_ret (v := .agg #[.string t, .int .i64 rk]) (by simp [results, Tryd.results70, go_sem, p1, p2]) rfl ?_
              rw [HRR.out]
              exact ⟨t, rfl, ht, HB5.out.fin _ _⟩
            · have hiK : ¬ (i : Int) < (K : Int) := by omega
              clear hstop
              go_wp2_with (go_at_call 108; refine Calls.mono KO.out ?_; rintro e w8 ⟨t, rfl, ht, hb5⟩; have HB5 := Lib.hid (HSB.out.step hb5); obtain ⟨p1, p2, f1, f2⟩ := HB5.out.facts; clear hb5)
              refine bodyPost_ret (v := .agg #[.string t, .int .i64 rk]) (by simp [results, Tryd.results70, go_sem, p1, p2]) rfl ?_
              rw [HRR.out]
              exact ⟨t, rfl, ht, HB5.out.fin _ _⟩
end Go.Proofs.YtoilgjlbpimcpaaDoor
