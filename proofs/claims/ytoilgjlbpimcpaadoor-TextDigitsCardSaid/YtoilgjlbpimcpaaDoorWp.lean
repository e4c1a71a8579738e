/- The other program's Left, Right, Center, Copies, Reverse. -/
import Derived.Test.YtoilgjlbpimcpaaDoorVc
import Derived.Test.YtoilgjlbpimcpaaDoorTf
import Derived.Lib.Repeat
namespace Go.Proofs.YtoilgjlbpimcpaaDoor
open Go.RowKit Go.Shelf Tx
set_option linter.unusedVariables false
set_option maxRecDepth 100000

namespace Tx
theorem clean_reverse {l : List UInt8} (h : cleanL l = true) : cleanL l.reverse = true := by
  unfold cleanL at *
  rw [List.all_eq_true] at *
  intro x hx
  exact h x (List.mem_reverse.1 hx)
theorem resR_left {l : List UInt8} {n : Nat} {c : UInt8} (hv : validL l = true) (hl : l.length ≤ 1000) (hp : padI (c.toNat : Int) = true) : outR (rfit l n c) = resR shL l (n : Int) (c.toNat : Int) := by
  rw [outR_fit (valid_clean hv) hl hp]
  unfold resR
  rw [hv, hp, decide_eq_true (Int.natCast_nonneg n), pb_u8, Int.toNat_natCast]
  have e : (1000 < (n : Int)) = (1000 < n) := by apply propext; omega
  have e2 : resL shL l n c = fitL l n c := by
    by_cases h : n < l.length
    · rw [resL_eq0 h]; unfold fitL shL; rw [show n - l.length = 0 by omega]; simp
    · rw [resL_eq1 h]; unfold fitL shL; rw [List.take_of_length_le (by omega)]; simp
  simp [e, e2]
theorem resR_right0 {l : List UInt8} {n : Nat} {c : UInt8} (hv : validL l = true) (hl : l.length ≤ 1000) (hp : padI (c.toNat : Int) = true) (h : n ≤ l.length) : outR (l.drop (l.length - n)) = resR shR l (n : Int) (c.toNat : Int) := by
  rw [outR_ok (cleanL_drop (valid_clean hv) _) (by rw [List.length_drop]; omega)]
  unfold resR
  rw [hv, hp, decide_eq_true (Int.natCast_nonneg n), pb_u8, Int.toNat_natCast]
  have e : ¬ (1000 < (n : Int)) := by omega
  have e2 : resL shR l n c = l.drop (l.length - n) := by
    by_cases h : n < l.length
    · rw [resL_eq0 h]; unfold shR; rw [List.take_of_length_le (by rw [List.length_drop]; omega)]
    · have h3 : n = l.length := by omega
      rw [resL_eq1 h]; unfold shR; rw [h3]; simp
  simp [e, e2]
theorem resR_right1 {l : List UInt8} {n : Nat} {c : UInt8} (hv : validL l = true) (hl : l.length ≤ 1000) (hp : padI (c.toNat : Int) = true) (h : ¬ n ≤ l.length) : outR ([] ++ List.replicate (min n 1001 - l.length) c ++ l) = resR shR l (n : Int) (c.toNat : Int) := by
  have hc : cleanL ([] ++ List.replicate (min n 1001 - l.length) c ++ l) = true := by rw [List.nil_append, cleanL_append, clean_rep hp, valid_clean hv]; rfl
  unfold resR
  rw [hv, hp, decide_eq_true (Int.natCast_nonneg n), pb_u8, Int.toNat_natCast]
  by_cases h2 : 1000 < n
  · rw [outR_long (by simp; omega)]
    have e : (1000 < (n : Int)) := by omega
    simp [e]
  · rw [outR_ok hc (by simp; omega)]
    have e : ¬ (1000 < (n : Int)) := by omega
    have e2 : resL shR l n c = [] ++ List.replicate (min n 1001 - l.length) c ++ l := by
      rw [resL_eq1 (by omega)]; unfold shR; rw [Nat.min_eq_left (by omega)]; simp
    simp [e, e2]
theorem resR_center0 {l : List UInt8} {n : Nat} {c : UInt8} (hv : validL l = true) (hl : l.length ≤ 1000) (hp : padI (c.toNat : Int) = true) (h : n ≤ l.length) : outR ((l.drop ((l.length - n) / 2)).take n) = resR shC l (n : Int) (c.toNat : Int) := by
  rw [outR_ok (cleanL_take (cleanL_drop (valid_clean hv) _) _) (by rw [List.length_take]; omega)]
  unfold resR
  rw [hv, hp, decide_eq_true (Int.natCast_nonneg n), pb_u8, Int.toNat_natCast]
  have e : ¬ (1000 < (n : Int)) := by omega
  have e2 : resL shC l n c = (l.drop ((l.length - n) / 2)).take n := by
    by_cases h : n < l.length
    · rw [resL_eq0 h]; rfl
    · have h3 : n = l.length := by omega
      rw [resL_eq1 h]; unfold shC; rw [h3]; simp
  simp [e, e2]
theorem resR_center1 {l : List UInt8} {n : Nat} {c : UInt8} (hv : validL l = true) (hp : padI (c.toNat : Int) = true) (h : ¬ n ≤ l.length) (h2 : ¬ 1000 < n) : outR ([] ++ List.replicate ((n - l.length) / 2) c ++ l ++ List.replicate (n - l.length - (n - l.length) / 2) c) = resR shC l (n : Int) (c.toNat : Int) := by
  have hc : cleanL ([] ++ List.replicate ((n - l.length) / 2) c ++ l ++ List.replicate (n - l.length - (n - l.length) / 2) c) = true := by rw [List.nil_append, cleanL_append, cleanL_append, clean_rep hp, clean_rep hp, valid_clean hv]; rfl
  unfold resR
  rw [hv, hp, decide_eq_true (Int.natCast_nonneg n), pb_u8, Int.toNat_natCast]
  rw [outR_ok hc (by simp; omega)]
  have e : ¬ (1000 < (n : Int)) := by omega
  have e2 : resL shC l n c = [] ++ List.replicate ((n - l.length) / 2) c ++ l ++ List.replicate (n - l.length - (n - l.length) / 2) c := by
    rw [resL_eq1 (by omega)]; unfold shC; rw [List.nil_append]
  simp [e, e2]
/-- n copies. -/
def copiesR (l : List UInt8) (n : Int) : Res :=
  guardR (validL l && decide (0 ≤ n)) (if 1000 < timesS n l.length then ([], 3) else (Lib.repeatL l n.toNat, 0))
end Tx
theorem conv_br1 (s : ByteArray) (w : World) (hs : s.size ≤ 1000000000) : ∃ v w1, (convert 9 89 (.string s)).run Tryd.prog (w.alloc (.cells #[.string ⟨#[]⟩, .int .i64 0] 31)) = .ok v w1 ∧ Br w1 (w.heap.size + 1) v (bts s) ∧ SbB w w1 := by
  obtain ⟨v, w1, h1, h2, h3⟩ := conv_to_br s (w.alloc (.cells #[.string ⟨#[]⟩, .int .i64 0] 31)) hs
  rw [sbB_size] at h2
  exact ⟨v, w1, h1, h2, (sbB_new w).step h3⟩

set_option maxHeartbeats 2000000 in
theorem RLeft_any (s : ByteArray) (n : Int) (c : UInt8) (w : World) (hss : s.size ≤ maxLen) (hn : n ≤ 9223372036854775807) :
    Calls Tryd.prog 25 #[.string s, .int .i64 n, .int .u8 (c.toNat : Int)] w (GivesA w (resR shL (bts s) n (c.toNat : Int))) := by
  have KVs := fun (W : World) => Lib.hid (RValid_any s W hss)
  have KAn := fun (W : World) => Lib.hid (Rwhole0_any n 0 W)
  have KPc := fun (W : World) => Lib.hid (RPad_any (c.toNat : Int) W)
  cases hv0 : validL (bts s) with
  | false =>
    rw [hv0] at KVs
    have HR := Lib.hid (show resR shL (bts s) n (c.toNat : Int) = ([], 1) by unfold resR; simp only [hv0, Bool.and_false, Bool.false_and, Bool.true_and, Bool.and_true]; rfl)
    clear hv0
    go_enter Tryd.func25, Tryd.ntmps25
    go_wp2_with (first
      | (go_at_call 32; (with_reducible refine Calls.mono (KVs _).out ?_); rintro e w1 ⟨rfl, rfl⟩))
    refine bodyPost_ret (v := .agg #[.string ⟨#[]⟩, .int .i64 1]) (by simp [results, Tryd.results25, go_sem]) rfl ?_
    exact givesA HR.out rfl ((Below.refl _ w).alloc (Nat.le_refl _) _)
  | true =>
    rw [hv0] at KVs
    cases hv1 : decide (0 ≤ n) with
    | false =>
      rw [hv1] at KAn
      have HR := Lib.hid (show resR shL (bts s) n (c.toNat : Int) = ([], 1) by unfold resR; simp only [hv0, hv1, Bool.and_false, Bool.false_and, Bool.true_and, Bool.and_true]; rfl)
      clear hv0 hv1
      go_enter Tryd.func25, Tryd.ntmps25
      go_wp2_with (first
        | (go_at_call 32; (with_reducible refine Calls.mono (KVs _).out ?_); rintro e w1 ⟨rfl, rfl⟩)
        | (go_at_call 106; (with_reducible refine Calls.mono (KAn _).out ?_); rintro e w1 ⟨rfl, rfl⟩))
      refine bodyPost_ret (v := .agg #[.string ⟨#[]⟩, .int .i64 1]) (by simp [results, Tryd.results25, go_sem]) rfl ?_
      exact givesA HR.out rfl ((Below.refl _ w).alloc (Nat.le_refl _) _)
    | true =>
      rw [hv1] at KAn
      cases hv2 : padI (c.toNat : Int) with
      | false =>
        rw [hv2] at KPc
        have HR := Lib.hid (show resR shL (bts s) n (c.toNat : Int) = ([], 1) by unfold resR; simp only [hv0, hv1, hv2, Bool.and_false, Bool.false_and, Bool.true_and, Bool.and_true]; rfl)
        clear hv0 hv1 hv2
        go_enter Tryd.func25, Tryd.ntmps25
        go_wp2_with (first
          | (go_at_call 32; (with_reducible refine Calls.mono (KVs _).out ?_); rintro e w1 ⟨rfl, rfl⟩)
          | (go_at_call 106; (with_reducible refine Calls.mono (KAn _).out ?_); rintro e w1 ⟨rfl, rfl⟩)
          | (go_at_call 107; (with_reducible refine Calls.mono (KPc _).out ?_); rintro e w1 ⟨rfl, rfl⟩))
        refine bodyPost_ret (v := .agg #[.string ⟨#[]⟩, .int .i64 1]) (by simp [results, Tryd.results25, go_sem]) rfl ?_
        exact givesA HR.out rfl ((Below.refl _ w).alloc (Nat.le_refl _) _)
      | true =>
        rw [hv2] at KPc
        have hlen := valid_le hv0
        have hll : (bts s).length ≤ 1000 := by rw [bts_length]; exact hlen
        have h0 := of_decide_eq_true hv1
        obtain ⟨k, rfl⟩ := Int.eq_ofNat_of_zero_le h0
        obtain ⟨⟨rl, rk⟩, hrr⟩ : ∃ r, resR shL (bts s) (k : Int) (c.toNat : Int) = r := ⟨_, rfl⟩
        have HRR := Lib.hid hrr
        have KF := fun W => Lib.hid (Rfit_any s k c W hlen (by omega))
        have HRL := Lib.hid (show (rfit (bts s) k c).length ≤ 3000 by unfold rfit; split <;> simp [bts_length] <;> omega)
        have HR := Lib.hid (show outR (rfit (bts s) k c) = (rl, rk) by rw [← hrr]; exact resR_left hv0 hll hv2)
        clear hn hss hv0 hv1 hv2 hrr hll
        go_enter Tryd.func25, Tryd.ntmps25
        go_wp2_with (first
          | (go_at_call 32; (with_reducible refine Calls.mono (KVs _).out ?_); rintro e w1 ⟨rfl, rfl⟩)
          | (go_at_call 106; (with_reducible refine Calls.mono (KAn _).out ?_); rintro e w1 ⟨rfl, rfl⟩)
          | (go_at_call 107; (with_reducible refine Calls.mono (KPc _).out ?_); rintro e w1 ⟨rfl, rfl⟩)
          | (go_at_call 109; refine Calls.mono (KF _).out ?_; rintro e w4 ⟨v, rfl, hbr, hb4⟩; have HB4 := Lib.hid ((sbB_new w).step hb4); have KO0 := Rout_any v _ w4 hbr.out.rd (Nat.le_trans HRL.out (by decide)); rw [HR.out] at KO0; have KO := Lib.hid KO0; clear KO0 hb4)
          | (go_at_call 108; refine Calls.mono KO.out ?_; rintro e w8 ⟨t, rfl, ht, hb5⟩; have HB5 := Lib.hid (HB4.out.step hb5); obtain ⟨p1, p2, f1, f2⟩ := HB5.out.facts; clear hb5))
        refine bodyPost_ret (v := .agg #[.string t, .int .i64 rk]) (by simp [results, Tryd.results25, go_sem, p1, p2]) rfl ?_
        rw [HRR.out]
        exact ⟨t, rfl, ht, HB5.out.fin _ _⟩
set_option maxHeartbeats 2000000 in
theorem RRight_any (s : ByteArray) (n : Int) (c : UInt8) (w : World) (hss : s.size ≤ maxLen) (hn : n ≤ 9223372036854775807) :
    Calls Tryd.prog 26 #[.string s, .int .i64 n, .int .u8 (c.toNat : Int)] w (GivesA w (resR shR (bts s) n (c.toNat : Int))) := by
  have KVs := fun (W : World) => Lib.hid (RValid_any s W hss)
  have KAn := fun (W : World) => Lib.hid (Rwhole0_any n 0 W)
  have KPc := fun (W : World) => Lib.hid (RPad_any (c.toNat : Int) W)
  cases hv0 : validL (bts s) with
  | false =>
    rw [hv0] at KVs
    have HR := Lib.hid (show resR shR (bts s) n (c.toNat : Int) = ([], 1) by unfold resR; simp only [hv0, Bool.and_false, Bool.false_and, Bool.true_and, Bool.and_true]; rfl)
    clear hv0
    go_enter Tryd.func26, Tryd.ntmps26
    go_wp2_with (first
      | (go_at_call 32; (with_reducible refine Calls.mono (KVs _).out ?_); rintro e w1 ⟨rfl, rfl⟩))
    refine bodyPost_ret (v := .agg #[.string ⟨#[]⟩, .int .i64 1]) (by simp [results, Tryd.results26, go_sem]) rfl ?_
    exact givesA HR.out rfl ((Below.refl _ w).alloc (Nat.le_refl _) _)
  | true =>
    rw [hv0] at KVs
    cases hv1 : decide (0 ≤ n) with
    | false =>
      rw [hv1] at KAn
      have HR := Lib.hid (show resR shR (bts s) n (c.toNat : Int) = ([], 1) by unfold resR; simp only [hv0, hv1, Bool.and_false, Bool.false_and, Bool.true_and, Bool.and_true]; rfl)
      clear hv0 hv1
      go_enter Tryd.func26, Tryd.ntmps26
      go_wp2_with (first
        | (go_at_call 32; (with_reducible refine Calls.mono (KVs _).out ?_); rintro e w1 ⟨rfl, rfl⟩)
        | (go_at_call 106; (with_reducible refine Calls.mono (KAn _).out ?_); rintro e w1 ⟨rfl, rfl⟩))
      refine bodyPost_ret (v := .agg #[.string ⟨#[]⟩, .int .i64 1]) (by simp [results, Tryd.results26, go_sem]) rfl ?_
      exact givesA HR.out rfl ((Below.refl _ w).alloc (Nat.le_refl _) _)
    | true =>
      rw [hv1] at KAn
      cases hv2 : padI (c.toNat : Int) with
      | false =>
        rw [hv2] at KPc
        have HR := Lib.hid (show resR shR (bts s) n (c.toNat : Int) = ([], 1) by unfold resR; simp only [hv0, hv1, hv2, Bool.and_false, Bool.false_and, Bool.true_and, Bool.and_true]; rfl)
        clear hv0 hv1 hv2
        go_enter Tryd.func26, Tryd.ntmps26
        go_wp2_with (first
          | (go_at_call 32; (with_reducible refine Calls.mono (KVs _).out ?_); rintro e w1 ⟨rfl, rfl⟩)
          | (go_at_call 106; (with_reducible refine Calls.mono (KAn _).out ?_); rintro e w1 ⟨rfl, rfl⟩)
          | (go_at_call 107; (with_reducible refine Calls.mono (KPc _).out ?_); rintro e w1 ⟨rfl, rfl⟩))
        refine bodyPost_ret (v := .agg #[.string ⟨#[]⟩, .int .i64 1]) (by simp [results, Tryd.results26, go_sem]) rfl ?_
        exact givesA HR.out rfl ((Below.refl _ w).alloc (Nat.le_refl _) _)
      | true =>
        rw [hv2] at KPc
        have hlen := valid_le hv0
        have hll : (bts s).length ≤ 1000 := by rw [bts_length]; exact hlen
        have h0 := of_decide_eq_true hv1
        obtain ⟨k, rfl⟩ := Int.eq_ofNat_of_zero_le h0
        obtain ⟨⟨rl, rk⟩, hrr⟩ : ∃ r, resR shR (bts s) (k : Int) (c.toNat : Int) = r := ⟨_, rfl⟩
        have HRR := Lib.hid hrr
        by_cases hk : k ≤ s.size
        · have HX := Lib.hid (show bts (s.extract (s.size - k) s.size) = (bts s).drop ((bts s).length - k) by rw [bts_extract, bts_length]; exact List.take_of_length_le (by rw [List.length_drop, bts_length]; omega))
          have HR := Lib.hid (show outR (bts (s.extract (s.size - k) s.size)) = (rl, rk) by rw [← hrr, HX.out]; exact resR_right0 hv0 hll hv2 (by rw [bts_length]; exact hk))
          have hsz : (s.extract (s.size - k) s.size).size = k := by rw [size_of_bts HX.out, List.length_drop, bts_length]; omega
          have hw1 : ((s.size : Int) - (k : Int)).toNat = s.size - k := by omega
          obtain ⟨v, w1, hconv, hbr, hb1⟩ := conv_br1 (s.extract (s.size - k) s.size) w (by rw [hsz]; omega)
          have HB1 := Lib.hid hb1
          have KO0 := Rout_any v _ w1 hbr.rd (by rw [bts_length, hsz]; omega)
          rw [HR.out] at KO0
          have KO := Lib.hid KO0
          clear hn hss hv0 hv1 hv2 hrr hll KO0 hb1 hbr hsz
          go_enter Tryd.func26, Tryd.ntmps26
          go_wp2_with (first
            | (go_at_call 32; (with_reducible refine Calls.mono (KVs _).out ?_); rintro e w1 ⟨rfl, rfl⟩)
            | (go_at_call 106; (with_reducible refine Calls.mono (KAn _).out ?_); rintro e w1 ⟨rfl, rfl⟩)
            | (go_at_call 107; (with_reducible refine Calls.mono (KPc _).out ?_); rintro e w1 ⟨rfl, rfl⟩)
            | (go_at_call 108; refine Calls.mono KO.out ?_; rintro e w8 ⟨t, rfl, ht, hb5⟩; have HB5 := Lib.hid (HB1.out.step hb5); obtain ⟨p1, p2, f1, f2⟩ := HB5.out.facts; clear hb5))
          refine bodyPost_ret (v := .agg #[.string t, .int .i64 rk]) (by simp [results, Tryd.results26, go_sem, p1, p2]) rfl ?_
          rw [HRR.out]
          exact ⟨t, rfl, ht, HB5.out.fin _ _⟩
        · have hk2 : (s.size : Int) < (k : Int) := by omega
          have HR := Lib.hid (show outR ([] ++ List.replicate (min k 1001 - s.size) c ++ bts s) = (rl, rk) by rw [← hrr]; have := resR_right1 (n := k) hv0 hll hv2 (by rw [bts_length]; exact hk); rwa [bts_length] at this)
          have KP0 := Rpads_any (w.heap.size + 1) (.slice none 0 0) [] (min k 1001 - s.size) c (w.alloc (.cells #[.string ⟨#[]⟩, .int .i64 0] 31)) (Br.nil _ _) (by simp) (by simp; omega)
          rw [show ((min k 1001 - s.size : Nat) : Int) = min (k : Int) 1001 - (s.size : Int) by omega] at KP0
          have KP := Lib.hid KP0
          clear hn hss hv0 hv1 hv2 hrr hll KP0
          go_enter Tryd.func26, Tryd.ntmps26
          go_wp2_with (first
            | (go_at_call 32; (with_reducible refine Calls.mono (KVs _).out ?_); rintro e w1 ⟨rfl, rfl⟩)
            | (go_at_call 106; (with_reducible refine Calls.mono (KAn _).out ?_); rintro e w1 ⟨rfl, rfl⟩)
            | (go_at_call 107; (with_reducible refine Calls.mono (KPc _).out ?_); rintro e w1 ⟨rfl, rfl⟩)
            | (go_at_call 110; refine Calls.mono KP.out ?_; rintro e w4 ⟨v1, rfl, hbr1, hb1⟩; have HB1 := Lib.hid ((sbB_new w).low hb1 (Nat.le_refl _)); have HQ1 := Lib.hid hbr1.out; clear hbr1 hb1)
            | (at_builtin; refine wpList_br rfl _ _ 9 rfl (w.heap.size + 1) _ (.string s) ([] ++ List.replicate (min k 1001 - s.size) c) (bts s) rfl rfl HQ1.out (src_str _ _) (by rw [bts_length]; simp; omega) HB1.out.le ?_; intro v3 w6 hbr3 hg3; have HB3 := Lib.hid (HB1.out.grown hg3 HQ1.out.own); have KO0 := Rout_any v3 _ w6 hbr3.rd (by simp [bts_length]; omega); rw [HR.out] at KO0; have KO := Lib.hid KO0; clear KO0; clear hbr3 hg3)
            | (go_at_call 108; refine Calls.mono KO.out ?_; rintro e w8 ⟨t, rfl, ht, hb5⟩; have HB5 := Lib.hid (HB3.out.step hb5); obtain ⟨p1, p2, f1, f2⟩ := HB5.out.facts; clear hb5))
          refine bodyPost_ret (v := .agg #[.string t, .int .i64 rk]) (by simp [results, Tryd.results26, go_sem, p1, p2]) rfl ?_
          rw [HRR.out]
          exact ⟨t, rfl, ht, HB5.out.fin _ _⟩
set_option maxHeartbeats 2000000 in
theorem RCenter_any (s : ByteArray) (n : Int) (c : UInt8) (w : World) (hss : s.size ≤ maxLen) (hn : n ≤ 9223372036854775807) :
    Calls Tryd.prog 27 #[.string s, .int .i64 n, .int .u8 (c.toNat : Int)] w (GivesA w (resR shC (bts s) n (c.toNat : Int))) := by
  have KVs := fun (W : World) => Lib.hid (RValid_any s W hss)
  have KAn := fun (W : World) => Lib.hid (Rwhole0_any n 0 W)
  have KPc := fun (W : World) => Lib.hid (RPad_any (c.toNat : Int) W)
  cases hv0 : validL (bts s) with
  | false =>
    rw [hv0] at KVs
    have HR := Lib.hid (show resR shC (bts s) n (c.toNat : Int) = ([], 1) by unfold resR; simp only [hv0, Bool.and_false, Bool.false_and, Bool.true_and, Bool.and_true]; rfl)
    clear hv0
    go_enter Tryd.func27, Tryd.ntmps27
    go_wp2_with (first
      | (go_at_call 32; (with_reducible refine Calls.mono (KVs _).out ?_); rintro e w1 ⟨rfl, rfl⟩))
    refine bodyPost_ret (v := .agg #[.string ⟨#[]⟩, .int .i64 1]) (by simp [results, Tryd.results27, go_sem]) rfl ?_
    exact givesA HR.out rfl ((Below.refl _ w).alloc (Nat.le_refl _) _)
  | true =>
    rw [hv0] at KVs
    cases hv1 : decide (0 ≤ n) with
    | false =>
      rw [hv1] at KAn
      have HR := Lib.hid (show resR shC (bts s) n (c.toNat : Int) = ([], 1) by unfold resR; simp only [hv0, hv1, Bool.and_false, Bool.false_and, Bool.true_and, Bool.and_true]; rfl)
      clear hv0 hv1
      go_enter Tryd.func27, Tryd.ntmps27
      go_wp2_with (first
        | (go_at_call 32; (with_reducible refine Calls.mono (KVs _).out ?_); rintro e w1 ⟨rfl, rfl⟩)
        | (go_at_call 106; (with_reducible refine Calls.mono (KAn _).out ?_); rintro e w1 ⟨rfl, rfl⟩))
      refine bodyPost_ret (v := .agg #[.string ⟨#[]⟩, .int .i64 1]) (by simp [results, Tryd.results27, go_sem]) rfl ?_
      exact givesA HR.out rfl ((Below.refl _ w).alloc (Nat.le_refl _) _)
    | true =>
      rw [hv1] at KAn
      cases hv2 : padI (c.toNat : Int) with
      | false =>
        rw [hv2] at KPc
        have HR := Lib.hid (show resR shC (bts s) n (c.toNat : Int) = ([], 1) by unfold resR; simp only [hv0, hv1, hv2, Bool.and_false, Bool.false_and, Bool.true_and, Bool.and_true]; rfl)
        clear hv0 hv1 hv2
        go_enter Tryd.func27, Tryd.ntmps27
        go_wp2_with (first
          | (go_at_call 32; (with_reducible refine Calls.mono (KVs _).out ?_); rintro e w1 ⟨rfl, rfl⟩)
          | (go_at_call 106; (with_reducible refine Calls.mono (KAn _).out ?_); rintro e w1 ⟨rfl, rfl⟩)
          | (go_at_call 107; (with_reducible refine Calls.mono (KPc _).out ?_); rintro e w1 ⟨rfl, rfl⟩))
        refine bodyPost_ret (v := .agg #[.string ⟨#[]⟩, .int .i64 1]) (by simp [results, Tryd.results27, go_sem]) rfl ?_
        exact givesA HR.out rfl ((Below.refl _ w).alloc (Nat.le_refl _) _)
      | true =>
        rw [hv2] at KPc
        have hlen := valid_le hv0
        have hll : (bts s).length ≤ 1000 := by rw [bts_length]; exact hlen
        have h0 := of_decide_eq_true hv1
        obtain ⟨k, rfl⟩ := Int.eq_ofNat_of_zero_le h0
        obtain ⟨⟨rl, rk⟩, hrr⟩ : ∃ r, resR shC (bts s) (k : Int) (c.toNat : Int) = r := ⟨_, rfl⟩
        have HRR := Lib.hid hrr
        by_cases hk : k ≤ s.size
        · obtain ⟨d, hd⟩ : ∃ d, d = (s.size - k) / 2 := ⟨_, rfl⟩
          have hdi : ((s.size : Int) - (k : Int)).tdiv 2 = (d : Int) := by rw [Int.tdiv_eq_ediv_of_nonneg (by omega)]; omega
          have hdk : d + k ≤ s.size := by omega
          have HX := Lib.hid (show bts (s.extract d (d + k)) = ((bts s).drop (((bts s).length - k) / 2)).take k by rw [bts_extract, bts_length, ← hd, show d + k - d = k by omega])
          have HR := Lib.hid (show outR (bts (s.extract d (d + k))) = (rl, rk) by rw [← hrr, HX.out]; exact resR_center0 hv0 hll hv2 (by rw [bts_length]; exact hk))
          have hsz : (s.extract d (d + k)).size = k := by rw [size_of_bts HX.out, List.length_take, List.length_drop, bts_length]; omega
          have hw1 : ((d : Int) + (k : Int)).toNat = d + k := by omega
          obtain ⟨v, w1, hconv, hbr, hb1⟩ := conv_br1 (s.extract d (d + k)) w (by rw [hsz]; omega)
          have HB1 := Lib.hid hb1
          have KO0 := Rout_any v _ w1 hbr.rd (by rw [bts_length, hsz]; omega)
          rw [HR.out] at KO0
          have KO := Lib.hid KO0
          clear hn hss hv0 hv1 hv2 hrr hll KO0 hb1 hbr hsz hd
          go_enter Tryd.func27, Tryd.ntmps27
          go_wp2_with (first
            | (go_at_call 32; (with_reducible refine Calls.mono (KVs _).out ?_); rintro e w1 ⟨rfl, rfl⟩)
            | (go_at_call 106; (with_reducible refine Calls.mono (KAn _).out ?_); rintro e w1 ⟨rfl, rfl⟩)
            | (go_at_call 107; (with_reducible refine Calls.mono (KPc _).out ?_); rintro e w1 ⟨rfl, rfl⟩)
            | (go_at_call 108; refine Calls.mono KO.out ?_; rintro e w8 ⟨t, rfl, ht, hb5⟩; have HB5 := Lib.hid (HB1.out.step hb5); obtain ⟨p1, p2, f1, f2⟩ := HB5.out.facts; clear hb5))
          refine bodyPost_ret (v := .agg #[.string t, .int .i64 rk]) (by simp [results, Tryd.results27, go_sem, p1, p2]) rfl ?_
          rw [HRR.out]
          exact ⟨t, rfl, ht, HB5.out.fin _ _⟩
        · have hk2 : (s.size : Int) < (k : Int) := by omega
          by_cases hlong : 1000 < k
          · have HR := Lib.hid (show resR shC (bts s) (k : Int) (c.toNat : Int) = ([], 3) by unfold resR; rw [hv0, hv2, hv1]; simp [show 1000 < (k : Int) by omega])
            clear hn hss hv0 hv1 hv2 hrr hll
            go_enter Tryd.func27, Tryd.ntmps27
            go_wp2_with (first
              | (go_at_call 32; (with_reducible refine Calls.mono (KVs _).out ?_); rintro e w1 ⟨rfl, rfl⟩)
              | (go_at_call 106; (with_reducible refine Calls.mono (KAn _).out ?_); rintro e w1 ⟨rfl, rfl⟩)
              | (go_at_call 107; (with_reducible refine Calls.mono (KPc _).out ?_); rintro e w1 ⟨rfl, rfl⟩))
            refine bodyPost_ret (v := .agg #[.string ⟨#[]⟩, .int .i64 3]) (by simp [results, Tryd.results27, go_sem]) rfl ?_
            exact givesA HR.out rfl ((Below.refl _ w).alloc (Nat.le_refl _) _)
          · have HR := Lib.hid (show outR ([] ++ List.replicate ((k - s.size) / 2) c ++ bts s ++ List.replicate (k - s.size - (k - s.size) / 2) c) = (rl, rk) by rw [← hrr]; have := resR_center1 (n := k) hv0 hv2 (by rw [bts_length]; exact hk) hlong; rwa [bts_length] at this)
            have hi1 : (((k - s.size) / 2 : Nat) : Int) = ((k : Int) - (s.size : Int)).tdiv 2 := by rw [Int.tdiv_eq_ediv_of_nonneg (by omega)]; omega
            have hi2 : ((k - s.size - (k - s.size) / 2 : Nat) : Int) = (k : Int) - (s.size : Int) - ((k : Int) - (s.size : Int)).tdiv 2 := by rw [Int.tdiv_eq_ediv_of_nonneg (by omega)]; omega
            have KP0 := Rpads_any (w.heap.size + 1) (.slice none 0 0) [] ((k - s.size) / 2) c (w.alloc (.cells #[.string ⟨#[]⟩, .int .i64 0] 31)) (Br.nil _ _) (by simp) (by simp; omega)
            rw [hi1] at KP0
            have KP := Lib.hid KP0
            have hw1 : IntKind.i64.wrap ((k : Int) - (s.size : Int) - ((k : Int) - (s.size : Int)).tdiv 2) = (k : Int) - (s.size : Int) - ((k : Int) - (s.size : Int)).tdiv 2 := IntWalk.i64_in _ (by rw [Int.tdiv_eq_ediv_of_nonneg (by omega)]; omega)
            clear hn hss hv0 hv1 hv2 hrr hll KP0
            go_enter Tryd.func27, Tryd.ntmps27
            go_wp2_with (first
              | (go_at_call 32; (with_reducible refine Calls.mono (KVs _).out ?_); rintro e w1 ⟨rfl, rfl⟩)
              | (go_at_call 106; (with_reducible refine Calls.mono (KAn _).out ?_); rintro e w1 ⟨rfl, rfl⟩)
              | (go_at_call 107; (with_reducible refine Calls.mono (KPc _).out ?_); rintro e w1 ⟨rfl, rfl⟩)
              | (go_at_call 110; (with_reducible refine Calls.mono KP.out ?_); clear KP; rintro e w4 ⟨v1, rfl, hbr1, hb1⟩; have HB1 := Lib.hid ((sbB_new w).low hb1 (Nat.le_refl _)); have HQ1 := Lib.hid hbr1.out; clear hbr1 hb1)
              | (at_builtin; refine wpList_br rfl _ _ 9 rfl (w.heap.size + 1) _ (.string s) ([] ++ List.replicate ((k - s.size) / 2) c) (bts s) rfl rfl HQ1.out (src_str _ _) (by rw [bts_length]; simp; omega) HB1.out.le ?_; intro v3 w6 hbr3 hg3; have HB3 := Lib.hid (HB1.out.grown hg3 HQ1.out.own); have KQ0 := Rpads_any (w.heap.size + 1) v3 _ (k - s.size - (k - s.size) / 2) c w6 hbr3 HB3.out.le (by simp [bts_length]; omega); rw [hi2] at KQ0; have KQ := Lib.hid KQ0; clear KQ0; clear hbr3 hg3)
              | (go_at_call 110; (with_reducible refine Calls.mono KQ.out ?_); rintro e w7 ⟨v4, rfl, hbr4, hb4⟩; have HB4 := Lib.hid (HB3.out.low hb4 (Nat.le_refl _)); have KO0 := Rout_any v4 _ w7 hbr4.out.rd (by simp [bts_length]; omega); rw [HR.out] at KO0; have KO := Lib.hid KO0; clear KO0 hbr4 hb4)
              | (go_at_call 108; refine Calls.mono KO.out ?_; rintro e w8 ⟨t, rfl, ht, hb5⟩; have HB5 := Lib.hid (HB4.out.step hb5); obtain ⟨p1, p2, f1, f2⟩ := HB5.out.facts; clear hb5))
            refine bodyPost_ret (v := .agg #[.string t, .int .i64 rk]) (by simp [results, Tryd.results27, go_sem, p1, p2]) rfl ?_
            rw [HRR.out]
            exact ⟨t, rfl, ht, HB5.out.fin _ _⟩
end Go.Proofs.YtoilgjlbpimcpaaDoor
