/- Copies, both programs'; the other program's Reverse. -/
import Derived.Test.YtoilgjlbpimcpaaDoorWp
import Derived.Test.YtoilgjlbpimcpaaDoorUc
namespace Go.Proofs.YtoilgjlbpimcpaaDoor
open Go.RowKit Go.Shelf Tx
set_option linter.unusedVariables false
set_option maxRecDepth 100000

namespace Tx
theorem clean_repeat {l : List UInt8} (h : cleanL l = true) : ∀ k, cleanL (Lib.repeatL l k) = true
  | 0 => rfl
  | k + 1 => by unfold Lib.repeatL; rw [cleanL_append, h, clean_repeat h k]; rfl
theorem times_iff (n m : Nat) : 1000 < timesS (n : Int) (m : Int) ↔ 1000 < n * m := by
  rw [(timesS_spec (Int.natCast_nonneg n) (Int.natCast_nonneg m)).1]
  constructor
  · intro h; have : ((n * m : Nat) : Int) = (n : Int) * (m : Int) := Int.natCast_mul n m; omega
  · intro h; have : ((n * m : Nat) : Int) = (n : Int) * (m : Int) := Int.natCast_mul n m; omega
theorem copies_end {l : List UInt8} {k n : Nat} (hc : cleanL l = true) (hk : k ≤ n) (h : k = n ∨ l.length = 0 ∨ 1000 < k * l.length) :
    outR (Lib.repeatL l k) = if 1000 < timesS (n : Int) (l.length : Int) then ([], 3) else (Lib.repeatL l n, 0) := by
  have hle : k * l.length ≤ n * l.length := Nat.mul_le_mul_right _ hk
  by_cases hN : 1000 < n * l.length
  · rw [if_pos ((times_iff _ _).2 hN)]
    refine outR_long ?_
    rw [Lib.repeatL_length]
    rcases h with h | h | h
    · rw [h]; exact hN
    · rw [h] at hN; omega
    · exact h
  · rw [if_neg (fun h => hN ((times_iff _ _).1 h))]
    have hlen : (Lib.repeatL l k).length ≤ 1000 := by rw [Lib.repeatL_length]; omega
    rw [outR_ok (clean_repeat hc k) hlen]
    rcases h with h | h | h
    · rw [h]
    · rw [List.eq_nil_of_length_eq_zero h, Lib.repeatL_nil, Lib.repeatL_nil]
    · omega
theorem repeat_succ (l : List UInt8) (k : Nat) : Lib.repeatL l k ++ l = Lib.repeatL l (k + 1) := by
  rw [Lib.repeatL_add, Lib.repeatL_one]
end Tx
set_option maxHeartbeats 4000000 in
theorem RCopies_any (s : ByteArray) (n : Int) (w : World) (hss : s.size ≤ maxLen) (hn : n ≤ 9223372036854775807) :
    Calls Tryd.prog 28 #[.string s, .int .i64 n] w (GivesA w (copiesR (bts s) n)) := by
  have KVs := fun (W : World) => Lib.hid (RValid_any s W hss)
  have KAn := fun (W : World) => Lib.hid (Rwhole0_any n 0 W)
  cases hv0 : validL (bts s) with
  | false =>
    rw [hv0] at KVs
    have HR := Lib.hid (show copiesR (bts s) n = ([], 1) by unfold copiesR guardR; simp only [hv0, Bool.and_false, Bool.false_and, Bool.true_and, Bool.and_true]; rfl)
    clear hv0
    go_enter Tryd.func28, Tryd.ntmps28
    go_wp2_with (first
      | (go_at_call 32; (with_reducible refine Calls.mono (KVs _).out ?_); rintro e w1 ⟨rfl, rfl⟩))
    refine bodyPost_ret (v := .agg #[.string ⟨#[]⟩, .int .i64 1]) (by simp [results, Tryd.results28, go_sem]) rfl ?_
    exact givesA HR.out rfl ((Below.refl _ w).alloc (Nat.le_refl _) _)
  | true =>
    rw [hv0] at KVs
    cases hv1 : decide (0 ≤ n) with
    | false =>
      rw [hv1] at KAn
      have HR := Lib.hid (show copiesR (bts s) n = ([], 1) by unfold copiesR guardR; simp only [hv0, hv1, Bool.and_false, Bool.false_and, Bool.true_and, Bool.and_true]; rfl)
      clear hv0 hv1
      go_enter Tryd.func28, Tryd.ntmps28
      go_wp2_with (first
        | (go_at_call 32; (with_reducible refine Calls.mono (KVs _).out ?_); rintro e w1 ⟨rfl, rfl⟩)
        | (go_at_call 106; (with_reducible refine Calls.mono (KAn _).out ?_); rintro e w1 ⟨rfl, rfl⟩))
      refine bodyPost_ret (v := .agg #[.string ⟨#[]⟩, .int .i64 1]) (by simp [results, Tryd.results28, go_sem]) rfl ?_
      exact givesA HR.out rfl ((Below.refl _ w).alloc (Nat.le_refl _) _)
    | true =>
      rw [hv1] at KAn
      have hlen := valid_le hv0
      have h0 := of_decide_eq_true hv1
      obtain ⟨n, rfl⟩ := Int.eq_ofNat_of_zero_le h0
      obtain ⟨⟨rl, rk⟩, hrr⟩ : ∃ r, copiesR (bts s) (n : Int) = r := ⟨_, rfl⟩
      have HRR := Lib.hid hrr
      have HCL := Lib.hid (valid_clean hv0)
      have HR := Lib.hid (show (if 1000 < timesS (n : Int) ((bts s).length : Int) then ([], 3) else (Lib.repeatL (bts s) n, 0)) = (rl, rk) by rw [← hrr]; unfold copiesR guardR; rw [hv0, hv1, Int.toNat_natCast]; rfl)
      have HN := Lib.hid (show (n : Int) ≤ 9223372036854775807 from hn)
      clear hn hss hv0 hv1 hrr
      go_enter Tryd.func28, Tryd.ntmps28
      go_wp2_with (first
        | (go_at_call 32; (with_reducible refine Calls.mono (KVs _).out ?_); rintro e w1 ⟨rfl, rfl⟩)
        | (go_at_call 106; (with_reducible refine Calls.mono (KAn _).out ?_); rintro e w1 ⟨rfl, rfl⟩))
      go_loopw [5, 6] (fun v i wr => ∃ (k m : Nat) (ao : Option Addr) (cap : Nat), v = .slice ao m cap ∧ i = .int .i64 k ∧ k ≤ n ∧ m ≤ 2000 ∧ Hid (m = k * s.size) ∧ Hid (Br wr (w.heap.size + 1) v (Lib.repeatL (bts s) k)) ∧ Hid (SbB w wr)) (fun _ i _ => n - (intOf i).toNat)
      case atStart => exact ⟨0, 0, none, 0, rfl, rfl, Nat.zero_le _, by omega, Lib.hid (by omega), Lib.hid (Br.nil _ _), Lib.hid (sbB_new w)⟩
      case round =>
        obtain ⟨k, m, ao, cap, rfl, rfl, hk, hm2, hm, hbr, hb⟩ := hrel
        by_cases hlt : k < n
        · by_cases hs0 : s.size = 0
          · have hs0i : (s.size : Int) = 0 := by omega
            have KO0 := Rout_any _ _ wr hbr.out.rd (by rw [Lib.repeatL_length, bts_length, ← hm.out]; omega)
            rw [copies_end HCL.out hk (by first | exact .inl rfl | (right; left; rw [bts_length]; omega) | (right; right; rw [bts_length]; have := hm.out; omega)), HR.out] at KO0
            have KO := Lib.hid KO0
            clear KO0
            go_wp2_with (go_at_call 108; refine Calls.mono KO.out ?_; rintro e w8 ⟨t, rfl, ht, hb5⟩; have HB5 := Lib.hid (hb.out.step hb5); obtain ⟨p1, p2, f1, f2⟩ := HB5.out.facts; clear hb5)
            refine bodyPost_ret (v := .agg #[.string t, .int .i64 rk]) (by simp [results, Tryd.results28, go_sem, p1, p2]) rfl ?_
            rw [HRR.out]
            exact ⟨t, rfl, ht, HB5.out.fin _ _⟩
          · have hs1 : 0 < s.size := by omega
            by_cases hmm : m ≤ 1000
            · have hwk : IntKind.i64.wrap ((k : Int) + 1) = (k : Int) + 1 := IntWalk.i64_in _ (by have := HN.out; omega)
              have HM2 := Lib.hid (show m + s.size = (k + 1) * s.size by rw [hm.out, Nat.succ_mul])
              have HLL := Lib.hid (show (Lib.repeatL (bts s) k ++ bts s).length = m + s.size by rw [List.length_append, Lib.repeatL_length, bts_length, hm.out])
              go_wp2_with (at_builtin; refine wpList_br rfl _ _ 9 rfl (w.heap.size + 1) _ (.string s) (Lib.repeatL (bts s) k) (bts s) rfl rfl hbr.out (src_str _ _) (by have := HLL.out; rw [List.length_append] at this; omega) hb.out.le ?_; intro v' w4 hbr' hgrow; have HB4 := Lib.hid (hb.out.grown hgrow hbr.out.own); obtain ⟨ao', cap', rfl⟩ := hbr'.shape HLL.out; have HBR := Lib.hid hbr'; clear hbr' hgrow)
              go_roundw
              case rel => exact ⟨k + 1, m + s.size, _, _, rfl, by go_num, by omega, by omega, HM2, Lib.hid (by rw [← repeat_succ]; exact HBR.out), HB4⟩
              case measure => simp [intOf]; omega
            · have hmi : 1000 < m := by omega
              have KO0 := Rout_any _ _ wr hbr.out.rd (by rw [Lib.repeatL_length, bts_length, ← hm.out]; omega)
              rw [copies_end HCL.out hk (by first | exact .inl rfl | (right; left; rw [bts_length]; omega) | (right; right; rw [bts_length]; have := hm.out; omega)), HR.out] at KO0
              have KO := Lib.hid KO0
              clear KO0
              go_wp2_with (go_at_call 108; refine Calls.mono KO.out ?_; rintro e w8 ⟨t, rfl, ht, hb5⟩; have HB5 := Lib.hid (hb.out.step hb5); obtain ⟨p1, p2, f1, f2⟩ := HB5.out.facts; clear hb5)
              refine bodyPost_ret (v := .agg #[.string t, .int .i64 rk]) (by simp [results, Tryd.results28, go_sem, p1, p2]) rfl ?_
              rw [HRR.out]
              exact ⟨t, rfl, ht, HB5.out.fin _ _⟩
        · obtain rfl : k = n := by omega
          have KO0 := Rout_any _ _ wr hbr.out.rd (by rw [Lib.repeatL_length, bts_length, ← hm.out]; omega)
          rw [copies_end HCL.out hk (by first | exact .inl rfl | (right; left; rw [bts_length]; omega) | (right; right; rw [bts_length]; have := hm.out; omega)), HR.out] at KO0
          have KO := Lib.hid KO0
          clear KO0
          go_wp2_with (go_at_call 108; refine Calls.mono KO.out ?_; rintro e w8 ⟨t, rfl, ht, hb5⟩; have HB5 := Lib.hid (hb.out.step hb5); obtain ⟨p1, p2, f1, f2⟩ := HB5.out.facts; clear hb5)
          refine bodyPost_ret (v := .agg #[.string t, .int .i64 rk]) (by simp [results, Tryd.results28, go_sem, p1, p2]) rfl ?_
          rw [HRR.out]
          exact ⟨t, rfl, ht, HB5.out.fin _ _⟩
set_option maxHeartbeats 4000000 in
theorem RReverse_any (s : ByteArray) (w : World) (hss : s.size ≤ maxLen) :
    Calls Tryd.prog 29 #[.string s] w (GivesA w (reverseR (bts s))) := by
  have KVs := fun (W : World) => Lib.hid (RValid_any s W hss)
  cases hv0 : validL (bts s) with
  | false =>
    rw [hv0] at KVs
    have HR := Lib.hid (show reverseR (bts s) = ([], 1) by unfold reverseR; simp only [hv0, Bool.and_false, Bool.false_and, Bool.true_and, Bool.and_true]; rfl)
    clear hv0
    go_enter Tryd.func29, Tryd.ntmps29
    go_wp2_with (first
      | (go_at_call 32; (with_reducible refine Calls.mono (KVs _).out ?_); rintro e w1 ⟨rfl, rfl⟩))
    refine bodyPost_ret (v := .agg #[.string ⟨#[]⟩, .int .i64 1]) (by simp [results, Tryd.results29, go_sem]) rfl ?_
    exact givesA HR.out rfl ((Below.refl _ w).alloc (Nat.le_refl _) _)
  | true =>
    rw [hv0] at KVs
    have hlen := valid_le hv0
    obtain ⟨⟨rl, rk⟩, hrr⟩ : ∃ r, reverseR (bts s) = r := ⟨_, rfl⟩
    have HRR := Lib.hid hrr
    have HR := Lib.hid (show outR (bts s).reverse = (rl, rk) by rw [← hrr, outR_ok (clean_reverse (valid_clean hv0)) (by rw [List.length_reverse, bts_length]; exact hlen)]; unfold reverseR; rw [hv0]; rfl)
    obtain ⟨n, hn⟩ : ∃ n, n = s.size := ⟨_, rfl⟩
    have HN := Lib.hid hn
    clear hss hv0 hrr
    go_enter Tryd.func29, Tryd.ntmps29
    go_wp2_with (first
      | (go_at_call 32; (with_reducible refine Calls.mono (KVs _).out ?_); rintro e w1 ⟨rfl, rfl⟩))
    go_loopw [3, 4] (fun v i wr => ∃ k : Nat, i = .int .i64 ((s.size : Int) - 1 - (k : Int)) ∧ k ≤ s.size ∧ Hid (Br wr (w.heap.size + 1) v ((bts s).reverse.take k)) ∧ Hid (SbB w wr)) (fun _ i _ => (intOf i + 1).toNat)
    case atStart => exact ⟨0, by simp, Nat.zero_le _, Lib.hid (Br.nil _ _), Lib.hid (sbB_new w)⟩
    case round =>
      obtain ⟨k, rfl, hk, hbr, hb⟩ := hrel
      by_cases hlt : k < s.size
      · obtain ⟨j, hj⟩ : ∃ j : Nat, j = s.size - 1 - k := ⟨_, rfl⟩
        have hjj : (s.size : Int) - 1 - (k : Int) = (j : Int) := by omega
        have hjs : j < s.size := by omega
        have hg := bts_get s hjs
        obtain ⟨x, hx⟩ : ∃ x, x = s[j] := ⟨_, rfl⟩
        have hxx : s[j] = x := hx.symm
        have HY := Lib.hid (take_snoc (bts s).reverse k x (by rw [List.getElem?_reverse (by rw [bts_length]; exact hlt), bts_length, ← hj, hg, hx]))
        have HQ := Lib.hid (show (j : Int) - 1 = (s.size : Int) - 1 - ((k + 1 : Nat) : Int) by omega)
        have HME := Lib.hid (show ((j : Int) - 1 + 1).toNat < ((j : Int) + 1).toNat by omega)
        have hl3 : ((bts s).reverse.take k).length ≤ 1000 := by rw [List.length_take, List.length_reverse, bts_length]; omega
        have HL3 := Lib.hid hl3
        rw [hjj]
        clear hj hjj hg hx hl3
        go_wp2_with (at_builtin; refine wpList_br rfl _ _ 89 rfl (w.heap.size + 1) _ (.slice (some ⟨wr.heap.size, 0, none⟩) 1 1) ((bts s).reverse.take k) [x] rfl rfl (hbr.out.alloc _) (src_cell (by simp [u8v])) (by simp only [List.length_cons, List.length_nil]; have := HL3.out; omega) (by have := hb.out.le; simp; omega) ?_; intro v' w4 hbr' hgrow; have HBR := Lib.hid hbr'; have HB4 := Lib.hid (SbB.grown (W := wr.alloc (.cells #[.int .u8 (x.toNat : Int)] 5)) (hb.out.step ((Below.refl _ wr).alloc (Nat.le_refl _) _)) hgrow hbr.out.own); clear hbr' hgrow)
        go_roundw
        case rel => exact ⟨k + 1, by first | (rw [HQ.out]; done) | (rw [← HQ.out]; done) | (rw [HQ.out]; go_num), by omega, Lib.hid (by rw [HY.out]; exact HBR.out), HB4⟩
        case measure => simp [intOf]
      · obtain rfl : k = s.size := by omega
        have hi1 : (s.size : Int) - 1 - (s.size : Int) = -1 := by omega
        rw [hi1]
        have KO0 := Rout_any _ _ wr hbr.out.rd (by rw [List.length_take, List.length_reverse, bts_length]; omega)
        rw [List.take_of_length_le (by rw [List.length_reverse, bts_length]; exact Nat.le_refl _), HR.out] at KO0
        have KO := Lib.hid KO0
        clear KO0 hi1
        go_wp2_with (go_at_call 108; refine Calls.mono KO.out ?_; rintro e w8 ⟨t, rfl, ht, hb5⟩; have HB5 := Lib.hid (hb.out.step hb5); obtain ⟨p1, p2, f1, f2⟩ := HB5.out.facts; clear hb5)
        refine bodyPost_ret (v := .agg #[.string t, .int .i64 rk]) (by simp [results, Tryd.results29, go_sem, p1, p2]) rfl ?_
        rw [HRR.out]
        exact ⟨t, rfl, ht, HB5.out.fin _ _⟩
/-- strings.Repeat of a string that is not empty. -/
theorem repeat_all (s : ByteArray) (c : Nat) (w : World) (h0 : 0 < s.size) (hc : c * s.size ≤ 1000) :
    Calls Tryd.prog 103 #[.string s, .int .i64 c] w fun e w' => ∃ t, e = .returned (.string t) ∧ Hid (bts t = Lib.repeatL (bts s) c) ∧ Below w.heap.size w w' := by
  match c, hc with
  | 0, _ => exact (Tryd.strings_Repeat_zero s w).mono fun e w' ⟨h, hw⟩ => ⟨_, h, Lib.hid rfl, by rw [hw]; exact Below.refl _ _⟩
  | 1, _ => exact (Tryd.strings_Repeat_one s w).mono fun e w' ⟨h, hw⟩ => ⟨_, h, Lib.hid (Lib.repeatL_one _).symm, by rw [hw]; exact Below.refl _ _⟩
  | c + 2, hc =>
    have hcl : c + 2 ≤ 1000 := Nat.le_trans (Nat.le_mul_of_pos_right _ h0) hc
    exact (Tryd.strings_Repeat_main s (c + 2) w (by omega) (by omega) (by rw [Nat.mul_comm]; omega) h0).mono fun e w' ⟨h, hw⟩ => ⟨_, h, Lib.hid (by rw [bts_mk]; rfl), hw⟩
set_option maxHeartbeats 2000000 in
theorem Copies_any (s : ByteArray) (n : Int) (w : World) (hss : s.size ≤ maxLen) (hn : n ≤ 9223372036854775807) :
    Calls Tryd.prog 21 #[.string s, .int .i64 n] w (GivesS w (copiesR (bts s) n)) := by
  have KVs := fun (W : World) (pp : Nat) (hp : pp < W.heap.size) (hc : At W pp [.string s]) => Lib.hid (areValid1 pp s W hss hp hc)
  have KAn := fun (W : World) (pp : Nat) (hc : W.cell? ⟨pp, 0, none⟩ = some (.int .i64 n)) => Lib.hid (areAtLeast1 pp 0 n W hc)
  cases hv0 : validL (bts s) with
  | false =>
    rw [hv0] at KVs
    have HR := Lib.hid (show copiesR (bts s) n = ([], 1) by unfold copiesR guardR; simp only [hv0, Bool.and_false, Bool.false_and, Bool.true_and, Bool.and_true]; rfl)
    clear hv0
    go_enter Tryd.func21, Tryd.ntmps21
    go_wp2_with (first
      | (go_at_call 99; refine Calls.mono (KVs _ _ (by simp) (At.new1 _ _ _)).out ?_; rintro e w1 ⟨rfl, hb1⟩; have B1 : Below w.heap.size w w1 := Bl.step (by repeat (first | assumption | exact Below.refl _ _ | refine Bl.alloc ?_ _ | refine Bl.drew ?_)) hb1))
    go_ret2
    exact givesS HR.out rfl (by repeat (first | assumption | exact Below.refl _ _ | refine Bl.alloc ?_ _ | refine Bl.drew ?_))
  | true =>
    rw [hv0] at KVs
    cases hv1 : decide (0 ≤ n) with
    | false =>
      rw [hv1] at KAn
      have HR := Lib.hid (show copiesR (bts s) n = ([], 1) by unfold copiesR guardR; simp only [hv0, hv1, Bool.and_false, Bool.false_and, Bool.true_and, Bool.and_true]; rfl)
      clear hv0 hv1
      go_enter Tryd.func21, Tryd.ntmps21
      go_wp2_with (first
        | (go_at_call 99; refine Calls.mono (KVs _ _ (by simp) (At.new1 _ _ _)).out ?_; rintro e w1 ⟨rfl, hb1⟩; have B1 : Below w.heap.size w w1 := Bl.step (by repeat (first | assumption | exact Below.refl _ _ | refine Bl.alloc ?_ _ | refine Bl.drew ?_)) hb1)
        | (go_at_call 100; refine Calls.mono (KAn _ _ (cellAt (by simp))).out ?_; rintro e w2 ⟨rfl, rfl⟩))
      go_ret2
      exact givesS HR.out rfl (by repeat (first | assumption | exact Below.refl _ _ | refine Bl.alloc ?_ _ | refine Bl.drew ?_))
    | true =>
      rw [hv1] at KAn
      have hlen := valid_le hv0
      have h0 := of_decide_eq_true hv1
      obtain ⟨k, rfl⟩ := Int.eq_ofNat_of_zero_le h0
      have KTI := fun W => Lib.hid (times_any (k : Int) (s.size : Int) W h0 hn (by omega) (by omega))
      have htp := (timesS_spec h0 (Int.natCast_nonneg s.size)).2
      have KT := fun (W : World) (p : Nat) (hc : W.cell? ⟨p, 0, none⟩ = some (.int .i64 (timesS (k : Int) (s.size : Int)))) => Lib.hid (isTooLong1 p _ W htp hc)
      by_cases hl : 1000 < timesS (k : Int) (s.size : Int)
      · have HR := Lib.hid (show copiesR (bts s) (k : Int) = ([], 3) by unfold copiesR guardR; rw [hv0, hv1, bts_length, if_pos hl]; rfl)
        rw [decide_eq_true hl] at KT
        obtain ⟨z, hz⟩ : ∃ z, z = timesS (k : Int) (s.size : Int) := ⟨_, rfl⟩
        rw [← hz] at KT KTI
        clear hv0 hv1 hn htp hl hz
        go_enter Tryd.func21, Tryd.ntmps21
        go_wp2_with (first
          | (go_at_call 99; refine Calls.mono (KVs _ _ (by simp) (At.new1 _ _ _)).out ?_; rintro e w1 ⟨rfl, hb1⟩; have B1 : Below w.heap.size w w1 := Bl.step (by repeat (first | assumption | exact Below.refl _ _ | refine Bl.alloc ?_ _ | refine Bl.drew ?_)) hb1)
          | (go_at_call 100; refine Calls.mono (KAn _ _ (cellAt (by simp))).out ?_; rintro e w2 ⟨rfl, rfl⟩)
          | (go_at_call 102; refine Calls.mono (KTI _).out ?_; rintro e w4 ⟨rfl, rfl⟩)
          | (go_at_call 101; refine Calls.mono (KT _ _ (cellAt (by simp))).out ?_; rintro e w5 ⟨rfl, rfl⟩))
        go_ret2
        exact givesS HR.out rfl (by repeat (first | assumption | exact Below.refl _ _ | refine Bl.alloc ?_ _ | refine Bl.drew ?_))
      · have hkl : k * s.size ≤ 1000 := Nat.le_of_not_lt (fun h => hl ((times_iff _ _).2 h))
        have HR := Lib.hid (show copiesR (bts s) (k : Int) = (Lib.repeatL (bts s) k, 0) by unfold copiesR guardR; rw [hv0, hv1, bts_length, if_neg hl, Int.toNat_natCast]; rfl)
        rw [decide_eq_false hl] at KT
        obtain ⟨z, hz⟩ : ∃ z, z = timesS (k : Int) (s.size : Int) := ⟨_, rfl⟩
        rw [← hz] at KT KTI
        by_cases hs0 : s.size = 0
        · have hnil := toList_nil hs0
          have hsi : (s.size : Int) = 0 := by omega
          rw [hsi] at KTI
          have HX := Lib.hid (show bts (⟨#[]⟩ : ByteArray) = Lib.repeatL (bts s) k by rw [List.eq_nil_of_length_eq_zero (by rw [bts_length]; exact hs0 : (bts s).length = 0), Lib.repeatL_nil]; rfl)
          clear hv0 hv1 hn htp hl hz hkl hsi
          go_enter Tryd.func21, Tryd.ntmps21
          go_wp2_with (first
            | (go_at_call 99; refine Calls.mono (KVs _ _ (by simp) (At.new1 _ _ _)).out ?_; rintro e w1 ⟨rfl, hb1⟩; have B1 : Below w.heap.size w w1 := Bl.step (by repeat (first | assumption | exact Below.refl _ _ | refine Bl.alloc ?_ _ | refine Bl.drew ?_)) hb1)
            | (go_at_call 100; refine Calls.mono (KAn _ _ (cellAt (by simp))).out ?_; rintro e w2 ⟨rfl, rfl⟩)
            | (go_at_call 102; refine Calls.mono (KTI _).out ?_; rintro e w4 ⟨rfl, rfl⟩)
            | (go_at_call 101; refine Calls.mono (KT _ _ (cellAt (by simp))).out ?_; rintro e w5 ⟨rfl, rfl⟩))
          go_ret2
          exact givesS HR.out HX.out (by repeat (first | assumption | exact Below.refl _ _ | refine Bl.alloc ?_ _ | refine Bl.drew ?_))
        · have KR := fun W => Lib.hid (repeat_all s k W (by omega) hkl)
          have hne : s.toList ≠ [] := by
            intro h
            have h2 : s.toList.length = s.size := by rw [ByteArray.toList_eq]; simp
            rw [h] at h2
            simp at h2
            omega
          have hne3 : s.toList.isEmpty = false := by simpa using hne
          clear hv0 hv1 hn htp hl hz hkl
          go_enter Tryd.func21, Tryd.ntmps21
          go_wp2_with (first
            | (go_at_call 99; refine Calls.mono (KVs _ _ (by simp) (At.new1 _ _ _)).out ?_; rintro e w1 ⟨rfl, hb1⟩; have B1 : Below w.heap.size w w1 := Bl.step (by repeat (first | assumption | exact Below.refl _ _ | refine Bl.alloc ?_ _ | refine Bl.drew ?_)) hb1)
            | (go_at_call 100; refine Calls.mono (KAn _ _ (cellAt (by simp))).out ?_; rintro e w2 ⟨rfl, rfl⟩)
            | (go_at_call 102; refine Calls.mono (KTI _).out ?_; rintro e w4 ⟨rfl, rfl⟩)
            | (go_at_call 101; refine Calls.mono (KT _ _ (cellAt (by simp))).out ?_; rintro e w5 ⟨rfl, rfl⟩)
            | (go_at_call 103; refine Calls.mono (KR _).out ?_; rintro e w6 ⟨t, rfl, ht, hb6⟩; have B6 : Below w.heap.size w w6 := Bl.step (by repeat (first | assumption | exact Below.refl _ _ | refine Bl.alloc ?_ _ | refine Bl.drew ?_)) hb6))
          go_ret2
          exact givesS HR.out ht.out (by repeat (first | assumption | exact Below.refl _ _ | refine Bl.alloc ?_ _ | refine Bl.drew ?_))
end Go.Proofs.YtoilgjlbpimcpaaDoor
