/- The other program's Subword, DelWord. -/
import Derived.Test.YtoilgjlbpimcpaaDoorZh
namespace Go.Proofs.YtoilgjlbpimcpaaDoor
open Go.RowKit Go.Shelf Tx
set_option linter.unusedVariables false
set_option maxRecDepth 100000

namespace Tx
theorem some_lt (l : List UInt8) {n m : Int} (hn : 1 ≤ n) (hm : -1 ≤ m) (h : someB (spans l) n m = true) : (someL (spans l) n m).1 < (someL (spans l) n m).2 := by
  unfold someB at h
  simp only [Bool.not_eq_true', Bool.or_eq_false_iff, decide_eq_false_iff_not] at h
  unfold someL
  rw [if_neg (by rintro (e | e); exact h.1 e; exact h.2 e)]
  exact (spans_order l (i := (n - 1).toNat) (j := lastI (spans l).length (n - 1).toNat m) (by unfold lastI; split <;> omega) (by unfold lastI; split <;> omega)).1
theorem trimLeft_blank {l : List UInt8} {t : Nat} (h : l[t]? = some 32) : Lib.trimLeftB (l.drop t) 32 = Lib.trimLeftB (l.drop (t + 1)) 32 := by
  obtain ⟨h1, h2⟩ := List.getElem?_eq_some_iff.1 h
  rw [List.drop_eq_getElem_cons h1, h2]
  unfold Lib.trimLeftB
  rfl
theorem trimLeft_stop {l : List UInt8} {t : Nat} (h : l[t]? ≠ some 32) : Lib.trimLeftB (l.drop t) 32 = l.drop t := by
  unfold Lib.trimLeftB
  cases hd : l.drop t with
  | nil => rfl
  | cons x xs =>
    have hx : l[t]? = some x := by
      have := congrArg (fun z => z[0]?) hd
      simpa using this
    have : (x == 32) = false := by
      rw [hx] at h
      simpa using h
    simp [List.dropWhile_cons, this]
end Tx
set_option maxHeartbeats 2000000 in
theorem RSubword_any (s : ByteArray) (n m : Int) (w : World) (hss : s.size ≤ maxLen) (hm2 : m ≤ 9223372036854775807) :
    Calls Tryd.prog 66 #[.string s, .int .i64 n, .int .i64 m] w (GivesA w (subwordR (bts s) n m)) := by
  have KVs := fun (W : World) => Lib.hid (RValid_any s W hss)
  have KAn := fun (W : World) => Lib.hid (Rwhole0_any n 1 W)
  have KMm := fun (W : World) => Lib.hid (Rwhole1_any m 0 W)
  cases hv0 : validL (bts s) with
  | false =>
    rw [hv0] at KVs
    have HR := Lib.hid (show subwordR (bts s) n m = ([], 1) by unfold subwordR guardR; simp only [hv0, Bool.and_false, Bool.false_and, Bool.true_and, Bool.and_true]; rfl)
    clear hv0
    go_enter Tryd.func66, Tryd.ntmps66
    go_wp2_with (first
      | (go_at_call 32; (with_reducible refine Calls.mono (KVs _).out ?_); rintro e w1 ⟨rfl, rfl⟩))
    refine bodyPost_ret (v := .agg #[.string ⟨#[]⟩, .int .i64 1]) (by simp [results, Tryd.results66, go_sem]) rfl ?_
    exact givesA HR.out rfl ((Below.refl _ w).alloc (Nat.le_refl _) _)
  | true =>
    rw [hv0] at KVs
    cases hv1 : decide (1 ≤ n) with
    | false =>
      rw [hv1] at KAn
      have HR := Lib.hid (show subwordR (bts s) n m = ([], 1) by unfold subwordR guardR; simp only [hv0, hv1, Bool.and_false, Bool.false_and, Bool.true_and, Bool.and_true]; rfl)
      clear hv0 hv1
      go_enter Tryd.func66, Tryd.ntmps66
      go_wp2_with (first
        | (go_at_call 32; (with_reducible refine Calls.mono (KVs _).out ?_); rintro e w1 ⟨rfl, rfl⟩)
        | (go_at_call 106; (with_reducible refine Calls.mono (KAn _).out ?_); rintro e w1 ⟨rfl, rfl⟩))
      refine bodyPost_ret (v := .agg #[.string ⟨#[]⟩, .int .i64 1]) (by simp [results, Tryd.results66, go_sem]) rfl ?_
      exact givesA HR.out rfl ((Below.refl _ w).alloc (Nat.le_refl _) _)
    | true =>
      rw [hv1] at KAn
      cases hv2 : (decide (m = -1) || decide (0 ≤ m)) with
      | false =>
        rw [hv2] at KMm
        have HR := Lib.hid (show subwordR (bts s) n m = ([], 1) by unfold subwordR guardR; simp only [hv0, hv1, hv2, Bool.and_false, Bool.false_and, Bool.true_and, Bool.and_true]; rfl)
        clear hv0 hv1 hv2
        go_enter Tryd.func66, Tryd.ntmps66
        go_wp2_with (first
          | (go_at_call 32; (with_reducible refine Calls.mono (KVs _).out ?_); rintro e w1 ⟨rfl, rfl⟩)
          | (go_at_call 106; (with_reducible refine Calls.mono (KAn _).out ?_); rintro e w1 ⟨rfl, rfl⟩)
          | (go_at_call 106; (with_reducible refine Calls.mono (KMm _).out ?_); rintro e w1 ⟨rfl, rfl⟩))
        refine bodyPost_ret (v := .agg #[.string ⟨#[]⟩, .int .i64 1]) (by simp [results, Tryd.results66, go_sem]) rfl ?_
        exact givesA HR.out rfl ((Below.refl _ w).alloc (Nat.le_refl _) _)
      | true =>
        rw [hv2] at KMm
        have hlen := valid_le hv0
        have hn := of_decide_eq_true hv1
        have hm := miss_or hv2
        have hx := someL_le (bts s) n m hn hm
        have hlt := some_lt (bts s) (n := n) (m := m) hn hm
        have hno := fun h => (some_no (L := spans (bts s)) (n := n) (m := m) h).1
        rw [bts_length] at hx
        have KN := fun W => Lib.hid (Rsome_any s n m W (by omega) hn hm hm2)
        have HR := Lib.hid (show subwordR (bts s) n m = (((bts s).drop (someL (spans (bts s)) n m).1).take ((someL (spans (bts s)) n m).2 - (someL (spans (bts s)) n m).1), 0) by unfold subwordR guardR; rw [hv0, hv1, hv2]; rfl)
        obtain ⟨p, hp⟩ : ∃ p, p = someL (spans (bts s)) n m := ⟨_, rfl⟩
        obtain ⟨q, hq⟩ : ∃ q, q = someB (spans (bts s)) n m := ⟨_, rfl⟩
        rw [← hp] at HR hx KN hlt
        rw [← hq] at KN hlt
        have HQ := Lib.hid hq
        have HP := Lib.hid hp
        clear hv0 hv1 hv2 hp hq hm2 hno
        obtain ⟨a, b⟩ := p
        unfold spv at KN
        have hab : a ≤ b := by rcases hx.1 with h | h; exact Nat.le_of_lt h; injection h with h1 h2; omega
        have hbs : b ≤ s.size := hx.2
        have HNM := Lib.hid (And.intro hn hm)
        clear hx hn hm
        have HX := Lib.hid (bts_extract s a b)
        clear hlt
        go_enter Tryd.func66, Tryd.ntmps66
        go_wp2_with (first
          | (go_at_call 32; (with_reducible refine Calls.mono (KVs _).out ?_); rintro e w1 ⟨rfl, rfl⟩)
          | (go_at_call 106; (with_reducible refine Calls.mono (KAn _).out ?_); rintro e w1 ⟨rfl, rfl⟩)
          | (go_at_call 106; (with_reducible refine Calls.mono (KMm _).out ?_); rintro e w1 ⟨rfl, rfl⟩)
          | (go_at_call 136; refine Calls.mono (KN _).out ?_; rintro e w4 ⟨rfl, hb4⟩; have HB4 := Lib.hid ((sbB_new w).step hb4); have HB5 := Lib.hid (HB4.out.step ((Below.refl _ w4).alloc (Nat.le_refl _) (.cells #[.int .i64 (a : Int), .int .i64 (b : Int)] 132))); obtain ⟨p1, p2, f1, f2⟩ := HB5.out.facts; clear hb4))
        refine bodyPost_ret (v := .agg #[.string (s.extract a b), .int .i64 0]) (by simp [results, Tryd.results66, go_sem, p1, p2]) rfl ?_
        exact givesA HR.out HX.out (HB5.out.fin _ _)
set_option maxHeartbeats 4000000 in
theorem RDelWord_any (s : ByteArray) (n m : Int) (w : World) (hss : s.size ≤ maxLen) (hm2 : m ≤ 9223372036854775807) :
    Calls Tryd.prog 67 #[.string s, .int .i64 n, .int .i64 m] w (GivesA w (delWordR (bts s) n m)) := by
  have KVs := fun (W : World) => Lib.hid (RValid_any s W hss)
  have KAn := fun (W : World) => Lib.hid (Rwhole0_any n 1 W)
  have KMm := fun (W : World) => Lib.hid (Rwhole1_any m 0 W)
  cases hv0 : validL (bts s) with
  | false =>
    rw [hv0] at KVs
    have HR := Lib.hid (show delWordR (bts s) n m = ([], 1) by unfold delWordR guardR; simp only [hv0, Bool.and_false, Bool.false_and, Bool.true_and, Bool.and_true]; rfl)
    clear hv0
    go_enter Tryd.func67, Tryd.ntmps67
    go_wp2_with (first
      | (go_at_call 32; (with_reducible refine Calls.mono (KVs _).out ?_); rintro e w1 ⟨rfl, rfl⟩))
    refine bodyPost_ret (v := .agg #[.string ⟨#[]⟩, .int .i64 1]) (by simp [results, Tryd.results67, go_sem]) rfl ?_
    exact givesA HR.out rfl ((Below.refl _ w).alloc (Nat.le_refl _) _)
  | true =>
    rw [hv0] at KVs
    cases hv1 : decide (1 ≤ n) with
    | false =>
      rw [hv1] at KAn
      have HR := Lib.hid (show delWordR (bts s) n m = ([], 1) by unfold delWordR guardR; simp only [hv0, hv1, Bool.and_false, Bool.false_and, Bool.true_and, Bool.and_true]; rfl)
      clear hv0 hv1
      go_enter Tryd.func67, Tryd.ntmps67
      go_wp2_with (first
        | (go_at_call 32; (with_reducible refine Calls.mono (KVs _).out ?_); rintro e w1 ⟨rfl, rfl⟩)
        | (go_at_call 106; (with_reducible refine Calls.mono (KAn _).out ?_); rintro e w1 ⟨rfl, rfl⟩))
      refine bodyPost_ret (v := .agg #[.string ⟨#[]⟩, .int .i64 1]) (by simp [results, Tryd.results67, go_sem]) rfl ?_
      exact givesA HR.out rfl ((Below.refl _ w).alloc (Nat.le_refl _) _)
    | true =>
      rw [hv1] at KAn
      cases hv2 : (decide (m = -1) || decide (0 ≤ m)) with
      | false =>
        rw [hv2] at KMm
        have HR := Lib.hid (show delWordR (bts s) n m = ([], 1) by unfold delWordR guardR; simp only [hv0, hv1, hv2, Bool.and_false, Bool.false_and, Bool.true_and, Bool.and_true]; rfl)
        clear hv0 hv1 hv2
        go_enter Tryd.func67, Tryd.ntmps67
        go_wp2_with (first
          | (go_at_call 32; (with_reducible refine Calls.mono (KVs _).out ?_); rintro e w1 ⟨rfl, rfl⟩)
          | (go_at_call 106; (with_reducible refine Calls.mono (KAn _).out ?_); rintro e w1 ⟨rfl, rfl⟩)
          | (go_at_call 106; (with_reducible refine Calls.mono (KMm _).out ?_); rintro e w1 ⟨rfl, rfl⟩))
        refine bodyPost_ret (v := .agg #[.string ⟨#[]⟩, .int .i64 1]) (by simp [results, Tryd.results67, go_sem]) rfl ?_
        exact givesA HR.out rfl ((Below.refl _ w).alloc (Nat.le_refl _) _)
      | true =>
        rw [hv2] at KMm
        have hlen := valid_le hv0
        have hn := of_decide_eq_true hv1
        have hm := miss_or hv2
        have hx := someL_le (bts s) n m hn hm
        have hlt := some_lt (bts s) (n := n) (m := m) hn hm
        have hno := fun h => (some_no (L := spans (bts s)) (n := n) (m := m) h).1
        rw [bts_length] at hx
        have KN := fun W => Lib.hid (Rsome_any s n m W (by omega) hn hm hm2)
        have HR := Lib.hid (show delWordR (bts s) n m = (delB (bts s) (someL (spans (bts s)) n m), 0) by unfold delWordR guardR; rw [hv0, hv1, hv2]; rfl)
        obtain ⟨p, hp⟩ : ∃ p, p = someL (spans (bts s)) n m := ⟨_, rfl⟩
        obtain ⟨q, hq⟩ : ∃ q, q = someB (spans (bts s)) n m := ⟨_, rfl⟩
        rw [← hp] at HR hx KN hlt
        rw [← hq] at KN hlt
        have HQ := Lib.hid hq
        have HP := Lib.hid hp
        clear hv0 hv1 hv2 hp hq hm2 hno
        obtain ⟨a, b⟩ := p
        unfold spv at KN
        have hab : a ≤ b := by rcases hx.1 with h | h; exact Nat.le_of_lt h; injection h with h1 h2; omega
        have hbs : b ≤ s.size := hx.2
        have HNM := Lib.hid (And.intro hn hm)
        clear hx hn hm
        cases q with
        | false =>
          have HR2 := Lib.hid (show delWordR (bts s) n m = (bts s, 0) by
            have h := HQ.out
            unfold someB at h
            have h2 := (some_no (L := spans (bts s)) (n := n) (m := m) (by
              have h3 : n ≤ ((spans (bts s)).length : Int) → m = 0 := by simpa [Bool.or_eq_true] using h
              by_cases e : ((spans (bts s)).length : Int) < n
              · exact .inl e
              · exact .inr (h3 (by omega)))).1
            rw [HR.out, HP.out, h2]
            rfl)
          clear hlt
          go_enter Tryd.func67, Tryd.ntmps67
          go_wp2_with (first
            | (go_at_call 32; (with_reducible refine Calls.mono (KVs _).out ?_); rintro e w1 ⟨rfl, rfl⟩)
            | (go_at_call 106; (with_reducible refine Calls.mono (KAn _).out ?_); rintro e w1 ⟨rfl, rfl⟩)
            | (go_at_call 106; (with_reducible refine Calls.mono (KMm _).out ?_); rintro e w1 ⟨rfl, rfl⟩)
            | (go_at_call 136; refine Calls.mono (KN _).out ?_; rintro e w4 ⟨rfl, hb4⟩; have HB4 := Lib.hid ((sbB_new w).step hb4); have HB5 := Lib.hid (HB4.out.step ((Below.refl _ w4).alloc (Nat.le_refl _) (.cells #[.int .i64 (a : Int), .int .i64 (b : Int)] 132))); obtain ⟨p1, p2, f1, f2⟩ := HB5.out.facts; clear hb4))
          refine bodyPost_ret (v := .agg #[.string s, .int .i64 0]) (by simp [results, Tryd.results67, go_sem, p1, p2]) rfl ?_
          exact givesA HR2.out rfl (HB5.out.fin _ _)
        | true =>
          have hlt2 : a < b := hlt rfl
          have HR2 := Lib.hid (show delWordR (bts s) n m = ((bts s).take a ++ Lib.trimLeftB ((bts s).drop b) 32, 0) by
            rw [HR.out]; unfold delB; rw [if_neg (by simp only; omega)])
          clear hlt
          go_enter Tryd.func67, Tryd.ntmps67
          go_wp2_with (first
            | (go_at_call 32; (with_reducible refine Calls.mono (KVs _).out ?_); rintro e w1 ⟨rfl, rfl⟩)
            | (go_at_call 106; (with_reducible refine Calls.mono (KAn _).out ?_); rintro e w1 ⟨rfl, rfl⟩)
            | (go_at_call 106; (with_reducible refine Calls.mono (KMm _).out ?_); rintro e w1 ⟨rfl, rfl⟩)
            | (go_at_call 136; refine Calls.mono (KN _).out ?_; rintro e w4 ⟨rfl, hb4⟩; have HB4 := Lib.hid ((sbB_new w).step hb4); have HB5 := Lib.hid (HB4.out.step ((Below.refl _ w4).alloc (Nat.le_refl _) (.cells #[.int .i64 (a : Int), .int .i64 (b : Int)] 132))); obtain ⟨p1, p2, f1, f2⟩ := HB5.out.facts; clear hb4))
          go_loop [9] (fun i => ∃ t : Nat, i = .int .i64 t ∧ a < t ∧ t ≤ s.size ∧ Hid (Lib.trimLeftB ((bts s).drop b) 32 = Lib.trimLeftB ((bts s).drop t) 32)) (fun i => s.size - (intOf i).toNat)
          case atStart => exact ⟨b, rfl, hlt2, hbs, Lib.hid rfl⟩
          case round =>
            obtain ⟨t, rfl, hat, hts, hq⟩ := hrel
            have endp : Hid ((bts s)[t]? ≠ some 32 → bts (s.extract 0 a ++ s.extract t s.size) = (bts s).take a ++ Lib.trimLeftB ((bts s).drop b) 32) := Lib.hid (fun h => by
              rw [hq.out, trimLeft_stop h, bts_append, bts_extract, bts_extract, List.drop_zero, Nat.sub_zero, List.take_of_length_le (show ((bts s).drop t).length ≤ s.size - t by rw [List.length_drop, bts_length]; omega)])
            have hmix : Tryd.prog.follows .mixedOrders = true := by kernel_rfl
            have haI : (0 : Int) ≤ (a : Int) := by omega
            have haS : (a : Int) ≤ (s.size : Int) := by omega
            have htI : (0 : Int) ≤ (t : Int) := by omega
            have htS : (t : Int) ≤ (s.size : Int) := by omega
            by_cases hlt : t < s.size
            · have HG := Lib.hid (bts_get s hlt)
              by_cases hc : s[t] = 32
              · have hci : (s[t].toNat : Int) = 32 := by rw [hc]; rfl
                have hci' : ((s[t].toNat : Int) == 32) = true := by simpa using hci
                have HN := Lib.hid (trimLeft_blank (show (bts s)[t]? = some 32 by rw [HG.out, hc]))
                clear hc
                go_wp2
                go_round
                case rel => exact ⟨t + 1, by go_num, by omega, by omega, Lib.hid (by rw [hq.out, HN.out])⟩
                case measure => simp [intOf]; omega
              · have hci : ¬ (s[t].toNat : Int) = 32 := fun h => hc (UInt8.toNat_inj.1 (by simp; omega))
                have hci' : ((s[t].toNat : Int) == 32) = false := by simpa using hci
                have HE := Lib.hid (endp.out (by rw [HG.out]; intro e; injection e with e; exact hc e))
                clear hc
                go_wp2
                go_region
                all_goals
                  go_wp2
                  refine bodyPost_ret (v := .agg #[.string (s.extract 0 a ++ s.extract t s.size), .int .i64 0]) (by simp [results, Tryd.results67, go_sem, p1, p2]) rfl ?_
                  exact givesA HR2.out HE.out ((HB5.out.step (Below.refl _ _).drew).fin _ _)
            · have HE := Lib.hid (endp.out (by rw [List.getElem?_eq_none (by rw [bts_length]; omega)]; simp))
              go_wp2
              go_region
              all_goals
                go_wp2
                refine bodyPost_ret (v := .agg #[.string (s.extract 0 a ++ s.extract t s.size), .int .i64 0]) (by simp [results, Tryd.results67, go_sem, p1, p2]) rfl ?_
                exact givesA HR2.out HE.out ((HB5.out.step (Below.refl _ _).drew).fin _ _)
end Go.Proofs.YtoilgjlbpimcpaaDoor
