/- The other program's Words, Word, WordIndex, WordLength: the functions. -/
import Derived.Test.YtoilgjlbpimcpaaDoorZf
namespace Go.Proofs.YtoilgjlbpimcpaaDoor
open Go.RowKit Go.Shelf Tx
set_option linter.unusedVariables false
set_option maxRecDepth 100000

set_option maxHeartbeats 2000000 in
theorem RWords_any (s : ByteArray) (w : World) (hss : s.size ≤ maxLen) :
    Calls Tryd.prog 62 #[.string s] w (GivesM w (wordsR (bts s))) := by
  have KVs := fun (W : World) => Lib.hid (RValid_any s W hss)
  cases hv0 : validL (bts s) with
  | false =>
    rw [hv0] at KVs
    have HR := Lib.hid (show wordsR (bts s) = (0, 1) by unfold wordsR guardN; simp only [hv0, Bool.and_false, Bool.false_and, Bool.true_and, Bool.and_true]; rfl)
    clear hv0
    go_enter Tryd.func62, Tryd.ntmps62
    go_wp2_with (first
      | (go_at_call 32; (with_reducible refine Calls.mono (KVs _).out ?_); rintro e w1 ⟨rfl, rfl⟩))
    refine bodyPost_ret (v := .agg #[.int .i64 0, .int .i64 1]) (by simp [results, Tryd.results62, go_sem]) rfl ?_
    exact givesM HR.out ((Below.refl _ w).alloc (Nat.le_refl _) _)
  | true =>
    rw [hv0] at KVs
    have hlen := valid_le hv0
    have KS := fun W => Lib.hid (Spans_any s W (by omega))
    have HR := Lib.hid (show wordsR (bts s) = (((spans (bts s)).length : Int), 0) by unfold wordsR guardN; rw [hv0]; rfl)
    clear hv0
    go_enter Tryd.func62, Tryd.ntmps62
    go_wp2_with (first
      | (go_at_call 32; (with_reducible refine Calls.mono (KVs _).out ?_); rintro e w1 ⟨rfl, rfl⟩)
      | (go_at_call 134; (with_reducible refine Calls.mono (KS _).out ?_); rintro e w4 ⟨vs, rfl, hsp, hb1⟩; have HB5 := Lib.hid ((nbB_new 49 w).step hb1); obtain ⟨p1, p2, f1, f2⟩ := HB5.out.facts; obtain ⟨ao, cap, rfl⟩ := sps_shape hsp; clear hb1 hsp))
    refine bodyPost_ret (v := .agg #[.int .i64 ((spans (bts s)).length : Int), .int .i64 0]) (by simp [results, Tryd.results62, go_sem, p1, p2]) rfl ?_
    exact givesM HR.out (HB5.out.fin _ _)
theorem Tx.nth_no {L : List (Nat × Nat)} {n : Int} {p : (Nat × Nat) × Bool} (h : p = nthL L n) : p.2 = false → p.1 = (0, 0) := by
  subst h
  unfold nthL
  split
  · intro e; cases e
  · intro _; rfl
set_option maxHeartbeats 2000000 in
theorem RWord_any (s : ByteArray) (n : Int) (w : World) (hss : s.size ≤ maxLen) (hn2 : n ≤ 9223372036854775807) :
    Calls Tryd.prog 63 #[.string s, .int .i64 n] w (GivesA w (wordR (bts s) n)) := by
  have KVs := fun (W : World) => Lib.hid (RValid_any s W hss)
  have KAn := fun (W : World) => Lib.hid (Rwhole0_any n 1 W)
  cases hv0 : validL (bts s) with
  | false =>
    rw [hv0] at KVs
    have HR := Lib.hid (show wordR (bts s) n = ([], 1) by unfold wordR guardR; simp only [hv0, Bool.and_false, Bool.false_and, Bool.true_and, Bool.and_true]; rfl)
    clear hv0
    go_enter Tryd.func63, Tryd.ntmps63
    go_wp2_with (first
      | (go_at_call 32; (with_reducible refine Calls.mono (KVs _).out ?_); rintro e w1 ⟨rfl, rfl⟩))
    refine bodyPost_ret (v := .agg #[.string ⟨#[]⟩, .int .i64 1]) (by simp [results, Tryd.results63, go_sem]) rfl ?_
    exact givesA HR.out rfl ((Below.refl _ w).alloc (Nat.le_refl _) _)
  | true =>
    rw [hv0] at KVs
    cases hv1 : decide (1 ≤ n) with
    | false =>
      rw [hv1] at KAn
      have HR := Lib.hid (show wordR (bts s) n = ([], 1) by unfold wordR guardR; simp only [hv0, hv1, Bool.and_false, Bool.false_and, Bool.true_and, Bool.and_true]; rfl)
      clear hv0 hv1
      go_enter Tryd.func63, Tryd.ntmps63
      go_wp2_with (first
        | (go_at_call 32; (with_reducible refine Calls.mono (KVs _).out ?_); rintro e w1 ⟨rfl, rfl⟩)
        | (go_at_call 106; (with_reducible refine Calls.mono (KAn _).out ?_); rintro e w1 ⟨rfl, rfl⟩))
      refine bodyPost_ret (v := .agg #[.string ⟨#[]⟩, .int .i64 1]) (by simp [results, Tryd.results63, go_sem]) rfl ?_
      exact givesA HR.out rfl ((Below.refl _ w).alloc (Nat.le_refl _) _)
    | true =>
      rw [hv1] at KAn
      have hlen := valid_le hv0
      have hn := of_decide_eq_true hv1
      have hx := nth_le (bts s) hn
      rw [bts_length] at hx
      have KN := fun W => Lib.hid (Rword_any s n W (by omega) hn hn2)
      have HR := Lib.hid (show wordR (bts s) n = (wordL (bts s) (nthL (spans (bts s)) n).1, 0) by unfold wordR guardR; rw [hv0, hv1]; rfl)
      obtain ⟨p, hp⟩ : ∃ p, p = nthL (spans (bts s)) n := ⟨_, rfl⟩
      rw [← hp] at HR hx KN
      have HPQ := Lib.hid (nth_no hp)
      clear hv0 hv1 hp hn2
      obtain ⟨⟨a, b⟩, q⟩ := p
      unfold spv at KN
      have hab : a ≤ b := hx.1
      have hbs : b ≤ s.size := hx.2
      clear hx hn
      have HX := Lib.hid (show bts (s.extract a b) = wordL (bts s) (a, b) by rw [bts_extract]; unfold wordL; rw [List.drop_take])
      cases q with
      | false =>
        have HR2 := Lib.hid (show wordR (bts s) n = ([], 0) by
          have hz := HPQ.out rfl
          injection hz with hz1 hz2
          rw [HR.out, hz1, hz2]; rfl)
        go_enter Tryd.func63, Tryd.ntmps63
        go_wp2_with (first
          | (go_at_call 32; (with_reducible refine Calls.mono (KVs _).out ?_); rintro e w1 ⟨rfl, rfl⟩)
          | (go_at_call 106; (with_reducible refine Calls.mono (KAn _).out ?_); rintro e w1 ⟨rfl, rfl⟩)
          | (go_at_call 135; refine Calls.mono (KN _).out ?_; rintro e w4 ⟨rfl, hb4⟩; have HB4 := Lib.hid ((sbB_new w).step hb4); have HB5 := Lib.hid (HB4.out.step ((Below.refl _ w4).alloc (Nat.le_refl _) (.cells #[.int .i64 (a : Int), .int .i64 (b : Int)] 132))); obtain ⟨p1, p2, f1, f2⟩ := HB5.out.facts; clear hb4))
        refine bodyPost_ret (v := .agg #[.string ⟨#[]⟩, .int .i64 0]) (by simp [results, Tryd.results63, go_sem, p1, p2]) rfl ?_
        exact givesA HR2.out rfl (HB5.out.fin _ _)
      | true =>
        go_enter Tryd.func63, Tryd.ntmps63
        go_wp2_with (first
          | (go_at_call 32; (with_reducible refine Calls.mono (KVs _).out ?_); rintro e w1 ⟨rfl, rfl⟩)
          | (go_at_call 106; (with_reducible refine Calls.mono (KAn _).out ?_); rintro e w1 ⟨rfl, rfl⟩)
          | (go_at_call 135; refine Calls.mono (KN _).out ?_; rintro e w4 ⟨rfl, hb4⟩; have HB4 := Lib.hid ((sbB_new w).step hb4); have HB5 := Lib.hid (HB4.out.step ((Below.refl _ w4).alloc (Nat.le_refl _) (.cells #[.int .i64 (a : Int), .int .i64 (b : Int)] 132))); obtain ⟨p1, p2, f1, f2⟩ := HB5.out.facts; clear hb4))
        refine bodyPost_ret (v := .agg #[.string (s.extract a b), .int .i64 0]) (by simp [results, Tryd.results63, go_sem, p1, p2]) rfl ?_
        exact givesA HR.out HX.out (HB5.out.fin _ _)
set_option maxHeartbeats 2000000 in
theorem RWordIndex_any (s : ByteArray) (n : Int) (w : World) (hss : s.size ≤ maxLen) (hn2 : n ≤ 9223372036854775807) :
    Calls Tryd.prog 64 #[.string s, .int .i64 n] w (GivesM w (wordIndexR (bts s) n)) := by
  have KVs := fun (W : World) => Lib.hid (RValid_any s W hss)
  have KAn := fun (W : World) => Lib.hid (Rwhole0_any n 1 W)
  cases hv0 : validL (bts s) with
  | false =>
    rw [hv0] at KVs
    have HR := Lib.hid (show wordIndexR (bts s) n = (0, 1) by unfold wordIndexR guardN; simp only [hv0, Bool.and_false, Bool.false_and, Bool.true_and, Bool.and_true]; rfl)
    clear hv0
    go_enter Tryd.func64, Tryd.ntmps64
    go_wp2_with (first
      | (go_at_call 32; (with_reducible refine Calls.mono (KVs _).out ?_); rintro e w1 ⟨rfl, rfl⟩))
    refine bodyPost_ret (v := .agg #[.int .i64 0, .int .i64 1]) (by simp [results, Tryd.results64, go_sem]) rfl ?_
    exact givesM HR.out ((Below.refl _ w).alloc (Nat.le_refl _) _)
  | true =>
    rw [hv0] at KVs
    cases hv1 : decide (1 ≤ n) with
    | false =>
      rw [hv1] at KAn
      have HR := Lib.hid (show wordIndexR (bts s) n = (0, 1) by unfold wordIndexR guardN; simp only [hv0, hv1, Bool.and_false, Bool.false_and, Bool.true_and, Bool.and_true]; rfl)
      clear hv0 hv1
      go_enter Tryd.func64, Tryd.ntmps64
      go_wp2_with (first
        | (go_at_call 32; (with_reducible refine Calls.mono (KVs _).out ?_); rintro e w1 ⟨rfl, rfl⟩)
        | (go_at_call 106; (with_reducible refine Calls.mono (KAn _).out ?_); rintro e w1 ⟨rfl, rfl⟩))
      refine bodyPost_ret (v := .agg #[.int .i64 0, .int .i64 1]) (by simp [results, Tryd.results64, go_sem]) rfl ?_
      exact givesM HR.out ((Below.refl _ w).alloc (Nat.le_refl _) _)
    | true =>
      rw [hv1] at KAn
      have hlen := valid_le hv0
      have hn := of_decide_eq_true hv1
      have hx := nth_le (bts s) hn
      rw [bts_length] at hx
      have KN := fun W => Lib.hid (Rword_any s n W (by omega) hn hn2)
      have HR := Lib.hid (show wordIndexR (bts s) n = (if (nthL (spans (bts s)) n).2 then (((nthL (spans (bts s)) n).1.1 : Int) + 1, 0) else (0, 0)) by unfold wordIndexR guardN; rw [hv0, hv1]; rfl)
      obtain ⟨p, hp⟩ : ∃ p, p = nthL (spans (bts s)) n := ⟨_, rfl⟩
      rw [← hp] at HR hx KN
      have HPQ := Lib.hid (nth_no hp)
      clear hv0 hv1 hp hn2
      obtain ⟨⟨a, b⟩, q⟩ := p
      unfold spv at KN
      have hab : a ≤ b := hx.1
      have hbs : b ≤ s.size := hx.2
      clear hx hn
      cases q with
      | false =>
        have HR2 := Lib.hid (show wordIndexR (bts s) n = (0, 0) by rw [HR.out]; rfl)
        go_enter Tryd.func64, Tryd.ntmps64
        go_wp2_with (first
          | (go_at_call 32; (with_reducible refine Calls.mono (KVs _).out ?_); rintro e w1 ⟨rfl, rfl⟩)
          | (go_at_call 106; (with_reducible refine Calls.mono (KAn _).out ?_); rintro e w1 ⟨rfl, rfl⟩)
          | (go_at_call 135; refine Calls.mono (KN _).out ?_; rintro e w4 ⟨rfl, hb4⟩; have HB4 := Lib.hid ((nbB_new 49 w).step hb4); have HB5 := Lib.hid (HB4.out.step ((Below.refl _ w4).alloc (Nat.le_refl _) (.cells #[.int .i64 (a : Int), .int .i64 (b : Int)] 132))); obtain ⟨p1, p2, f1, f2⟩ := HB5.out.facts; clear hb4))
        refine bodyPost_ret (v := .agg #[.int .i64 0, .int .i64 0]) (by simp [results, Tryd.results64, go_sem, p1, p2]) rfl ?_
        exact givesM HR2.out (HB5.out.fin _ _)
      | true =>
        have HR2 := Lib.hid (show wordIndexR (bts s) n = ((a : Int) + 1, 0) by rw [HR.out]; rfl)
        have hwr : IntKind.i64.wrap ((a : Int) + 1) = (a : Int) + 1 := IntWalk.i64_in _ (by omega)
        go_enter Tryd.func64, Tryd.ntmps64
        go_wp2_with (first
          | (go_at_call 32; (with_reducible refine Calls.mono (KVs _).out ?_); rintro e w1 ⟨rfl, rfl⟩)
          | (go_at_call 106; (with_reducible refine Calls.mono (KAn _).out ?_); rintro e w1 ⟨rfl, rfl⟩)
          | (go_at_call 135; refine Calls.mono (KN _).out ?_; rintro e w4 ⟨rfl, hb4⟩; have HB4 := Lib.hid ((nbB_new 49 w).step hb4); have HB5 := Lib.hid (HB4.out.step ((Below.refl _ w4).alloc (Nat.le_refl _) (.cells #[.int .i64 (a : Int), .int .i64 (b : Int)] 132))); obtain ⟨p1, p2, f1, f2⟩ := HB5.out.facts; clear hb4))
        refine bodyPost_ret (v := .agg #[.int .i64 ((a : Int) + 1), .int .i64 0]) (by simp [results, Tryd.results64, go_sem, p1, p2]) rfl ?_
        exact givesM HR2.out (HB5.out.fin _ _)
set_option maxHeartbeats 2000000 in
theorem RWordLength_any (s : ByteArray) (n : Int) (w : World) (hss : s.size ≤ maxLen) (hn2 : n ≤ 9223372036854775807) :
    Calls Tryd.prog 65 #[.string s, .int .i64 n] w (GivesM w (wordLengthR (bts s) n)) := by
  have KVs := fun (W : World) => Lib.hid (RValid_any s W hss)
  have KAn := fun (W : World) => Lib.hid (Rwhole0_any n 1 W)
  cases hv0 : validL (bts s) with
  | false =>
    rw [hv0] at KVs
    have HR := Lib.hid (show wordLengthR (bts s) n = (0, 1) by unfold wordLengthR guardN; simp only [hv0, Bool.and_false, Bool.false_and, Bool.true_and, Bool.and_true]; rfl)
    clear hv0
    go_enter Tryd.func65, Tryd.ntmps65
    go_wp2_with (first
      | (go_at_call 32; (with_reducible refine Calls.mono (KVs _).out ?_); rintro e w1 ⟨rfl, rfl⟩))
    refine bodyPost_ret (v := .agg #[.int .i64 0, .int .i64 1]) (by simp [results, Tryd.results65, go_sem]) rfl ?_
    exact givesM HR.out ((Below.refl _ w).alloc (Nat.le_refl _) _)
  | true =>
    rw [hv0] at KVs
    cases hv1 : decide (1 ≤ n) with
    | false =>
      rw [hv1] at KAn
      have HR := Lib.hid (show wordLengthR (bts s) n = (0, 1) by unfold wordLengthR guardN; simp only [hv0, hv1, Bool.and_false, Bool.false_and, Bool.true_and, Bool.and_true]; rfl)
      clear hv0 hv1
      go_enter Tryd.func65, Tryd.ntmps65
      go_wp2_with (first
        | (go_at_call 32; (with_reducible refine Calls.mono (KVs _).out ?_); rintro e w1 ⟨rfl, rfl⟩)
        | (go_at_call 106; (with_reducible refine Calls.mono (KAn _).out ?_); rintro e w1 ⟨rfl, rfl⟩))
      refine bodyPost_ret (v := .agg #[.int .i64 0, .int .i64 1]) (by simp [results, Tryd.results65, go_sem]) rfl ?_
      exact givesM HR.out ((Below.refl _ w).alloc (Nat.le_refl _) _)
    | true =>
      rw [hv1] at KAn
      have hlen := valid_le hv0
      have hn := of_decide_eq_true hv1
      have hx := nth_le (bts s) hn
      rw [bts_length] at hx
      have KN := fun W => Lib.hid (Rword_any s n W (by omega) hn hn2)
      have HR := Lib.hid (show wordLengthR (bts s) n = (((nthL (spans (bts s)) n).1.2 : Int) - ((nthL (spans (bts s)) n).1.1 : Int), 0) by unfold wordLengthR guardN; rw [hv0, hv1]; rfl)
      obtain ⟨p, hp⟩ : ∃ p, p = nthL (spans (bts s)) n := ⟨_, rfl⟩
      rw [← hp] at HR hx KN
      have HPQ := Lib.hid (nth_no hp)
      clear hv0 hv1 hp hn2
      obtain ⟨⟨a, b⟩, q⟩ := p
      unfold spv at KN
      have hab : a ≤ b := hx.1
      have hbs : b ≤ s.size := hx.2
      clear hx hn
      have hwr : IntKind.i64.wrap ((b : Int) - (a : Int)) = (b : Int) - (a : Int) := IntWalk.i64_in _ (by omega)
      go_enter Tryd.func65, Tryd.ntmps65
      go_wp2_with (first
        | (go_at_call 32; (with_reducible refine Calls.mono (KVs _).out ?_); rintro e w1 ⟨rfl, rfl⟩)
        | (go_at_call 106; (with_reducible refine Calls.mono (KAn _).out ?_); rintro e w1 ⟨rfl, rfl⟩)
        | (go_at_call 135; refine Calls.mono (KN _).out ?_; rintro e w4 ⟨rfl, hb4⟩; have HB4 := Lib.hid ((nbB_new 49 w).step hb4); have HB5 := Lib.hid (HB4.out.step ((Below.refl _ w4).alloc (Nat.le_refl _) (.cells #[.int .i64 (a : Int), .int .i64 (b : Int)] 132))); obtain ⟨p1, p2, f1, f2⟩ := HB5.out.facts; clear hb4))
      refine bodyPost_ret (v := .agg #[.int .i64 ((b : Int) - (a : Int)), .int .i64 0]) (by simp [results, Tryd.results65, go_sem, p1, p2]) rfl ?_
      exact givesM HR.out (HB5.out.fin _ _)
end Go.Proofs.YtoilgjlbpimcpaaDoor
