/- TextWordy, as a call. -/
import Derived.Test.YtoilgjlbpimcpaaDoorNa
import Derived.Test.YtoilgjlbpimcpaaDoorZz
import Derived.Test.YtoilgjlbpimcpaaDoorZj
import Derived.BigQuiet
namespace Go.Proofs.YtoilgjlbpimcpaaDoor
open Go.RowKit Go.Shelf Tx
set_option linter.unusedVariables false
set_option maxRecDepth 100000

theorem toList_bt (s : ByteArray) : s.toList = bts s := by simp [bts, ByteArray.toList_eq]
set_option maxHeartbeats 4000000 in
theorem same_any (a s : ByteArray) (w : World) (hsa : a.size ≤ 1000) (hss : s.size ≤ 1000) (heq : wordsL (bts a) = wordsL (bts s)) :
    Calls Tryd.prog 93 #[.string a, .string s] w fun e w' => e = .returned (.bool true) ∧ Below w.heap.size w w' := by
  have KA := fun W => Lib.hid (Spans_any a W (by omega))
  have KS := fun W => Lib.hid (Spans_any s W (by omega))
  have hl1 := wordsL_length (bts a)
  have hl2 := wordsL_length (bts s)
  have hk1 := spans_length (bts a)
  rw [bts_length] at hk1
  obtain ⟨k, hk⟩ : ∃ k, (spans (bts a)).length = k := ⟨_, rfl⟩
  rw [heq, hl2, hk] at hl1
  rw [hk] at hk1
  have HKA := Lib.hid hk
  have HKS := Lib.hid hl1
  have HEQ := Lib.hid heq
  have hk2 : k ≤ 1001 := by omega
  have hmix : Tryd.prog.follows .mixedOrders = true := by kernel_rfl
  clear hl1 hl2 hk1 hk heq
  by_cases hk0 : k = 0
  · subst hk0
    go_enter Tryd.func93, Tryd.ntmps93
    go_wp2_with (go_at_call 134; first
      | ((with_reducible refine Calls.mono (KA _).out ?_); clear KA; rintro e w4 ⟨v4, rfl, hs4, hb4⟩; obtain ⟨a4, cap4, rfl⟩ := sps_shape hs4; rw [HKA.out]; clear hs4)
      | ((with_reducible refine Calls.mono (KS _).out ?_); rintro e w5 ⟨v5, rfl, hs5, hb5⟩; have hbb : Below w.heap.size w w5 := hb4.trans (hb5.mono hb4.size); obtain ⟨a5, cap5, rfl⟩ := sps_shape hs5; rw [HKS.out]; clear hs5))
    go_loop [7] (fun v => v = .int .i64 0) (fun _ => 0)
    case atStart => rfl
    case round =>
      subst hrel
      go_wp2
      go_ret
      exact ⟨rfl, hbb⟩
  · go_enter Tryd.func93, Tryd.ntmps93
    go_wp2_with (go_at_call 134; first
      | ((with_reducible refine Calls.mono (KA _).out ?_); clear KA; rintro e w4 ⟨v4, rfl, hs4, hb4⟩; obtain ⟨g4, cap4, hv4, hg4, hc4⟩ := sps_cells hs4 (by intro e; have := HKA.out; rw [e] at this; simp at this; omega); rw [HKA.out] at hv4; subst hv4; have HC4 := Lib.hid hc4; have HG4 := Lib.hid hg4; have HB4 := Lib.hid hb4; clear hs4 hc4 hg4 hb4)
      | ((with_reducible refine Calls.mono (KS _).out ?_); rintro e w5 ⟨v5, rfl, hs5, hb5⟩; have hbb := Lib.hid (HB4.out.trans (hb5.mono HB4.out.size)); obtain ⟨g5, cap5, hv5, hg5, hc5⟩ := sps_cells hs5 (by intro e; have := HKS.out; rw [e] at this; simp at this; omega); rw [HKS.out] at hv5; subst hv5; have HC5 := Lib.hid hc5; have HC45 := Lib.hid (show ∀ (i : Nat) (q : Nat × Nat), (spans (bts a))[i]? = some q → w5.cell? ⟨g4, i * 2, none⟩ = some (.int .i64 (q.1 : Int)) ∧ w5.cell? ⟨g4, i * 2 + 1, none⟩ = some (.int .i64 (q.2 : Int)) from fun i q hq => ⟨(hb5.cell (p := ⟨g4, i * 2, none⟩) HG4.out).trans (HC4.out i q hq).1, (hb5.cell (p := ⟨g4, i * 2 + 1, none⟩) HG4.out).trans (HC4.out i q hq).2⟩); clear hs5 hc5 hg5 hb5))
    go_loopw [7] (fun v wr => ∃ j nd : Nat, v = .int .i64 (j : Int) ∧ j ≤ k ∧ wr = w5.drewN nd) (fun v _ => k - (intOf v).toNat)
    case atStart => exact ⟨0, 0, rfl, Nat.zero_le _, rfl⟩
    case round =>
      obtain ⟨j, nd, rfl, hj, rfl⟩ := hrel
      by_cases hjk : j < k
      · obtain ⟨⟨q1, q2⟩, hqq⟩ : ∃ q, (spans (bts a))[j]? = some q := ⟨_, List.getElem?_eq_getElem (by rw [HKA.out]; exact hjk)⟩
        obtain ⟨⟨r1, r2⟩, hrr⟩ : ∃ q, (spans (bts s))[j]? = some q := ⟨_, List.getElem?_eq_getElem (by rw [HKS.out]; exact hjk)⟩
        have hq12 := (spans_inv (bts a)).1 _ (List.mem_of_getElem? hqq)
        have hr12 := (spans_inv (bts s)).1 _ (List.mem_of_getElem? hrr)
        rw [bts_length] at hq12 hr12
        dsimp only at hq12 hr12
        have c1 := (HC45.out j _ hqq).1
        have c2 := (HC45.out j _ hqq).2
        have c3 := (HC5.out j _ hrr).1
        have c4 := (HC5.out j _ hrr).2
        have hwe : wordL (bts a) (q1, q2) = wordL (bts s) (r1, r2) := by
          have h1 := wordsL_get hqq
          have h2 := wordsL_get hrr
          rw [HEQ.out, h2] at h1
          exact (Option.some.inj h1).symm
        have hte : (a.extract q1 q2).toList = (s.extract r1 r2).toList := by
          have h1 : bts (a.extract q1 q2) = wordL (bts a) (q1, q2) := by rw [bts_extract]; unfold wordL; rw [List.drop_take]
          have h2 : bts (s.extract r1 r2) = wordL (bts s) (r1, r2) := by rw [bts_extract]; unfold wordL; rw [List.drop_take]
          rw [toList_bt, toList_bt, h1, h2, hwe]
        have hwj : IntKind.i64.wrap ((j : Int) + 1) = (j : Int) + 1 := IntWalk.i64_in _ (by omega)
        clear hqq hrr hwe
        dsimp only at c1 c2 c3 c4
        have hne : ((a.extract q1 q2).toList != (s.extract r1 r2).toList) = false := by rw [hte]; simp
        go_wp2
        go_quiet (fail)
        go_wp2
        go_roundw
        case rel => exact ⟨j + 1, _, by go_num, by omega, rfl⟩
        case measure => simp [intOf]; omega
      · go_wp2
        go_ret
        exact ⟨rfl, below_drewN hbb.out _⟩
namespace Tx
theorem cl_of {l m : List UInt8} (h : cleanL l = true) (hm : ∀ c ∈ m, c ∈ l) : cleanL m = true := by
  unfold cleanL at *
  rw [List.all_eq_true] at *
  exact fun c hc => h c (hm c hc)
theorem cl_two {l m : List UInt8} (h : cleanL l = true) (h2 : cleanL m = true) : cleanL (l ++ m) = true := by
  unfold cleanL at *
  rw [List.all_append, h, h2]; rfl
theorem cl_join : ∀ (ws : List (List UInt8)), (∀ w ∈ ws, cleanL w = true) → cleanL (Lib.join ws [32]) = true
  | [], _ => rfl
  | w :: r, h => by
    rw [Lib.join_cons]
    refine cl_two (h w (by simp)) ?_
    unfold Lib.joinTail
    unfold cleanL
    rw [List.all_eq_true]
    intro c hc
    obtain ⟨m, hm, hcm⟩ := List.mem_flatten.1 hc
    obtain ⟨v, hv, rfl⟩ := List.mem_map.1 hm
    rcases List.mem_append.1 hcm with hh | hh
    · rw [List.mem_singleton.1 hh]; decide
    · have := h v (List.mem_cons_of_mem _ hv)
      unfold cleanL at this
      rw [List.all_eq_true] at this
      exact this c hh
theorem v_mk {l : List UInt8} (h1 : l.length ≤ 1000) (h2 : cleanL l = true) : validL l = true := by unfold validL; rw [h2, decide_eq_true h1]; rfl
theorem v_len {l : List UInt8} (h : validL l = true) : l.length ≤ 1000 := by unfold validL at h; rw [Bool.and_eq_true, decide_eq_true_eq] at h; exact h.1
theorem v_cl {l : List UInt8} (h : validL l = true) : cleanL l = true := by unfold validL at h; rw [Bool.and_eq_true] at h; exact h.2
theorem v_join {l : List UInt8} (h : validL l = true) : validL (Lib.join (wordsL l) [32]) = true := by
  refine v_mk ?_ (cl_join _ (fun w hw => cl_of (v_cl h) (fun c hc => ?_)))
  · by_cases h0 : wordsL l = []
    · rw [h0]; exact Nat.zero_le _
    · exact Nat.le_trans (join_le l h0).1 (v_len h)
  · unfold wordsL at hw
    obtain ⟨p, _, rfl⟩ := List.mem_map.1 hw
    unfold wordL at hc
    exact List.mem_of_mem_take (List.mem_of_mem_drop hc)
theorem space_one {l : List UInt8} (h : validL l = true) : spaceR l 1 32 = (Lib.join (wordsL l) [32], 0) := by
  unfold spaceR guardR
  rw [h]
  show (if (spans l).length = 0 then (([] : List UInt8), (0 : Int)) else _) = _
  by_cases h0 : (spans l).length = 0
  · rw [if_pos h0, wordsL_nil h0]; rfl
  · have hne : wordsL l ≠ [] := by intro e; have := wordsL_length l; rw [e] at this; simp at this; omega
    have hj := (join_le l hne).2
    rw [wordsL_length] at hj
    have hl := v_len h
    have ht : timesS 1 (((spans l).length - 1 : Nat) : Int) = (((spans l).length - 1 : Nat) : Int) := by
      unfold timesS
      rw [if_neg, Int.one_mul]
      rintro ⟨h1, h2⟩
      have : 1 ≤ 1000 / (((spans l).length - 1 : Nat) : Int) := Int.le_ediv_of_mul_le h1 (by omega)
      omega
    rw [if_neg h0, ht, if_neg (by omega)]
    rfl
theorem space_two {l : List UInt8} (h : validL l = true) : spaceR (Lib.join (wordsL l) [32]) 1 32 = (Lib.join (wordsL l) [32], 0) := by
  rw [space_one (v_join h), words_join _ (words_are l)]
end Tx
theorem str_ex2 (l : List UInt8) : ∃ t : ByteArray, bts t = l := ⟨⟨l.toArray⟩, bts_mk l⟩
theorem givesS_to2 {w : World} {l : List UInt8} {k : Int} {r : Res} {t0 : ByteArray} (hr : r = (l, k)) (ht0 : bts t0 = l) {e : Ending} {w' : World} (h : GivesS w r e w') : e = .returned (.tuple #[.string t0, .int .i64 k]) ∧ Below w.heap.size w w' := by
  subst hr
  obtain ⟨t, rfl, ht, hb⟩ := h
  rw [show t = t0 from bts_inj (ht.out.trans ht0.symm)]
  exact ⟨rfl, hb⟩
set_option maxHeartbeats 8000000 in
theorem TextWordy_nat (s : ByteArray) (n m : Nat) (w : World) (hss : s.size ≤ maxLen) (hn : n ≤ 255) (hm : m ≤ 255) :
    Calls Tryd.prog 14 #[.string s, .int .u8 (n : Int), .int .u8 (m : Int)] w fun e w' => e = .returned (.bool true) ∧ Below w.heap.size w w' := by
  have KH := fun W => Lib.hid (head_any W)
  have KV := fun W => Lib.hid (Valid_any s W hss)
  cases hv : validL (bts s) with
  | false =>
    rw [hv] at KV
    clear hv
    go_enter Tryd.func14, Tryd.ntmps14
    go_wp2_with (first
      | (go_at_call 16; refine Calls.mono (KH _).out ?_; rintro e w1 ⟨rfl, hb0⟩)
      | (go_at_call 31; (with_reducible refine Calls.mono (KV _).out ?_); rintro e w1 ⟨rfl, hb1⟩))
    go_ret
    exact ⟨by first | rfl | simp, (by repeat (first | assumption | refine Bl.step ?_ (by assumption)))⟩
  | true =>
    rw [hv] at KV
    have hlen := valid_le hv
    have hlw := spans_length (bts s)
    rw [bts_length] at hlw
    obtain ⟨a, ha⟩ := str_ex2 (Lib.join (wordsL (bts s)) [32])
    have hal : a.size ≤ 1000 := by have := size_of_bts ha; have h2 := v_len (v_join hv); omega
    have KA := fun W => Lib.hid ((Space_any s 1 32 W hss (by omega)).mono (fun e w' h => givesS_to2 (space_one hv) ha h))
    have KB := fun W => Lib.hid ((Space_any a 1 32 W (by unfold maxLen; omega) (by omega)).mono (fun e w' h => givesS_to2 (show spaceR (bts a) 1 32 = (bts a, 0) by rw [ha]; exact space_two hv) rfl h))
    have KSM := fun W => Lib.hid (same_any a s W hal hlen (by rw [ha]; exact words_join _ (words_are _)))
    obtain ⟨k, hk⟩ : ∃ k, (spans (bts s)).length = k := ⟨_, rfl⟩
    have hk1 : k ≤ 1001 := by omega
    have KWS := fun W => Lib.hid ((Words_any s W hss).mono (fun e w' h => givesN_at (show wordsR (bts s) = ((k : Int), 0) by unfold wordsR guardN; rw [hv, hk]; rfl) h))
    have hwn : IntKind.i64.wrap ((n : Int) + 1) = (n : Int) + 1 := IntWalk.i64_in _ (by omega)
    have hd1 : (decide ((m : Int) = -1) || decide (0 ≤ (m : Int))) = true := by rw [decide_eq_true (show (0 : Int) ≤ (m : Int) by omega)]; simp
    have hd2 : decide (1 ≤ (n : Int) + 1) = true := decide_eq_true (by omega)
    have hwl := wordsL_length (bts s)
    rw [hk] at hwl
    by_cases hno : (k : Int) < (n : Int) + 1 ∨ (m : Int) = 0
    · have hsm : someL (spans (bts s)) ((n : Int) + 1) (m : Int) = (0, 0) := by unfold someL; rw [hk, if_pos hno]
      have KX := fun W => Lib.hid ((Subword_any s ((n : Int) + 1) m W hss (by omega) (by omega)).mono (fun e w' h => givesS_to2 (t0 := ⟨#[]⟩) (show subwordR (bts s) ((n : Int) + 1) m = ([], 0) by unfold subwordR guardR; rw [hv, hd1, hd2, hsm]; simp) rfl h))
      have KY := fun W => Lib.hid ((DelWord_any s ((n : Int) + 1) m W hss (by omega) (by omega)).mono (fun e w' h => givesS_to2 (show delWordR (bts s) ((n : Int) + 1) m = (bts s, 0) by unfold delWordR guardR delB; rw [hv, hd1, hd2, hsm]; simp) rfl h))
      have KWX := fun W => Lib.hid ((Words_any ⟨#[]⟩ W (by decide)).mono (fun e w' h => givesN_at (show wordsR (bts ⟨#[]⟩) = (0, 0) by decide) h))
      have hwk : IntKind.i64.wrap (0 + (k : Int)) = (k : Int) := by rw [Int.zero_add]; exact IntWalk.i64_in _ (by omega)
      have hwk2 : IntKind.i64.wrap ((k : Int)) = (k : Int) := IntWalk.i64_in _ (by omega)
      have hm0 : ¬ (m : Int) < 0 := by omega
      clear hsm hno hv ha hal hlw hk hwl hd1 hd2 hss
      go_enter Tryd.func14, Tryd.ntmps14
      go_wp2_with (first
        | (go_at_call 16; refine Calls.mono (KH _).out ?_; rintro e w1 ⟨rfl, hb0⟩)
        | (go_at_call 31; (with_reducible refine Calls.mono (KV _).out ?_); rintro e w1 ⟨rfl, hb1⟩)
        | (go_at_call 68; (with_reducible refine Calls.mono (KA _).out ?_); rintro e w1 ⟨rfl, hb2⟩)
        | (go_at_call 68; (with_reducible refine Calls.mono (KB _).out ?_); rintro e w1 ⟨rfl, hb3⟩)
        | (go_at_call 93; (with_reducible refine Calls.mono (KSM _).out ?_); rintro e w1 ⟨rfl, hb4⟩)
        | (go_at_call 60; (with_reducible refine Calls.mono (KX _).out ?_); rintro e w1 ⟨rfl, hb5⟩)
        | (go_at_call 61; (with_reducible refine Calls.mono (KY _).out ?_); rintro e w1 ⟨rfl, hb6⟩)
        | (go_at_call 56; first | ((with_reducible refine Calls.mono (KWX _).out ?_); rintro e w1 ⟨rfl, hb8⟩) | ((with_reducible refine Calls.mono (KWS _).out ?_); rintro e w1 ⟨rfl, hb7⟩)))
      go_ret
      exact ⟨by first | rfl | simp, (by repeat (first | assumption | refine Bl.step ?_ (by assumption)))⟩
    · have hnk : n < k := by omega
      have hm1 : 1 ≤ m := by omega
      obtain ⟨j, hj⟩ : ∃ j, j = lastI k n (m : Int) := ⟨_, rfl⟩
      have hjb : n ≤ j ∧ j < k ∧ j + 1 - n ≤ m := by
        rw [hj]; unfold lastI
        split
        · rename_i h; rcases h with h | h <;> omega
        · rename_i h; rw [Int.toNat_natCast]; omega
      obtain ⟨p, hp⟩ : ∃ p, (spans (bts s))[n]? = some p := ⟨_, List.getElem?_eq_getElem (by omega)⟩
      obtain ⟨q, hq⟩ : ∃ q, (spans (bts s))[j]? = some q := ⟨_, List.getElem?_eq_getElem (by omega)⟩
      obtain ⟨w1, w2, w3, w4⟩ := words_part hjb.1 hp hq
      have hsm : someL (spans (bts s)) ((n : Int) + 1) (m : Int) = (p.1, q.2) := by
        unfold someL
        rw [hk, if_neg hno, show ((n : Int) + 1 - 1).toNat = n by omega, ← hj, List.getD_eq_getElem?_getD, List.getD_eq_getElem?_getD, hp, hq]
        rfl
      obtain ⟨x, hx⟩ := str_ex2 (((bts s).drop p.1).take (q.2 - p.1))
      obtain ⟨y, hy⟩ := str_ex2 ((bts s).take p.1 ++ Lib.trimLeftB ((bts s).drop q.2) 32)
      have hvx : validL (bts x) = true := by
        rw [hx]
        refine v_mk ?_ (cl_of (v_cl hv) (fun c hc => List.mem_of_mem_drop (List.mem_of_mem_take hc)))
        rw [List.length_take, List.length_drop]; have := v_len hv; omega
      have hvy : validL (bts y) = true := by
        rw [hy]
        have ht := trimLeftB_le ((bts s).drop q.2) 32
        rw [List.length_drop] at ht
        refine v_mk ?_ (cl_two (cl_of (v_cl hv) (fun c hc => List.mem_of_mem_take hc)) (cl_of (v_cl hv) (fun c hc => List.mem_of_mem_drop ((List.dropWhile_sublist _).subset hc))))
        rw [List.length_append, List.length_take]; have := v_len hv; omega
      have zx := valid_le hvx
      have zy := valid_le hvy
      have KX := fun W => Lib.hid ((Subword_any s ((n : Int) + 1) m W hss (by omega) (by omega)).mono (fun e w' h => givesS_to2 (show subwordR (bts s) ((n : Int) + 1) m = (((bts s).drop p.1).take (q.2 - p.1), 0) by unfold subwordR guardR; rw [hv, hd1, hd2, hsm]; rfl) hx h))
      have KY := fun W => Lib.hid ((DelWord_any s ((n : Int) + 1) m W hss (by omega) (by omega)).mono (fun e w' h => givesS_to2 (show delWordR (bts s) ((n : Int) + 1) m = ((bts s).take p.1 ++ Lib.trimLeftB ((bts s).drop q.2) 32, 0) by unfold delWordR guardR delB; rw [hv, hd1, hd2, hsm]; simp only [Bool.and_self, if_true]; rw [if_neg (show ¬ p.1 = q.2 by omega)]) hy h))
      have hcx : (spans (bts x)).length = j + 1 - n := by
        rw [← wordsL_length, hx, w3, List.length_drop, List.length_take, hwl]; omega
      have hcy : (spans (bts y)).length = n + (k - (j + 1)) := by
        rw [← wordsL_length, hy, w4, List.length_append, List.length_take, List.length_drop, hwl]; omega
      obtain ⟨c1, hc1⟩ : ∃ c1, c1 = j + 1 - n := ⟨_, rfl⟩
      obtain ⟨c2, hc2⟩ : ∃ c2, c2 = n + (k - (j + 1)) := ⟨_, rfl⟩
      rw [← hc1] at hcx
      rw [← hc2] at hcy
      have hc12 : (c1 : Int) + (c2 : Int) = (k : Int) := by omega
      have KWX := fun W => Lib.hid ((Words_any x W (by unfold maxLen; omega)).mono (fun e w' h => givesN_at (show wordsR (bts x) = ((c1 : Int), 0) by unfold wordsR guardN; rw [hvx, hcx]; rfl) h))
      have KWY := fun W => Lib.hid ((Words_any y W (by unfold maxLen; omega)).mono (fun e w' h => givesN_at (show wordsR (bts y) = ((c2 : Int), 0) by unfold wordsR guardN; rw [hvy, hcy]; rfl) h))
      have hwxl : (wordsL (bts x)).length = c1 := by rw [wordsL_length, hcx]
      have hwx : wordsL (bts x) = ((wordsL (bts s)).drop n).take c1 := by rw [hx, w3, List.drop_take, hc1]
      have hoc : occW (wordsL (bts x)) (wordsL (bts s)) (n : Int) = true := by unfold occW; rw [Int.toNat_natCast, hwxl, ← hwx]; simp
      have KP := fun W => Lib.hid ((WordPos_any x s ((n : Int) + 1) W (by unfold maxLen; omega) hss (by omega)).mono (fun e w' h => givesN_at (show wordPosR (bts x) (bts s) ((n : Int) + 1) = ((n : Int) + 1, 0) by
        unfold wordPosR guardN
        rw [hvx, hv, hd2, show (n : Int) + 1 - 1 = (n : Int) by omega, fromW_step (by intro e; rw [e] at hwxl; simp at hwxl; omega) (by rw [hwl, hwxl]; omega), hoc]
        rfl) h))
      obtain ⟨t, ht⟩ := str_ex2 (wordL (bts s) p)
      have KW1 := fun W => Lib.hid ((Word_any s ((n : Int) + 1) W hss (by omega)).mono (fun e w' h => givesS_to2 (show wordR (bts s) ((n : Int) + 1) = (wordL (bts s) p, 0) by
        unfold wordR guardR nthL
        rw [hv, hd2, hk, if_pos (show (n : Int) + 1 ≤ (k : Int) by omega), show ((n : Int) + 1 - 1).toNat = n by omega, List.getD_eq_getElem?_getD, hp]
        rfl) ht h))
      have KW2 := fun W => Lib.hid ((Word_any x 1 W (by unfold maxLen; omega) (by omega)).mono (fun e w' h => givesS_to2 (show wordR (bts x) 1 = (wordL (bts s) p, 0) by
        obtain ⟨z, hz⟩ : ∃ z, (spans (bts x))[0]? = some z := ⟨_, List.getElem?_eq_getElem (by omega)⟩
        have e1 := wordsL_get hz
        have e2 := wordsL_get hp
        rw [hwx, List.getElem?_take, if_pos (by omega), List.getElem?_drop, Nat.add_zero, e2] at e1
        unfold wordR guardR nthL
        rw [hvx, hcx, if_pos (show (1 : Int) ≤ (c1 : Int) by omega), show ((1 : Int) - 1).toNat = 0 from rfl, List.getD_eq_getElem?_getD, hz]
        show (wordL (bts x) z, (0 : Int)) = _
        rw [Option.some.inj e1]) ht h))
      have hxn : x.toList ≠ [] := by
        rw [toList_bt, hx]
        intro e
        have := congrArg List.length e
        rw [List.length_take, List.length_drop] at this
        simp at this
        omega
      have hxe : x.toList.isEmpty = false := by simpa using hxn
      have hwk : IntKind.i64.wrap ((c1 : Int) + (c2 : Int)) = (k : Int) := by rw [hc12]; exact IntWalk.i64_in _ (by omega)
      have hmc : ¬ (m : Int) < (c1 : Int) := by omega
      clear hoc hsm hno hv ha hal hlw hk hwl hd1 hd2 hss hj hjb hp hq w1 w2 w3 w4 hx hy hvx hvy hcx hcy hc1 hc2 hc12 hwxl hwx ht hnk hm1
      go_enter Tryd.func14, Tryd.ntmps14
      go_wp2_with (first
        | (go_at_call 16; refine Calls.mono (KH _).out ?_; rintro e w1 ⟨rfl, hb0⟩)
        | (go_at_call 31; (with_reducible refine Calls.mono (KV _).out ?_); rintro e w1 ⟨rfl, hb1⟩)
        | (go_at_call 68; (with_reducible refine Calls.mono (KA _).out ?_); rintro e w1 ⟨rfl, hb2⟩)
        | (go_at_call 68; (with_reducible refine Calls.mono (KB _).out ?_); rintro e w1 ⟨rfl, hb3⟩)
        | (go_at_call 93; (with_reducible refine Calls.mono (KSM _).out ?_); rintro e w1 ⟨rfl, hb4⟩)
        | (go_at_call 60; (with_reducible refine Calls.mono (KX _).out ?_); rintro e w1 ⟨rfl, hb5⟩)
        | (go_at_call 61; (with_reducible refine Calls.mono (KY _).out ?_); rintro e w1 ⟨rfl, hb6⟩)
        | (go_at_call 56; first | ((with_reducible refine Calls.mono (KWS _).out ?_); rintro e w1 ⟨rfl, hb7⟩) | ((with_reducible refine Calls.mono (KWX _).out ?_); rintro e w1 ⟨rfl, hb8⟩) | ((with_reducible refine Calls.mono (KWY _).out ?_); rintro e w1 ⟨rfl, hb9⟩))
        | (go_at_call 69; (with_reducible refine Calls.mono (KP _).out ?_); rintro e w1 ⟨rfl, hb10⟩)
        | (go_at_call 57; first | ((with_reducible refine Calls.mono (KW1 _).out ?_); rintro e w1 ⟨rfl, hb11⟩) | ((with_reducible refine Calls.mono (KW2 _).out ?_); rintro e w1 ⟨rfl, hb12⟩)))
      go_ret
      exact ⟨by first | rfl | simp, (by repeat (first | assumption | refine Bl.step ?_ (by assumption)))⟩
theorem TextWordy_any (s : ByteArray) (c d : UInt8) (w : World) (hss : s.size ≤ maxLen) :
    Calls Tryd.prog 14 #[.string s, .int .u8 (c.toNat : Int), .int .u8 (d.toNat : Int)] w fun e w' => e = .returned (.bool true) ∧ Below w.heap.size w w' :=
  TextWordy_nat s c.toNat d.toNat w hss (by have := c.toNat_lt; omega) (by have := d.toNat_lt; omega)
end Go.Proofs.YtoilgjlbpimcpaaDoor
