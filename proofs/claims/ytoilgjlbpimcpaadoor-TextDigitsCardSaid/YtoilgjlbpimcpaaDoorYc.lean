/- C2X, X2B, B2X. -/
import Derived.Test.YtoilgjlbpimcpaaDoorYb
import Derived.Test.YtoilgjlbpimcpaaDoorWq
namespace Go.Proofs.YtoilgjlbpimcpaaDoor
open Go.RowKit Go.Shelf Tx
set_option linter.unusedVariables false
set_option maxRecDepth 100000

namespace Tx
theorem digB_lt {base : Nat} {c : UInt8} (hb : base ≤ 16) (h : digOk base c = true) : (digB c).toNat < base := by
  unfold digOk at h
  unfold digB
  rw [Bool.and_eq_true, decide_eq_true_eq, decide_eq_true_eq] at h
  simp [Nat.toUInt8]
  omega
theorem digitsL_lt {l : List UInt8} {size base : Nat} {ds : List UInt8} (hb : base ≤ 16) (h : digitsL l size base = some ds) : ∀ c, c ∈ ds → c.toNat < base := by
  unfold digitsL at h
  split at h
  · rename_i h'
    injection h with h
    subst h
    simp only [Bool.and_eq_true] at h'
    intro c hc
    unfold wordsV at hc
    obtain ⟨p, hp, hcp⟩ := List.mem_flatMap.1 hc
    obtain ⟨x, hx, rfl⟩ := List.mem_map.1 hcp
    have hok := (List.all_eq_true.1 h'.2) p hp
    unfold wordOk at hok
    rw [Bool.and_eq_true] at hok
    exact digB_lt hb ((List.all_eq_true.1 hok.2) x hx)
  · cases h
theorem wordsV_len (l : List UInt8) : ∀ k, (wordsV l (wst l k).1).length ≤ (wst l k).2 ∧ (wordsV l (wst l k).1).length ≤ k - 1
  | 0 => by simp [wst, wordsV]
  | k + 1 => by
    obtain ⟨h1, h2⟩ := wordsV_len l k
    have h3 := wst_le l k
    by_cases h : k < l.length ∧ l[k]? ≠ some 32
    · rw [wst_go h.1 h.2]; omega
    · by_cases hf : (wst l k).2 < k
      · rw [wst_end h hf]
        have e : (wordsV l ((wst l k).1 ++ [((wst l k).2, k)])).length ≤ (wordsV l (wst l k).1).length + (k - (wst l k).2) := by
          unfold wordsV
          rw [List.flatMap_append, List.length_append]
          simp [wordL]
          omega
        simp only
        omega
      · rw [wst_no h hf]
        simp only
        omega
theorem digitsL_len {l : List UInt8} {size base : Nat} {ds : List UInt8} (h : digitsL l size base = some ds) : ds.length ≤ l.length := by
  unfold digitsL at h
  split at h
  · injection h with h
    rw [← h]
    exact (wordsV_len l (l.length + 1)).2
  · cases h
theorem u8_two {c : UInt8} (h : c.toNat < 2) : c = 0 ∨ c = 1 := by
  have e : c = UInt8.ofNat c.toNat := by simp
  obtain ⟨n, hn⟩ : ∃ n, n = c.toNat := ⟨_, rfl⟩
  rw [← hn] at h e
  match n, h with
  | 0, _ => exact .inl e
  | 1, _ => exact .inr e
theorem foldD_lt : ∀ (l : List UInt8), l.length ≤ 4 → (∀ c, c ∈ l → c.toNat < 2) → (foldD 2 l).toNat < 16
  | [], _, _ => by decide
  | [a], _, h => by
    rcases u8_two (h a (by simp)) with rfl | rfl <;> decide
  | [a, b], _, h => by
    rcases u8_two (h a (by simp)) with rfl | rfl <;> rcases u8_two (h b (by simp)) with rfl | rfl <;> decide
  | [a, b, c], _, h => by
    rcases u8_two (h a (by simp)) with rfl | rfl <;> rcases u8_two (h b (by simp)) with rfl | rfl <;> rcases u8_two (h c (by simp)) with rfl | rfl <;> decide
  | [a, b, c, d], _, h => by
    rcases u8_two (h a (by simp)) with rfl | rfl <;> rcases u8_two (h b (by simp)) with rfl | rfl <;> rcases u8_two (h c (by simp)) with rfl | rfl <;> rcases u8_two (h d (by simp)) with rfl | rfl <;> decide
  | _ :: _ :: _ :: _ :: _ :: _, h, _ => by simp at h
theorem padD_lt {ds : List UInt8} {size : Nat} (h : ∀ c, c ∈ ds → c.toNat < 2) : ∀ c, c ∈ padD ds size → c.toNat < 2 := by
  intro c hc
  unfold padD at hc
  rcases List.mem_append.1 hc with hc | hc
  · rw [(List.mem_replicate.1 hc).2]; decide
  · exact h c hc
theorem mergedL_lt {ds : List UInt8} (h : ∀ c, c ∈ ds → c.toNat < 2) : ∀ c, c ∈ mergedL ds 4 2 → c.toNat < 16 := by
  intro c hc
  obtain ⟨j, hj⟩ := List.getElem?_of_mem hc
  have hjl := (List.getElem?_eq_some_iff.1 hj).1
  rw [mergedL_length] at hjl
  rw [mergedL_get ds (by omega) 2 hjl] at hj
  cases hj
  exact foldD_lt _ (by simp; omega) (fun c hc => padD_lt h c (List.mem_of_mem_drop (List.mem_of_mem_take hc)))
end Tx
set_option maxHeartbeats 2000000 in
theorem C2X_any (s : ByteArray) (w : World) (hss : s.size ≤ maxLen) :
    Calls Tryd.prog 84 #[.string s] w (GivesS w (c2xR (bts s))) := by
  have KVs := fun (W : World) (pp : Nat) (hp : pp < W.heap.size) (hc : At W pp [.string s]) => Lib.hid (areValid1 pp s W hss hp hc)
  cases hv0 : validL (bts s) with
  | false =>
    rw [hv0] at KVs
    have HR := Lib.hid (show c2xR (bts s) = ([], 1) by unfold c2xR; simp only [hv0, Bool.and_false, Bool.false_and, Bool.true_and, Bool.and_true]; rfl)
    clear hv0
    go_enter Tryd.func84, Tryd.ntmps84
    go_wp2_with (first
      | (go_at_call 99; refine Calls.mono (KVs _ _ (by simp) (At.new1 _ _ _)).out ?_; rintro e w1 ⟨rfl, hb1⟩; have B1 : Below w.heap.size w w1 := Bl.step (by repeat (first | assumption | exact Below.refl _ _ | refine Bl.alloc ?_ _ | refine Bl.drew ?_)) hb1))
    go_ret2
    exact givesS HR.out rfl (by repeat (first | assumption | exact Below.refl _ _ | refine Bl.alloc ?_ _ | refine Bl.drew ?_))
  | true =>
    rw [hv0] at KVs
    have hlen := valid_le hv0
    have KTI := fun W => Lib.hid (times_any 2 (s.size : Int) W (by omega) (by omega) (by omega) (by omega))
    have htp := (timesS_spec (n := 2) (len := (s.size : Int)) (by omega) (by omega)).2
    have KT := fun (W : World) (p : Nat) (hc : W.cell? ⟨p, 0, none⟩ = some (.int .i64 (timesS 2 (s.size : Int)))) => Lib.hid (isTooLong1 p _ W htp hc)
    have hiff := times_iff 2 s.size
    obtain ⟨z, hz⟩ : ∃ z, z = timesS 2 (s.size : Int) := ⟨_, rfl⟩
    rw [show ((2 : Nat) : Int) = (2 : Int) from rfl, ← hz] at hiff
    rw [← hz] at KTI KT
    by_cases hl : 1000 < z
    · have HR := Lib.hid (show c2xR (bts s) = ([], 3) by unfold c2xR; rw [hv0, bts_length, if_pos (hiff.1 hl)]; rfl)
      rw [decide_eq_true hl] at KT
      clear hv0 htp hl hz hiff
      go_enter Tryd.func84, Tryd.ntmps84
      go_wp2_with (first
        | (go_at_call 99; refine Calls.mono (KVs _ _ (by simp) (At.new1 _ _ _)).out ?_; rintro e w1 ⟨rfl, hb1⟩; have B1 : Below w.heap.size w w1 := Bl.step (by repeat (first | assumption | exact Below.refl _ _ | refine Bl.alloc ?_ _ | refine Bl.drew ?_)) hb1)
        | (go_at_call 102; refine Calls.mono (KTI _).out ?_; rintro e w4 ⟨rfl, rfl⟩)
        | (go_at_call 101; refine Calls.mono (KT _ _ (cellAt (by simp))).out ?_; rintro e w5 ⟨rfl, rfl⟩))
      go_ret2
      exact givesS HR.out rfl (by repeat (first | assumption | exact Below.refl _ _ | refine Bl.alloc ?_ _ | refine Bl.drew ?_))
    · have HR := Lib.hid (show c2xR (bts s) = ((splitL (bts s) 2 16).map hexB, 0) by unfold c2xR; rw [hv0, bts_length, if_neg (fun h => hl (hiff.2 h))]; rfl)
      rw [decide_eq_false hl] at KT
      clear hv0 htp hl hz hiff
      go_enter Tryd.func84, Tryd.ntmps84
      go_wp2_with (first
        | (go_at_call 99; refine Calls.mono (KVs _ _ (by simp) (At.new1 _ _ _)).out ?_; rintro e w1 ⟨rfl, hb1⟩; have B1 : Below w.heap.size w w1 := Bl.step (by repeat (first | assumption | exact Below.refl _ _ | refine Bl.alloc ?_ _ | refine Bl.drew ?_)) hb1)
        | (go_at_call 102; refine Calls.mono (KTI _).out ?_; rintro e w4 ⟨rfl, rfl⟩)
        | (go_at_call 101; refine Calls.mono (KT _ _ (cellAt (by simp))).out ?_; rintro e w5 ⟨rfl, rfl⟩; obtain ⟨W5, hW5⟩ : ∃ W5, W5 = w1.alloc (.cells #[.int .i64 z] 3) := ⟨_, rfl⟩; have B5 : Below w.heap.size w W5 := (by rw [hW5]; exact Bl.alloc (by assumption) _); obtain ⟨cap, w6, hconv, hby, hcap, hb6⟩ := conv_bytes s W5; obtain ⟨G, hG⟩ : ∃ G, G = W5.heap.size := ⟨_, rfl⟩; rw [← hG] at hconv hby; rw [hW5] at hconv; have B6 := Lib.hid (B5.trans (hb6.mono B5.size)); have KS := Lib.hid (split2_any (bts s) _ w6 (hby.rd (cap := cap) (n := s.size) (bts_length s)) (by rw [bts_length]; omega)); clear hby hb6 hcap hG hW5 B5)
        | (go_at_call 149; refine Calls.mono KS.out ?_; rintro e w7 ⟨v7, rfl, ho7, hb7⟩; have B7 := Lib.hid (Bl.step B6.out hb7); have KW := Lib.hid (written_any v7 _ w7 (rd_own ho7) (by rw [splitL_length, bts_length]; omega) (fun c hc => splitL_lt (b := 16) (by decide) hc)); clear ho7 hb7 hconv)
        | (go_at_call 148; refine Calls.mono KW.out ?_; rintro e w8 ⟨t, rfl, ht, hb8⟩; have B8 : Below w.heap.size w w8 := Bl.step B7.out hb8))
      go_ret2
      exact givesS HR.out ht.out B8
theorem rd_shape {w : World} {n : Nat} {v : Value} {l : List UInt8} (h : Rd w v l) (hn : l.length = n) : ∃ ao cap, v = .slice ao n cap := by
  subst hn
  rcases h with ⟨rfl, rfl⟩ | ⟨g, cap, rfl, _⟩
  · exact ⟨_, _, rfl⟩
  · exact ⟨_, _, rfl⟩
set_option maxHeartbeats 2000000 in
theorem X2B_any (s : ByteArray) (w : World) (hs : s.size ≤ maxLen) :
    Calls Tryd.prog 86 #[.string s] w (GivesS w (x2bR (bts s))) := by
  have KD := fun W => digitValues_any s 2 16 W hs (by omega) (by omega) (by omega) (by omega)
  cases hd : digitsL (bts s) 2 16 with
  | none =>
    have HR := Lib.hid (show x2bR (bts s) = ([], 1) by unfold x2bR; rw [hd])
    rw [hd] at KD
    have HKD := Lib.hid KD
    clear hd KD
    go_enter Tryd.func86, Tryd.ntmps86
    go_wp2_with (go_at_call 150; refine Calls.mono (HKD.out _) ?_; rintro e w1 ⟨v, b, rfl, hb1, rfl, rfl⟩)
    go_ret2
    exact givesS HR.out rfl hb1
  | some ds =>
    have hv := digitsL_valid hd
    have hlen := valid_le hv
    have hdl := digitsL_len hd
    rw [bts_length] at hdl
    have hlt := digitsL_lt (by omega) hd
    have HR0 := Lib.hid hd
    rw [hd] at KD
    have HKD := Lib.hid KD
    clear hd KD hv
    have KTI := fun W => Lib.hid (times_any 4 (ds.length : Int) W (by omega) (by omega) (by omega) (by omega))
    have htp := (timesS_spec (n := 4) (len := (ds.length : Int)) (by omega) (by omega)).2
    have KT := fun (W : World) (p : Nat) (hc : W.cell? ⟨p, 0, none⟩ = some (.int .i64 (timesS 4 (ds.length : Int)))) => Lib.hid (isTooLong1 p _ W htp hc)
    have hiff := times_iff 4 ds.length
    obtain ⟨z, hz⟩ : ∃ z, z = timesS 4 (ds.length : Int) := ⟨_, rfl⟩
    rw [show ((4 : Nat) : Int) = (4 : Int) from rfl, ← hz] at hiff
    rw [← hz] at KTI KT
    obtain ⟨n, hn⟩ : ∃ n, n = ds.length := ⟨_, rfl⟩
    have HN := Lib.hid hn
    by_cases hl : 1000 < z
    · have HR := Lib.hid (show x2bR (bts s) = ([], 3) by unfold x2bR; rw [HR0.out]; simp only; rw [if_pos (hiff.1 hl)])
      rw [decide_eq_true hl] at KT
      rw [← hn] at KTI
      clear htp hl hz hiff hn
      go_enter Tryd.func86, Tryd.ntmps86
      go_wp2_with (first
        | (go_at_call 150; refine Calls.mono (HKD.out _) ?_; rintro e w1 ⟨v, b, rfl, hb1, rfl, hrow⟩; have HB1 := Lib.hid hb1; have hrd := rd_own hrow; have KS := fun o => Lib.hid (split4_any ds v (w1.alloc o) (hrd.alloc o) (by omega)); obtain ⟨ao, cp, rfl⟩ := rd_shape hrd HN.out.symm; clear hrow hrd; clear hb1)
        | (go_at_call 102; refine Calls.mono (KTI _).out ?_; rintro e w4 ⟨rfl, rfl⟩)
        | (go_at_call 101; refine Calls.mono (KT _ _ (cellAt (by simp))).out ?_; rintro e w5 ⟨rfl, rfl⟩))
      go_ret2
      exact givesS HR.out rfl (Bl.alloc HB1.out _)
    · have HR := Lib.hid (show x2bR (bts s) = ((splitL ds 4 2).map hexB, 0) by unfold x2bR; rw [HR0.out]; simp only; rw [if_neg (fun h => hl (hiff.2 h))])
      rw [decide_eq_false hl] at KT
      rw [← hn] at KTI
      clear htp hl hz hiff hn
      go_enter Tryd.func86, Tryd.ntmps86
      go_wp2_with (first
        | (go_at_call 150; refine Calls.mono (HKD.out _) ?_; rintro e w1 ⟨v, b, rfl, hb1, rfl, hrow⟩; have HB1 := Lib.hid hb1; have hrd := rd_own hrow; have KS := fun o => Lib.hid (split4_any ds v (w1.alloc o) (hrd.alloc o) (by omega)); obtain ⟨ao, cp, rfl⟩ := rd_shape hrd HN.out.symm; clear hrow hrd; clear hb1)
        | (go_at_call 102; refine Calls.mono (KTI _).out ?_; rintro e w4 ⟨rfl, rfl⟩)
        | (go_at_call 101; refine Calls.mono (KT _ _ (cellAt (by simp))).out ?_; rintro e w5 ⟨rfl, rfl⟩)
        | (go_at_call 149; refine Calls.mono (KS _).out ?_; rintro e w7 ⟨v7, rfl, ho7, hb7⟩; have B7 := Lib.hid (Bl.step (Bl.alloc HB1.out _) hb7); have KW := Lib.hid (written_any v7 _ w7 (rd_own ho7) (by rw [splitL_length]; omega) (fun c hc => Nat.lt_trans (splitL_lt (b := 2) (by decide) hc) (by decide))); clear ho7 hb7)
        | (go_at_call 148; refine Calls.mono KW.out ?_; rintro e w8 ⟨t, rfl, ht, hb8⟩; have B8 : Below w.heap.size w w8 := Bl.step B7.out hb8))
      go_ret2
      exact givesS HR.out ht.out B8
set_option maxHeartbeats 2000000 in
theorem B2X_any (s : ByteArray) (w : World) (hs : s.size ≤ maxLen) :
    Calls Tryd.prog 87 #[.string s] w (GivesS w (b2xR (bts s))) := by
  have KD := fun W => digitValues_any s 4 2 W hs (by omega) (by omega) (by omega) (by omega)
  cases hd : digitsL (bts s) 4 2 with
  | none =>
    have HR := Lib.hid (show b2xR (bts s) = ([], 1) by unfold b2xR; rw [hd])
    rw [hd] at KD
    have HKD := Lib.hid KD
    clear hd KD
    go_enter Tryd.func87, Tryd.ntmps87
    go_wp2_with (go_at_call 150; refine Calls.mono (HKD.out _) ?_; rintro e w1 ⟨v, b, rfl, hb1, rfl, rfl⟩)
    go_ret2
    exact givesS HR.out rfl hb1
  | some ds =>
    have hv := digitsL_valid hd
    have hlen := valid_le hv
    have hdl := digitsL_len hd
    rw [bts_length] at hdl
    have hlt := digitsL_lt (by omega) hd
    have HR0 := Lib.hid hd
    rw [hd] at KD
    have HKD := Lib.hid KD
    clear hd KD hv
    have hml := mergedL_le ds (size := 4) (by omega) 2
    have HR := Lib.hid (show b2xR (bts s) = ((mergedL ds 4 2).map hexB, 0) by unfold b2xR; rw [HR0.out])
    go_enter Tryd.func87, Tryd.ntmps87
    go_wp2_with (first
      | (go_at_call 150; refine Calls.mono (HKD.out _) ?_; rintro e w1 ⟨v, b, rfl, hb1, rfl, hrow⟩; have HB1 := Lib.hid hb1; have KM := Lib.hid (merged_any ds 4 2 w.heap.size v w1 hrow (by omega) (by omega) (by omega)); clear hrow; clear hb1)
      | (go_at_call 152; refine Calls.mono KM.out ?_; rintro e w2 ⟨v2, rfl, hrow2, hb2⟩; have HB2 := Lib.hid (Bl.step HB1.out hb2); have KW := Lib.hid (written_any v2 _ w2 (rd_own hrow2) (by omega) (mergedL_lt hlt)); clear hrow2 hb2)
      | (go_at_call 148; refine Calls.mono KW.out ?_; rintro e w8 ⟨t, rfl, ht, hb8⟩; have B8 : Below w.heap.size w w8 := Bl.step HB2.out hb8))
    go_ret2
    exact givesS HR.out ht.out B8
end Go.Proofs.YtoilgjlbpimcpaaDoor
