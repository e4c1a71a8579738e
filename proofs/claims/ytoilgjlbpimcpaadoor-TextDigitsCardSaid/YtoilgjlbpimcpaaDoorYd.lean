/- The facts on lists that TextConverts says. No program is walked here. -/
import Derived.Test.YtoilgjlbpimcpaaDoorYc
import Derived.Test.YtoilgjlbpimcpaaDoorYe
import Derived.Test.YtoilgjlbpimcpaaDoorXc
namespace Go.Proofs.YtoilgjlbpimcpaaDoor
open Go.RowKit Go.Shelf Tx
set_option linter.unusedVariables false
set_option maxRecDepth 100000

namespace Tx
theorem hexB_facts : ∀ n : Fin 16, (hexB (UInt8.ofNat n.val) ≠ 32) ∧ padI ((hexB (UInt8.ofNat n.val)).toNat : Int) = true ∧ digV (hexB (UInt8.ofNat n.val)) = (n.val : Int) := by decide +kernel
theorem hexB_ok {c : UInt8} (h : c.toNat < 16) : hexB c ≠ 32 ∧ padI ((hexB c).toNat : Int) = true ∧ digV (hexB c) = (c.toNat : Int) := by
  have := hexB_facts ⟨c.toNat, h⟩
  simpa using this
theorem no_trim {l : List UInt8} (h : ∀ c, c ∈ l → c ≠ 32) : Lib.trimB l 32 = l := by
  have hd : ∀ l : List UInt8, (∀ c, c ∈ l → c ≠ 32) → l.dropWhile (· == 32) = l := by
    intro l h
    cases l with
    | nil => rfl
    | cons a l =>
      have : (a == 32) = false := by simpa using h a (by simp)
      simp [List.dropWhile_cons, this]
  unfold Lib.trimB Lib.trimLeftB Lib.trimRightB
  rw [hd l.reverse (fun c hc => h c (List.mem_reverse.1 hc)), List.reverse_reverse, hd l h]
theorem wst_none {l : List UInt8} (h : ∀ c, c ∈ l → c ≠ 32) : ∀ k, k ≤ l.length → wst l k = ([], 0)
  | 0, _ => rfl
  | k + 1, hk => by
    have hlt : k < l.length := by omega
    rw [wst_go hlt (by
      intro e
      exact h 32 (List.mem_of_getElem? e) rfl), wst_none h k (by omega)]
theorem spans_one {l : List UInt8} (h : ∀ c, c ∈ l → c ≠ 32) : spans l = if l.length = 0 then [] else [(0, l.length)] := by
  unfold spans
  have e := wst_none h l.length (Nat.le_refl _)
  by_cases h0 : l.length = 0
  · rw [if_pos h0, wst_no (by omega) (by rw [e]; omega), e]
  · rw [if_neg h0, wst_end (by omega) (by rw [e]; simp; omega), e]; rfl
/-- The digits of what was written from digits. -/
theorem digitsL_hex {D : List UInt8} {size base : Nat} (hb : base ≤ 16) (hD : ∀ c, c ∈ D → c.toNat < base) (hl : D.length ≤ 1000) : digitsL (D.map hexB) size base = some D := by
  have h16 : ∀ c, c ∈ D → c.toNat < 16 := fun c hc => Nat.lt_of_lt_of_le (hD c hc) hb
  have hne : ∀ c, c ∈ D.map hexB → c ≠ 32 := by
    intro c hc
    obtain ⟨x, hx, rfl⟩ := List.mem_map.1 hc
    exact (hexB_ok (h16 x hx)).1
  have hv : validL (D.map hexB) = true := by
    unfold validL
    rw [List.length_map, decide_eq_true hl, Bool.true_and]
    unfold cleanL
    rw [List.all_eq_true]
    intro c hc
    obtain ⟨x, hx, rfl⟩ := List.mem_map.1 hc
    exact (hexB_ok (h16 x hx)).2.1
  have hw : wordL (D.map hexB) (0, (D.map hexB).length) = D.map hexB := by unfold wordL; rw [List.take_of_length_le (Nat.le_refl _)]; rfl
  have hmap : (D.map hexB).map digB = D := by
    rw [List.map_map]
    conv => rhs; rw [← List.map_id D]
    apply List.map_congr_left
    intro x hx
    show digB (hexB x) = x
    unfold digB
    rw [(hexB_ok (h16 x hx)).2.2]
    simp [Nat.toUInt8]
  unfold digitsL
  rw [hv, no_trim hne, spans_one hne]
  by_cases h0 : D.length = 0
  · have := List.eq_nil_of_length_eq_zero h0
    subst this
    simp [wordsV]
  · rw [List.length_map, if_neg h0]
    have hok : wordOk (D.map hexB) size base (0, D.length) = true := by
      unfold wordOk
      rw [List.length_map] at hw
      rw [hw]
      rw [Bool.and_eq_true]
      refine ⟨by simp, ?_⟩
      rw [List.all_eq_true]
      intro c hc
      obtain ⟨x, hx, rfl⟩ := List.mem_map.1 hc
      unfold digOk
      rw [(hexB_ok (h16 x hx)).2.2]
      have := hD x hx
      simp
      omega
    simp only [List.all_cons, List.all_nil, hok, Bool.and_true, beq_self_eq_true, Bool.and_self, if_true]
    congr 1
    unfold wordsV
    rw [List.length_map] at hw
    simp only [List.flatMap_cons, List.flatMap_nil, List.append_nil, hw, hmap]
theorem conv_x2c {l : List UInt8} (hv : validL l = true) (h : 2 * l.length ≤ 1000) : x2cR ((splitL l 2 16).map hexB) = (l, 0) := by
  unfold x2cR
  rw [digitsL_hex (Nat.le_refl _) (fun c hc => splitL_lt (b := 16) (by decide) hc) (by rw [splitL_length]; omega)]
  simp only
  rw [merged_split (by omega) (fun x _ => fold_digs16 x), cleanR_ok (valid_clean hv)]
theorem conv_x2b {l : List UInt8} (h : 2 * l.length ≤ 1000) : x2bR ((splitL l 2 16).map hexB) = if 1000 < 4 * (splitL l 2 16).length then ([], 3) else ((splitL (splitL l 2 16) 4 2).map hexB, 0) := by
  unfold x2bR
  rw [digitsL_hex (Nat.le_refl _) (fun c hc => splitL_lt (b := 16) (by decide) hc) (by rw [splitL_length]; omega)]
theorem conv_b2x {l : List UInt8} (h : 4 * (splitL l 2 16).length ≤ 1000) : b2xR ((splitL (splitL l 2 16) 4 2).map hexB) = ((splitL l 2 16).map hexB, 0) := by
  unfold b2xR
  rw [digitsL_hex (base := 2) (by omega) (fun c hc => splitL_lt (b := 2) (by decide) hc) (by rw [splitL_length]; omega)]
  simp only
  rw [merged_split (by omega) (fun x hx => fold_digs2 x (splitL_lt (b := 16) (by decide) hx))]
theorem xor_xor (a b : UInt8) : opXor (opXor a b) b = a := by unfold opXor; rw [UInt8.xor_assoc, UInt8.xor_self, UInt8.xor_zero]
theorem zip_xor : ∀ l m : List UInt8, m.length ≤ l.length → List.zipWith opXor (List.zipWith opXor l m) m = l.take m.length
  | [], m, h => by simp at h; simp [h]
  | a :: l, [], _ => by simp
  | a :: l, b :: m, h => by simp [zip_xor l m (by simpa using h), xor_xor]
theorem bitT_twice {l m : List UInt8} (h : m.length ≤ l.length) : bitT opXor (bitT opXor l m (-1)) m (-1) = l := by
  have e1 : bitT opXor l m (-1) = List.zipWith opXor l m ++ l.drop m.length := by unfold bitT; rw [if_pos rfl]
  have hz : (List.zipWith opXor l m).length = m.length := by rw [List.length_zipWith]; omega
  rw [show bitT opXor (bitT opXor l m (-1)) m (-1) = List.zipWith opXor (bitT opXor l m (-1)) m ++ (bitT opXor l m (-1)).drop m.length by unfold bitT; rw [if_pos rfl]]
  rw [e1, ← zip_take opXor (List.zipWith opXor l m ++ l.drop m.length) m, List.take_append_of_le_length (by omega), List.take_of_length_le (by omega), zip_xor l m h, List.drop_append_of_le_length (by omega), List.drop_of_length_le (by omega), List.nil_append, List.take_append_drop]
/-- A string that may not be, combined twice with another one. -/
theorem xor_twice {l m x : List UInt8} (hl : validL l = true) (hm : validL m = true) (h : m.length ≤ l.length) (hx : bitsR opXor l m (-1) = (x, 0)) : bitsR opXor x m (-1) = (l, 0) := by
  have hll : l.length ≤ 1000 := by unfold validL at hl; rw [Bool.and_eq_true, decide_eq_true_eq] at hl; exact hl.1
  rw [bitsR_eq hl hm rfl (by omega) hll h] at hx
  have hlen : (bitT opXor l m (-1)).length = l.length := bitT_length h
  unfold outR at hx
  rw [if_neg (by omega)] at hx
  unfold cleanR at hx
  split at hx
  · rename_i hc
    have hxe : bitT opXor l m (-1) = x := by injection hx
    have hvx : validL x = true := by unfold validL; rw [← hxe, hc, hlen, decide_eq_true hll]; rfl
    have hxl : x.length = l.length := by rw [← hxe, hlen]
    rw [bitsR_eq hvx hm rfl (by omega) (by omega) (by omega), ← hxe, bitT_twice h, outR_ok (valid_clean hl) hll]
  · cases hx
theorem shuf_facts {a b : List UInt8} (h : shufL a b = true) : a.length = b.length ∧ ∀ j x, b[j]? = some x → cnt a x + cnt (b.take j) x = 1 := by
  unfold shufL at h
  rw [Bool.and_eq_true] at h
  refine ⟨by simpa using h.2, fun j x hx => ?_⟩
  have hj := (List.getElem?_eq_some_iff.1 hx).1
  have := (List.all_eq_true.1 h.1) j (List.mem_range.2 hj)
  rw [List.getD_eq_getElem?_getD, hx] at this
  simpa using this
theorem cnt_take_pos {l : List UInt8} {i j : Nat} {x : UInt8} (hi : l[i]? = some x) (hij : i < j) : cnt (l.take i) x + 1 ≤ cnt (l.take j) x := by
  have h1 : cnt (l.take (i + 1)) x = cnt (l.take i) x + 1 := by rw [take_snoc l i x hi, cnt_snoc, if_pos rfl]
  have h2 : cnt (l.take (i + 1)) x ≤ cnt (l.take j) x := by
    unfold cnt
    rw [show l.take (i + 1) = (l.take j).take (i + 1) by rw [List.take_take, Nat.min_eq_left (by omega)]]
    exact (List.take_sublist _ _).count_le _
  omega
theorem shuf_nodup {a b : List UInt8} (h : shufL a b = true) : ∀ (i j : Nat) (x : UInt8), b[i]? = some x → b[j]? = some x → i = j := by
  have hf := (shuf_facts h).2
  have key : ∀ (i j : Nat) (x : UInt8), i < j → b[i]? = some x → b[j]? = some x → False := by
    intro i j x hij hi hj
    have h1 := hf i x hi
    have h2 := hf j x hj
    have h3 := cnt_take_pos hi hij
    omega
  intro i j x hi hj
  rcases Nat.lt_trichotomy i j with h1 | h1 | h1
  · exact (key i j x h1 hi hj).elim
  · exact h1
  · exact (key j i x h1 hj hi).elim
theorem shuf_mem {a b : List UInt8} (h : shufL a b = true) : ∀ x, x ∈ b → x ∈ a := by
  intro x hx
  obtain ⟨j, hj⟩ := List.getElem?_of_mem hx
  have hf := (shuf_facts h).2
  -- the first place of x in b
  have first : ∀ (n j : Nat), j ≤ n → b[j]? = some x → x ∈ a := by
    intro n
    induction n with
    | zero =>
      intro j hj0 hj
      have : j = 0 := by omega
      subst this
      have := hf 0 x hj
      simp [cnt] at this
      exact List.count_pos_iff.1 (by omega)
    | succ n ih =>
      intro j hjn hj
      have h1 := hf j x hj
      by_cases hz : cnt (b.take j) x = 0
      · exact List.count_pos_iff.1 (by unfold cnt at h1 hz; omega)
      · have hm : x ∈ b.take j := List.count_pos_iff.1 (by unfold cnt at hz; omega)
        obtain ⟨i, hi⟩ := List.getElem?_of_mem hm
        rw [List.getElem?_take] at hi
        split at hi
        · exact ih i (by omega) hi
        · cases hi
  exact first j j (Nat.le_refl _) hj
theorem tr_back {a b : List UInt8} (h : shufL a b = true) (x : UInt8) : trT b a (trT a b x) = x := by
  have hlen := (shuf_facts h).1
  by_cases hx : x ∈ a
  · obtain ⟨k, hk, hax, hfirst⟩ : ∃ k : Nat, k < a.length ∧ a[k]? = some x ∧ ∀ j : Nat, j < k → a[j]? ≠ some x := by
      obtain ⟨j, hj⟩ := List.getElem?_of_mem hx
      have : ∀ (n j : Nat), j ≤ n → a[j]? = some x → ∃ k : Nat, k < a.length ∧ a[k]? = some x ∧ ∀ j : Nat, j < k → a[j]? ≠ some x := by
        intro n
        induction n with
        | zero =>
          intro j hj0 hj
          have : j = 0 := by omega
          subst this
          exact ⟨0, (List.getElem?_eq_some_iff.1 hj).1, hj, fun i hi => by omega⟩
        | succ n ih =>
          intro j hjn hj
          by_cases hex : ∃ i, i < j ∧ a[i]? = some x
          · obtain ⟨i, hi1, hi2⟩ := hex
            exact ih i (by omega) hi2
          · exact ⟨j, (List.getElem?_eq_some_iff.1 hj).1, hj, fun i hi e => hex ⟨i, hi, e⟩⟩
      exact this j j (Nat.le_refl _) hj
    obtain ⟨y, hy⟩ : ∃ y, b[k]? = some y := ⟨_, List.getElem?_eq_getElem (by omega)⟩
    rw [trT_hit hk (by omega) hfirst hax hy]
    exact trT_hit (by omega) (by omega) (fun j hj e => by have := shuf_nodup h j k y e hy; omega) hy hax
  · have e1 : trT a b x = x := trT_none (by omega) (fun j _ e => hx (List.mem_of_getElem? e))
    rw [e1]
    exact trT_none (by omega) (fun j _ e => hx (shuf_mem h x (List.mem_of_getElem? e)))
theorem tr_once {l o i : List UInt8} (hl : validL l = true) (ho : validL o = true) (hi : validL i = true) (hs : shufL i o = true) : translateR l o i 42 = (l.map (trT i o), 0) := by
  unfold translateR guardR
  have e : fitL o i.length (pb 42) = o := by rw [(shuf_facts hs).1, fit_self]
  rw [hl, ho, hi, e]
  rfl
theorem tr_valid {l o i : List UInt8} (hl : validL l = true) (ho : validL o = true) : validL (l.map (trT i o)) = true := by
  have hc := valid_clean hl
  unfold validL at hl ⊢
  rw [Bool.and_eq_true] at hl ⊢
  exact ⟨by rw [List.length_map]; exact hl.1, clean_map hc (trT_clean (valid_clean ho))⟩
theorem tr_twice {l o i : List UInt8} (hl : validL l = true) (ho : validL o = true) (hi : validL i = true) (hs : shufL i o = true) : translateR (l.map (trT i o)) i o 42 = (l, 0) := by
  unfold translateR guardR
  have e : fitL i o.length (pb 42) = i := by rw [← (shuf_facts hs).1, fit_self]
  rw [tr_valid hl ho, ho, hi, e]
  have : (l.map (trT i o)).map (trT o i) = l := by
    rw [List.map_map]
    conv => rhs; rw [← List.map_id l]
    apply List.map_congr_left
    intro x _
    exact tr_back hs x
  rw [this]
  rfl
end Tx
end Go.Proofs.YtoilgjlbpimcpaaDoor
