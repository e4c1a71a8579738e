/- Subword, DelWord. -/
import Derived.Test.YtoilgjlbpimcpaaDoorTo
import Derived.Deep.QuietTactic
import Derived.BigQuiet
namespace Go.Proofs.YtoilgjlbpimcpaaDoor
open Go.RowKit Go.Shelf Tx
set_option linter.unusedVariables false
set_option maxRecDepth 100000

namespace Tx
theorem wst_inv (l : List UInt8) (k : Nat) (hk : k ≤ l.length + 1) : (∀ x ∈ (wst l k).1, x.1 < x.2 ∧ x.2 < (wst l k).2 ∧ x.2 ≤ l.length) ∧ (wst l k).1.Pairwise (fun x y => x.2 < y.1) := by
  induction k with
  | zero => exact ⟨fun x hx => (by cases hx), List.Pairwise.nil⟩
  | succ k ih =>
    obtain ⟨h1, h2⟩ := ih (by omega)
    have hle := wst_le l k
    rw [wst]
    split
    · exact ⟨h1, h2⟩
    · split
      · rename_i hf
        refine ⟨fun x hx => ?_, ?_⟩
        · rcases List.mem_append.1 hx with hx | hx
          · have := h1 x hx
            simp only; omega
          · rw [List.mem_singleton.1 hx]
            simp only; omega
        · rw [List.pairwise_append]
          refine ⟨h2, List.pairwise_singleton _ _, fun x hx y hy => ?_⟩
          rw [List.mem_singleton.1 hy]
          exact (h1 x hx).2.1
      · exact ⟨fun x hx => by have := h1 x hx; simp only; omega, h2⟩
theorem spans_inv (l : List UInt8) : (∀ x ∈ spans l, x.1 < x.2 ∧ x.2 ≤ l.length) ∧ (spans l).Pairwise (fun x y => x.2 < y.1) := by
  obtain ⟨h1, h2⟩ := wst_inv l (l.length + 1) (Nat.le_refl _)
  exact ⟨fun x hx => ⟨(h1 x hx).1, (h1 x hx).2.2⟩, h2⟩
theorem getD_mem {L : List (Nat × Nat)} {i : Nat} (h : i < L.length) : L.getD i (0, 0) ∈ L := by
  rw [List.getD_eq_getElem?_getD, List.getElem?_eq_getElem h]; exact List.getElem_mem h
theorem spans_order (l : List UInt8) {i j : Nat} (hij : i ≤ j) (hj : j < (spans l).length) : ((spans l).getD i (0, 0)).1 < ((spans l).getD j (0, 0)).2 ∧ ((spans l).getD j (0, 0)).2 ≤ l.length := by
  obtain ⟨h1, h2⟩ := spans_inv l
  have hi := h1 _ (getD_mem (i := i) (by omega : i < (spans l).length))
  have hj' := h1 _ (getD_mem hj)
  refine ⟨?_, hj'.2⟩
  by_cases e : i = j
  · subst e; exact hi.1
  · have := (List.pairwise_iff_getElem.1 h2) i j (by omega) hj (by omega)
    rw [List.getD_eq_getElem?_getD, List.getElem?_eq_getElem (by omega : i < (spans l).length)] at hi ⊢
    rw [List.getD_eq_getElem?_getD, List.getElem?_eq_getElem hj] at hj' ⊢
    simp only [Option.getD_some] at *
    omega
theorem someL_le (l : List UInt8) (n m : Int) (hn : 1 ≤ n) (hm : -1 ≤ m) : ((someL (spans l) n m).1 < (someL (spans l) n m).2 ∨ someL (spans l) n m = (0, 0)) ∧ (someL (spans l) n m).2 ≤ l.length := by
  unfold someL
  split
  · exact ⟨.inr rfl, Nat.zero_le _⟩
  · rename_i h
    have h1 : ¬ ((spans l).length : Int) < n := fun e => h (.inl e)
    have h2 : ¬ m = 0 := fun e => h (.inr e)
    have := spans_order l (i := (n - 1).toNat) (j := lastI (spans l).length (n - 1).toNat m) (by unfold lastI; split <;> omega) (by unfold lastI; split <;> omega)
    exact ⟨.inl this.1, this.2⟩
def subwordR (l : List UInt8) (n m : Int) : Res :=
  guardR (validL l && decide (1 ≤ n) && (decide (m = -1) || decide (0 ≤ m)))
    ((l.drop (someL (spans l) n m).1).take ((someL (spans l) n m).2 - (someL (spans l) n m).1), 0)
def delB (l : List UInt8) (x : Nat × Nat) : List UInt8 := if x.1 = x.2 then l else l.take x.1 ++ Lib.trimLeftB (l.drop x.2) 32
def delWordR (l : List UInt8) (n m : Int) : Res :=
  guardR (validL l && decide (1 ≤ n) && (decide (m = -1) || decide (0 ≤ m))) (delB l (someL (spans l) n m), 0)
theorem trimLeftB_le (l : List UInt8) (c : UInt8) : (Lib.trimLeftB l c).length ≤ l.length := by
  unfold Lib.trimLeftB
  exact (List.dropWhile_sublist _).length_le
end Tx

theorem miss_or {m : Int} (h : (decide (m = -1) || decide (0 ≤ m)) = true) : -1 ≤ m := by
  rw [Bool.or_eq_true, decide_eq_true_eq, decide_eq_true_eq] at h
  omega

set_option maxHeartbeats 2000000 in
theorem Subword_any (s : ByteArray) (n m : Int) (w : World) (hss : s.size ≤ maxLen) (hn2 : n ≤ 9223372036854775807) (hm2 : m ≤ 9223372036854775807) :
    Calls Tryd.prog 60 #[.string s, .int .i64 n, .int .i64 m] w (GivesS w (subwordR (bts s) n m)) := by
  have KVs := fun (W : World) (pp : Nat) (hp : pp < W.heap.size) (hc : At W pp [.string s]) => Lib.hid (areValid1 pp s W hss hp hc)
  have KAn := fun (W : World) (pp : Nat) (hc : W.cell? ⟨pp, 0, none⟩ = some (.int .i64 n)) => Lib.hid (areAtLeast1 pp 1 n W hc)
  have KMm := fun (W : World) => Lib.hid (isMissingOr_any 0 m W)
  cases hv0 : validL (bts s) with
  | false =>
    rw [hv0] at KVs
    have HR := Lib.hid (show subwordR (bts s) n m = ([], 1) by unfold subwordR guardR; simp only [hv0, Bool.and_false, Bool.false_and, Bool.true_and, Bool.and_true]; rfl)
    clear hv0
    go_enter Tryd.func60, Tryd.ntmps60
    go_wp2_with (first
      | (go_at_call 99; refine Calls.mono (KVs _ _ (by simp) (At.new1 _ _ _)).out ?_; rintro e w1 ⟨rfl, hb1⟩; have B1 : Below w.heap.size w w1 := Bl.step (by repeat (first | assumption | exact Below.refl _ _ | refine Bl.alloc ?_ _ | refine Bl.drew ?_)) hb1))
    go_ret2
    exact givesS HR.out rfl (by repeat (first | assumption | exact Below.refl _ _ | refine Bl.alloc ?_ _ | refine Bl.drew ?_))
  | true =>
    rw [hv0] at KVs
    cases hv1 : decide (1 ≤ n) with
    | false =>
      rw [hv1] at KAn
      have HR := Lib.hid (show subwordR (bts s) n m = ([], 1) by unfold subwordR guardR; simp only [hv0, hv1, Bool.and_false, Bool.false_and, Bool.true_and, Bool.and_true]; rfl)
      clear hv0 hv1
      go_enter Tryd.func60, Tryd.ntmps60
      go_wp2_with (first
        | (go_at_call 99; refine Calls.mono (KVs _ _ (by simp) (At.new1 _ _ _)).out ?_; rintro e w1 ⟨rfl, hb1⟩; have B1 : Below w.heap.size w w1 := Bl.step (by repeat (first | assumption | exact Below.refl _ _ | refine Bl.alloc ?_ _ | refine Bl.drew ?_)) hb1)
        | (go_at_call 100; refine Calls.mono (KAn _ _ (cellAt (by simp))).out ?_; rintro e w2 ⟨rfl, rfl⟩))
      go_ret2
      exact givesS HR.out rfl (by repeat (first | assumption | exact Below.refl _ _ | refine Bl.alloc ?_ _ | refine Bl.drew ?_))
    | true =>
      rw [hv1] at KAn
      cases hv2 : (decide (m = -1) || decide (0 ≤ m)) with
      | false =>
        rw [hv2] at KMm
        have HR := Lib.hid (show subwordR (bts s) n m = ([], 1) by unfold subwordR guardR; simp only [hv0, hv1, hv2, Bool.and_false, Bool.false_and, Bool.true_and, Bool.and_true]; rfl)
        clear hv0 hv1 hv2
        go_enter Tryd.func60, Tryd.ntmps60
        go_wp2_with (first
          | (go_at_call 99; refine Calls.mono (KVs _ _ (by simp) (At.new1 _ _ _)).out ?_; rintro e w1 ⟨rfl, hb1⟩; have B1 : Below w.heap.size w w1 := Bl.step (by repeat (first | assumption | exact Below.refl _ _ | refine Bl.alloc ?_ _ | refine Bl.drew ?_)) hb1)
          | (go_at_call 100; refine Calls.mono (KAn _ _ (cellAt (by simp))).out ?_; rintro e w2 ⟨rfl, rfl⟩)
          | (go_at_call 112; refine Calls.mono (KMm _).out ?_; rintro e w3 ⟨rfl, hb3⟩; have B3 : Below w.heap.size w w3 := Bl.step (by repeat (first | assumption | exact Below.refl _ _ | refine Bl.alloc ?_ _ | refine Bl.drew ?_)) hb3))
        go_ret2
        exact givesS HR.out rfl (by repeat (first | assumption | exact Below.refl _ _ | refine Bl.alloc ?_ _ | refine Bl.drew ?_))
      | true =>
        rw [hv2] at KMm
        have hlen := valid_le hv0
        have hn := of_decide_eq_true hv1
        have hm := miss_or hv2
        have hx := someL_le (bts s) n m hn hm
        rw [bts_length] at hx
        have KS := fun (W : World) => Lib.hid (subwords_any s n m W (by omega) hn hn2 hm hm2)
        have HR := Lib.hid (show subwordR (bts s) n m = (((bts s).drop (someL (spans (bts s)) n m).1).take ((someL (spans (bts s)) n m).2 - (someL (spans (bts s)) n m).1), 0) by unfold subwordR guardR; rw [hv0, hv1, hv2]; rfl)
        obtain ⟨x, hxe⟩ : ∃ x, x = someL (spans (bts s)) n m := ⟨_, rfl⟩
        rw [← hxe] at HR hx KS
        clear hv0 hv1 hv2 hxe
        obtain ⟨a, b⟩ := x
        unfold spv at KS
        have hab : a ≤ b := by rcases hx.1 with h | h; exact Nat.le_of_lt h; injection h with h1 h2; omega
        have hbs : b ≤ s.size := hx.2
        have HX := Lib.hid (bts_extract s a b)
        clear hx hn hm
        go_enter Tryd.func60, Tryd.ntmps60
        go_wp2_with (first
          | (go_at_call 99; refine Calls.mono (KVs _ _ (by simp) (At.new1 _ _ _)).out ?_; rintro e w1 ⟨rfl, hb1⟩; have B1 : Below w.heap.size w w1 := Bl.step (by repeat (first | assumption | exact Below.refl _ _ | refine Bl.alloc ?_ _ | refine Bl.drew ?_)) hb1)
          | (go_at_call 100; refine Calls.mono (KAn _ _ (cellAt (by simp))).out ?_; rintro e w2 ⟨rfl, rfl⟩)
          | (go_at_call 112; refine Calls.mono (KMm _).out ?_; rintro e w3 ⟨rfl, hb3⟩; have B3 : Below w.heap.size w w3 := Bl.step (by repeat (first | assumption | exact Below.refl _ _ | refine Bl.alloc ?_ _ | refine Bl.drew ?_)) hb3)
          | (go_at_call 132; refine Calls.mono (KS _).out ?_; rintro e w4 ⟨rfl, hb4⟩; have B4 : Below w.heap.size w w4 := Bl.step (by repeat (first | assumption | exact Below.refl _ _ | refine Bl.alloc ?_ _ | refine Bl.drew ?_)) hb4))
        go_ret2
        exact givesS HR.out HX.out (by repeat (first | assumption | exact Below.refl _ _ | refine Bl.alloc ?_ _ | refine Bl.drew ?_))
set_option maxHeartbeats 2000000 in
theorem DelWord_any (s : ByteArray) (n m : Int) (w : World) (hss : s.size ≤ maxLen) (hn2 : n ≤ 9223372036854775807) (hm2 : m ≤ 9223372036854775807) :
    Calls Tryd.prog 61 #[.string s, .int .i64 n, .int .i64 m] w (GivesS w (delWordR (bts s) n m)) := by
  have KVs := fun (W : World) (pp : Nat) (hp : pp < W.heap.size) (hc : At W pp [.string s]) => Lib.hid (areValid1 pp s W hss hp hc)
  have KAn := fun (W : World) (pp : Nat) (hc : W.cell? ⟨pp, 0, none⟩ = some (.int .i64 n)) => Lib.hid (areAtLeast1 pp 1 n W hc)
  have KMm := fun (W : World) => Lib.hid (isMissingOr_any 0 m W)
  cases hv0 : validL (bts s) with
  | false =>
    rw [hv0] at KVs
    have HR := Lib.hid (show delWordR (bts s) n m = ([], 1) by unfold delWordR guardR; simp only [hv0, Bool.and_false, Bool.false_and, Bool.true_and, Bool.and_true]; rfl)
    clear hv0
    go_enter Tryd.func61, Tryd.ntmps61
    go_wp2_with (first
      | (go_at_call 99; refine Calls.mono (KVs _ _ (by simp) (At.new1 _ _ _)).out ?_; rintro e w1 ⟨rfl, hb1⟩; have B1 : Below w.heap.size w w1 := Bl.step (by repeat (first | assumption | exact Below.refl _ _ | refine Bl.alloc ?_ _ | refine Bl.drew ?_)) hb1))
    go_ret2
    exact givesS HR.out rfl (by repeat (first | assumption | exact Below.refl _ _ | refine Bl.alloc ?_ _ | refine Bl.drew ?_))
  | true =>
    rw [hv0] at KVs
    cases hv1 : decide (1 ≤ n) with
    | false =>
      rw [hv1] at KAn
      have HR := Lib.hid (show delWordR (bts s) n m = ([], 1) by unfold delWordR guardR; simp only [hv0, hv1, Bool.and_false, Bool.false_and, Bool.true_and, Bool.and_true]; rfl)
      clear hv0 hv1
      go_enter Tryd.func61, Tryd.ntmps61
      go_wp2_with (first
        | (go_at_call 99; refine Calls.mono (KVs _ _ (by simp) (At.new1 _ _ _)).out ?_; rintro e w1 ⟨rfl, hb1⟩; have B1 : Below w.heap.size w w1 := Bl.step (by repeat (first | assumption | exact Below.refl _ _ | refine Bl.alloc ?_ _ | refine Bl.drew ?_)) hb1)
        | (go_at_call 100; refine Calls.mono (KAn _ _ (cellAt (by simp))).out ?_; rintro e w2 ⟨rfl, rfl⟩))
      go_ret2
      exact givesS HR.out rfl (by repeat (first | assumption | exact Below.refl _ _ | refine Bl.alloc ?_ _ | refine Bl.drew ?_))
    | true =>
      rw [hv1] at KAn
      cases hv2 : (decide (m = -1) || decide (0 ≤ m)) with
      | false =>
        rw [hv2] at KMm
        have HR := Lib.hid (show delWordR (bts s) n m = ([], 1) by unfold delWordR guardR; simp only [hv0, hv1, hv2, Bool.and_false, Bool.false_and, Bool.true_and, Bool.and_true]; rfl)
        clear hv0 hv1 hv2
        go_enter Tryd.func61, Tryd.ntmps61
        go_wp2_with (first
          | (go_at_call 99; refine Calls.mono (KVs _ _ (by simp) (At.new1 _ _ _)).out ?_; rintro e w1 ⟨rfl, hb1⟩; have B1 : Below w.heap.size w w1 := Bl.step (by repeat (first | assumption | exact Below.refl _ _ | refine Bl.alloc ?_ _ | refine Bl.drew ?_)) hb1)
          | (go_at_call 100; refine Calls.mono (KAn _ _ (cellAt (by simp))).out ?_; rintro e w2 ⟨rfl, rfl⟩)
          | (go_at_call 112; refine Calls.mono (KMm _).out ?_; rintro e w3 ⟨rfl, hb3⟩; have B3 : Below w.heap.size w w3 := Bl.step (by repeat (first | assumption | exact Below.refl _ _ | refine Bl.alloc ?_ _ | refine Bl.drew ?_)) hb3))
        go_ret2
        exact givesS HR.out rfl (by repeat (first | assumption | exact Below.refl _ _ | refine Bl.alloc ?_ _ | refine Bl.drew ?_))
      | true =>
        rw [hv2] at KMm
        have hlen := valid_le hv0
        have hn := of_decide_eq_true hv1
        have hm := miss_or hv2
        have hx := someL_le (bts s) n m hn hm
        rw [bts_length] at hx
        have KS := fun (W : World) => Lib.hid (subwords_any s n m W (by omega) hn hn2 hm hm2)
        have HR := Lib.hid (show delWordR (bts s) n m = (delB (bts s) (someL (spans (bts s)) n m), 0) by unfold delWordR guardR; rw [hv0, hv1, hv2]; rfl)
        obtain ⟨x, hxe⟩ : ∃ x, x = someL (spans (bts s)) n m := ⟨_, rfl⟩
        rw [← hxe] at HR hx KS
        clear hv0 hv1 hv2 hxe
        obtain ⟨a, b⟩ := x
        unfold spv at KS
        have hab : a ≤ b := by rcases hx.1 with h | h; exact Nat.le_of_lt h; injection h with h1 h2; omega
        have hbs : b ≤ s.size := hx.2
        clear hx hn hm
        by_cases he : a = b
        · subst he
          have HD := Lib.hid (show delB (bts s) (a, a) = bts s by unfold delB; rw [if_pos rfl])
          go_enter Tryd.func61, Tryd.ntmps61
          go_wp2_with (first
            | (go_at_call 99; refine Calls.mono (KVs _ _ (by simp) (At.new1 _ _ _)).out ?_; rintro e w1 ⟨rfl, hb1⟩; have B1 : Below w.heap.size w w1 := Bl.step (by repeat (first | assumption | exact Below.refl _ _ | refine Bl.alloc ?_ _ | refine Bl.drew ?_)) hb1)
            | (go_at_call 100; refine Calls.mono (KAn _ _ (cellAt (by simp))).out ?_; rintro e w2 ⟨rfl, rfl⟩)
            | (go_at_call 112; refine Calls.mono (KMm _).out ?_; rintro e w3 ⟨rfl, hb3⟩; have B3 : Below w.heap.size w w3 := Bl.step (by repeat (first | assumption | exact Below.refl _ _ | refine Bl.alloc ?_ _ | refine Bl.drew ?_)) hb3)
            | (go_at_call 132; refine Calls.mono (KS _).out ?_; rintro e w4 ⟨rfl, hb4⟩; have B4 : Below w.heap.size w w4 := Bl.step (by repeat (first | assumption | exact Below.refl _ _ | refine Bl.alloc ?_ _ | refine Bl.drew ?_)) hb4))
          go_ret2
          exact givesS HR.out HD.out.symm (by repeat (first | assumption | exact Below.refl _ _ | refine Bl.alloc ?_ _ | refine Bl.drew ?_))
        · have heb : ((a : Int) == (b : Int)) = false := by rw [beq_eq_false_iff_ne]; omega
          have heb2 : (a == b) = false := by simpa using he
          have HD := Lib.hid (show delB (bts s) (a, b) = (bts s).take a ++ Lib.trimLeftB ((bts s).drop b) 32 by unfold delB; rw [if_neg he])
          have HX := Lib.hid (bts_extract s 0 a)
          have KT := fun W => Lib.hid (Tryd.strings_TrimLeft_one (s.extract b s.size) 32 (by decide) W)
          obtain ⟨t, ht⟩ : ∃ t : ByteArray, t = ⟨(Lib.trimLeftB (s.extract b s.size).data.toList 32).toArray⟩ := ⟨_, rfl⟩
          have htb : bts t = Lib.trimLeftB ((bts s).drop b) 32 := by
            rw [ht, bts_mk]
            have e : (s.extract b s.size).data.toList = (bts s).drop b := by
              have := bts_extract s b s.size
              rw [List.take_of_length_le (by rw [List.length_drop, bts_length]; omega)] at this
              exact this
            rw [e]
          have hts : t.size ≤ 1000 := by
            have h1 := size_of_bts htb
            have h2 := trimLeftB_le ((bts s).drop b) 32
            rw [List.length_drop, bts_length] at h2
            omega
          have HT := Lib.hid htb
          rw [← ht] at KT
          clear ht htb he
          go_enter Tryd.func61, Tryd.ntmps61
          go_wp2_with (first
            | (go_at_call 99; refine Calls.mono (KVs _ _ (by simp) (At.new1 _ _ _)).out ?_; rintro e w1 ⟨rfl, hb1⟩; have B1 : Below w.heap.size w w1 := Bl.step (by repeat (first | assumption | exact Below.refl _ _ | refine Bl.alloc ?_ _ | refine Bl.drew ?_)) hb1)
            | (go_at_call 100; refine Calls.mono (KAn _ _ (cellAt (by simp))).out ?_; rintro e w2 ⟨rfl, rfl⟩)
            | (go_at_call 112; refine Calls.mono (KMm _).out ?_; rintro e w3 ⟨rfl, hb3⟩; have B3 : Below w.heap.size w w3 := Bl.step (by repeat (first | assumption | exact Below.refl _ _ | refine Bl.alloc ?_ _ | refine Bl.drew ?_)) hb3)
            | (go_at_call 132; refine Calls.mono (KS _).out ?_; rintro e w4 ⟨rfl, hb4⟩; have B4 : Below w.heap.size w w4 := Bl.step (by repeat (first | assumption | exact Below.refl _ _ | refine Bl.alloc ?_ _ | refine Bl.drew ?_)) hb4))
          go_quiet ((go_at_call 133; exact Calls.quiet_of_same (KT _).out))
          go_wp2
          go_ret2
          exact givesS (HR.out.trans (by rw [HD.out])) (by rw [bts_append, HT.out, HX.out]; simp) (by repeat (first | assumption | exact Below.refl _ _ | refine Bl.alloc ?_ _ | refine Bl.drew ?_ | refine below_drewN ?_ _))
end Go.Proofs.YtoilgjlbpimcpaaDoor
