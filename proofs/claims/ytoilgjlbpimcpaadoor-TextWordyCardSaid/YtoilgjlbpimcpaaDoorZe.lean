/- Words, Word, WordIndex, WordLength. -/
import Derived.Test.YtoilgjlbpimcpaaDoorZc
import Derived.Test.YtoilgjlbpimcpaaDoorTp
import Derived.Test.YtoilgjlbpimcpaaDoorTl
namespace Go.Proofs.YtoilgjlbpimcpaaDoor
open Go.RowKit Go.Shelf Tx
set_option linter.unusedVariables false
set_option maxRecDepth 100000

namespace Tx
def wordsR (l : List UInt8) : Int × Int := guardN (validL l) (((spans l).length : Int), 0)
def wordR (l : List UInt8) (n : Int) : Res := guardR (validL l && decide (1 ≤ n)) (wordL l (nthL (spans l) n).1, 0)
def wordIndexR (l : List UInt8) (n : Int) : Int × Int := guardN (validL l && decide (1 ≤ n)) (if (nthL (spans l) n).2 then (((nthL (spans l) n).1.1 : Int) + 1, 0) else (0, 0))
def wordLengthR (l : List UInt8) (n : Int) : Int × Int := guardN (validL l && decide (1 ≤ n)) (((nthL (spans l) n).1.2 : Int) - ((nthL (spans l) n).1.1 : Int), 0)
theorem nth_le (l : List UInt8) {n : Int} (hn : 1 ≤ n) : (nthL (spans l) n).1.1 ≤ (nthL (spans l) n).1.2 ∧ (nthL (spans l) n).1.2 ≤ l.length := by
  unfold nthL
  split
  · have := (spans_inv l).1 _ (getD_mem (L := spans l) (i := (n - 1).toNat) (by omega))
    simp only; omega
  · simp
end Tx

set_option maxHeartbeats 2000000 in
theorem Words_any (s : ByteArray) (w : World) (hss : s.size ≤ maxLen) :
    Calls Tryd.prog 56 #[.string s] w (GivesN w (wordsR (bts s))) := by
  have KVs := fun (W : World) (pp : Nat) (hp : pp < W.heap.size) (hc : At W pp [.string s]) => Lib.hid (areValid1 pp s W hss hp hc)
  cases hv0 : validL (bts s) with
  | false =>
    rw [hv0] at KVs
    have HR := Lib.hid (show wordsR (bts s) = (0, 1) by unfold wordsR guardN; simp only [hv0, Bool.and_false, Bool.false_and, Bool.true_and, Bool.and_true]; rfl)
    clear hv0
    go_enter Tryd.func56, Tryd.ntmps56
    go_wp2_with (first
      | (go_at_call 99; refine Calls.mono (KVs _ _ (by simp) (At.new1 _ _ _)).out ?_; rintro e w1 ⟨rfl, hb1⟩; have B1 : Below w.heap.size w w1 := Bl.step (by repeat (first | assumption | exact Below.refl _ _ | refine Bl.alloc ?_ _ | refine Bl.drew ?_)) hb1))
    go_ret2
    exact givesN HR.out (by repeat (first | assumption | exact Below.refl _ _ | refine Bl.alloc ?_ _ | refine Bl.drew ?_))
  | true =>
    rw [hv0] at KVs
    have hlen := valid_le hv0
    have KT := fun W => Lib.hid (wordTexts_any s W (by omega))
    have HR := Lib.hid (show wordsR (bts s) = (((spans (bts s)).length : Int), 0) by unfold wordsR guardN; rw [hv0]; rfl)
    clear hv0
    go_enter Tryd.func56, Tryd.ntmps56
    go_wp2_with (first
      | (go_at_call 99; refine Calls.mono (KVs _ _ (by simp) (At.new1 _ _ _)).out ?_; rintro e w1 ⟨rfl, hb1⟩; have B1 : Below w.heap.size w w1 := Bl.step (by repeat (first | assumption | exact Below.refl _ _ | refine Bl.alloc ?_ _ | refine Bl.drew ?_)) hb1)
      | (go_at_call 130; refine Calls.mono (KT _).out ?_; rintro e w4 ⟨v, rfl, hrow, hb4⟩; have B4 : Below w.heap.size w w4 := Bl.step (by repeat (first | assumption | exact Below.refl _ _ | refine Bl.alloc ?_ _ | refine Bl.drew ?_)) hb4; obtain ⟨ao, cap, rfl⟩ := own_shape hrow; clear hrow))
    go_ret2
    exact givesN HR.out (by repeat (first | assumption | exact Below.refl _ _ | refine Bl.alloc ?_ _ | refine Bl.drew ?_))
set_option maxHeartbeats 2000000 in
theorem Word_any (s : ByteArray) (n : Int) (w : World) (hss : s.size ≤ maxLen) (hn2 : n ≤ 9223372036854775807) :
    Calls Tryd.prog 57 #[.string s, .int .i64 n] w (GivesS w (wordR (bts s) n)) := by
  have KVs := fun (W : World) (pp : Nat) (hp : pp < W.heap.size) (hc : At W pp [.string s]) => Lib.hid (areValid1 pp s W hss hp hc)
  have KAn := fun (W : World) (pp : Nat) (hc : W.cell? ⟨pp, 0, none⟩ = some (.int .i64 n)) => Lib.hid (areAtLeast1 pp 1 n W hc)
  cases hv0 : validL (bts s) with
  | false =>
    rw [hv0] at KVs
    have HR := Lib.hid (show wordR (bts s) n = ([], 1) by unfold wordR guardR; simp only [hv0, Bool.and_false, Bool.false_and, Bool.true_and, Bool.and_true]; rfl)
    clear hv0
    go_enter Tryd.func57, Tryd.ntmps57
    go_wp2_with (first
      | (go_at_call 99; refine Calls.mono (KVs _ _ (by simp) (At.new1 _ _ _)).out ?_; rintro e w1 ⟨rfl, hb1⟩; have B1 : Below w.heap.size w w1 := Bl.step (by repeat (first | assumption | exact Below.refl _ _ | refine Bl.alloc ?_ _ | refine Bl.drew ?_)) hb1))
    go_ret2
    exact givesS HR.out rfl (by repeat (first | assumption | exact Below.refl _ _ | refine Bl.alloc ?_ _ | refine Bl.drew ?_))
  | true =>
    rw [hv0] at KVs
    cases hv1 : decide (1 ≤ n) with
    | false =>
      rw [hv1] at KAn
      have HR := Lib.hid (show wordR (bts s) n = ([], 1) by unfold wordR guardR; simp only [hv0, hv1, Bool.and_false, Bool.false_and, Bool.true_and, Bool.and_true]; rfl)
      clear hv0 hv1
      go_enter Tryd.func57, Tryd.ntmps57
      go_wp2_with (first
        | (go_at_call 99; refine Calls.mono (KVs _ _ (by simp) (At.new1 _ _ _)).out ?_; rintro e w1 ⟨rfl, hb1⟩; have B1 : Below w.heap.size w w1 := Bl.step (by repeat (first | assumption | exact Below.refl _ _ | refine Bl.alloc ?_ _ | refine Bl.drew ?_)) hb1)
        | (go_at_call 100; refine Calls.mono (KAn _ _ (cellAt (by simp))).out ?_; rintro e w2 ⟨rfl, rfl⟩))
      go_ret2
      exact givesS HR.out rfl (by repeat (first | assumption | exact Below.refl _ _ | refine Bl.alloc ?_ _ | refine Bl.drew ?_))
    | true =>
      rw [hv1] at KAn
      have hlen := valid_le hv0
      have hn := of_decide_eq_true hv1
      have hx := nth_le (bts s) hn
      rw [bts_length] at hx
      have KN := fun W => Lib.hid (nthWord_any s n W (by omega) hn hn2)
      have HR := Lib.hid (show wordR (bts s) n = (wordL (bts s) (nthL (spans (bts s)) n).1, 0) by unfold wordR guardR; rw [hv0, hv1]; rfl)
      obtain ⟨p, hp⟩ : ∃ p, p = nthL (spans (bts s)) n := ⟨_, rfl⟩
      rw [← hp] at HR hx KN
      clear hv0 hv1 hp
      obtain ⟨⟨a, b⟩, q⟩ := p
      unfold spv at KN
      have hab : a ≤ b := hx.1
      have hbs : b ≤ s.size := hx.2
      clear hx hn
      have HX := Lib.hid (show bts (s.extract a b) = wordL (bts s) (a, b) by rw [bts_extract]; unfold wordL; rw [List.drop_take])
      go_enter Tryd.func57, Tryd.ntmps57
      go_wp2_with (first
        | (go_at_call 99; refine Calls.mono (KVs _ _ (by simp) (At.new1 _ _ _)).out ?_; rintro e w1 ⟨rfl, hb1⟩; have B1 : Below w.heap.size w w1 := Bl.step (by repeat (first | assumption | exact Below.refl _ _ | refine Bl.alloc ?_ _ | refine Bl.drew ?_)) hb1)
        | (go_at_call 100; refine Calls.mono (KAn _ _ (cellAt (by simp))).out ?_; rintro e w2 ⟨rfl, rfl⟩)
        | (go_at_call 131; refine Calls.mono (KN _).out ?_; rintro e w4 ⟨rfl, hb4⟩; have B4 : Below w.heap.size w w4 := Bl.step (by repeat (first | assumption | exact Below.refl _ _ | refine Bl.alloc ?_ _ | refine Bl.drew ?_)) hb4))
      go_ret2
      exact givesS HR.out HX.out (by repeat (first | assumption | exact Below.refl _ _ | refine Bl.alloc ?_ _ | refine Bl.drew ?_))
set_option maxHeartbeats 2000000 in
theorem WordIndex_any (s : ByteArray) (n : Int) (w : World) (hss : s.size ≤ maxLen) (hn2 : n ≤ 9223372036854775807) :
    Calls Tryd.prog 58 #[.string s, .int .i64 n] w (GivesN w (wordIndexR (bts s) n)) := by
  have KVs := fun (W : World) (pp : Nat) (hp : pp < W.heap.size) (hc : At W pp [.string s]) => Lib.hid (areValid1 pp s W hss hp hc)
  have KAn := fun (W : World) (pp : Nat) (hc : W.cell? ⟨pp, 0, none⟩ = some (.int .i64 n)) => Lib.hid (areAtLeast1 pp 1 n W hc)
  cases hv0 : validL (bts s) with
  | false =>
    rw [hv0] at KVs
    have HR := Lib.hid (show wordIndexR (bts s) n = (0, 1) by unfold wordIndexR guardN; simp only [hv0, Bool.and_false, Bool.false_and, Bool.true_and, Bool.and_true]; rfl)
    clear hv0
    go_enter Tryd.func58, Tryd.ntmps58
    go_wp2_with (first
      | (go_at_call 99; refine Calls.mono (KVs _ _ (by simp) (At.new1 _ _ _)).out ?_; rintro e w1 ⟨rfl, hb1⟩; have B1 : Below w.heap.size w w1 := Bl.step (by repeat (first | assumption | exact Below.refl _ _ | refine Bl.alloc ?_ _ | refine Bl.drew ?_)) hb1))
    go_ret2
    exact givesN HR.out (by repeat (first | assumption | exact Below.refl _ _ | refine Bl.alloc ?_ _ | refine Bl.drew ?_))
  | true =>
    rw [hv0] at KVs
    cases hv1 : decide (1 ≤ n) with
    | false =>
      rw [hv1] at KAn
      have HR := Lib.hid (show wordIndexR (bts s) n = (0, 1) by unfold wordIndexR guardN; simp only [hv0, hv1, Bool.and_false, Bool.false_and, Bool.true_and, Bool.and_true]; rfl)
      clear hv0 hv1
      go_enter Tryd.func58, Tryd.ntmps58
      go_wp2_with (first
        | (go_at_call 99; refine Calls.mono (KVs _ _ (by simp) (At.new1 _ _ _)).out ?_; rintro e w1 ⟨rfl, hb1⟩; have B1 : Below w.heap.size w w1 := Bl.step (by repeat (first | assumption | exact Below.refl _ _ | refine Bl.alloc ?_ _ | refine Bl.drew ?_)) hb1)
        | (go_at_call 100; refine Calls.mono (KAn _ _ (cellAt (by simp))).out ?_; rintro e w2 ⟨rfl, rfl⟩))
      go_ret2
      exact givesN HR.out (by repeat (first | assumption | exact Below.refl _ _ | refine Bl.alloc ?_ _ | refine Bl.drew ?_))
    | true =>
      rw [hv1] at KAn
      have hlen := valid_le hv0
      have hn := of_decide_eq_true hv1
      have hx := nth_le (bts s) hn
      rw [bts_length] at hx
      have KN := fun W => Lib.hid (nthWord_any s n W (by omega) hn hn2)
      have HR := Lib.hid (show wordIndexR (bts s) n = (if (nthL (spans (bts s)) n).2 then (((nthL (spans (bts s)) n).1.1 : Int) + 1, 0) else (0, 0)) by unfold wordIndexR guardN; rw [hv0, hv1]; rfl)
      obtain ⟨p, hp⟩ : ∃ p, p = nthL (spans (bts s)) n := ⟨_, rfl⟩
      rw [← hp] at HR hx KN
      clear hv0 hv1 hp
      obtain ⟨⟨a, b⟩, q⟩ := p
      unfold spv at KN
      have hab : a ≤ b := hx.1
      have hbs : b ≤ s.size := hx.2
      clear hx hn
      cases q with
      | false =>
        have HR2 := Lib.hid (show wordIndexR (bts s) n = (0, 0) by rw [HR.out]; rfl)
        go_enter Tryd.func58, Tryd.ntmps58
        go_wp2_with (first
          | (go_at_call 99; refine Calls.mono (KVs _ _ (by simp) (At.new1 _ _ _)).out ?_; rintro e w1 ⟨rfl, hb1⟩; have B1 : Below w.heap.size w w1 := Bl.step (by repeat (first | assumption | exact Below.refl _ _ | refine Bl.alloc ?_ _ | refine Bl.drew ?_)) hb1)
          | (go_at_call 100; refine Calls.mono (KAn _ _ (cellAt (by simp))).out ?_; rintro e w2 ⟨rfl, rfl⟩)
          | (go_at_call 131; refine Calls.mono (KN _).out ?_; rintro e w4 ⟨rfl, hb4⟩; have B4 : Below w.heap.size w w4 := Bl.step (by repeat (first | assumption | exact Below.refl _ _ | refine Bl.alloc ?_ _ | refine Bl.drew ?_)) hb4))
        go_ret2
        exact givesN HR2.out (by repeat (first | assumption | exact Below.refl _ _ | refine Bl.alloc ?_ _ | refine Bl.drew ?_))
      | true =>
        have HR2 := Lib.hid (show wordIndexR (bts s) n = ((a : Int) + 1, 0) by rw [HR.out]; rfl)
        have hwr : IntKind.i64.wrap ((a : Int) + 1) = (a : Int) + 1 := IntWalk.i64_in _ (by omega)
        go_enter Tryd.func58, Tryd.ntmps58
        go_wp2_with (first
          | (go_at_call 99; refine Calls.mono (KVs _ _ (by simp) (At.new1 _ _ _)).out ?_; rintro e w1 ⟨rfl, hb1⟩; have B1 : Below w.heap.size w w1 := Bl.step (by repeat (first | assumption | exact Below.refl _ _ | refine Bl.alloc ?_ _ | refine Bl.drew ?_)) hb1)
          | (go_at_call 100; refine Calls.mono (KAn _ _ (cellAt (by simp))).out ?_; rintro e w2 ⟨rfl, rfl⟩)
          | (go_at_call 131; refine Calls.mono (KN _).out ?_; rintro e w4 ⟨rfl, hb4⟩; have B4 : Below w.heap.size w w4 := Bl.step (by repeat (first | assumption | exact Below.refl _ _ | refine Bl.alloc ?_ _ | refine Bl.drew ?_)) hb4))
        go_ret2
        exact givesN HR2.out (by repeat (first | assumption | exact Below.refl _ _ | refine Bl.alloc ?_ _ | refine Bl.drew ?_))
set_option maxHeartbeats 2000000 in
theorem WordLength_any (s : ByteArray) (n : Int) (w : World) (hss : s.size ≤ maxLen) (hn2 : n ≤ 9223372036854775807) :
    Calls Tryd.prog 59 #[.string s, .int .i64 n] w (GivesN w (wordLengthR (bts s) n)) := by
  have KVs := fun (W : World) (pp : Nat) (hp : pp < W.heap.size) (hc : At W pp [.string s]) => Lib.hid (areValid1 pp s W hss hp hc)
  have KAn := fun (W : World) (pp : Nat) (hc : W.cell? ⟨pp, 0, none⟩ = some (.int .i64 n)) => Lib.hid (areAtLeast1 pp 1 n W hc)
  cases hv0 : validL (bts s) with
  | false =>
    rw [hv0] at KVs
    have HR := Lib.hid (show wordLengthR (bts s) n = (0, 1) by unfold wordLengthR guardN; simp only [hv0, Bool.and_false, Bool.false_and, Bool.true_and, Bool.and_true]; rfl)
    clear hv0
    go_enter Tryd.func59, Tryd.ntmps59
    go_wp2_with (first
      | (go_at_call 99; refine Calls.mono (KVs _ _ (by simp) (At.new1 _ _ _)).out ?_; rintro e w1 ⟨rfl, hb1⟩; have B1 : Below w.heap.size w w1 := Bl.step (by repeat (first | assumption | exact Below.refl _ _ | refine Bl.alloc ?_ _ | refine Bl.drew ?_)) hb1))
    go_ret2
    exact givesN HR.out (by repeat (first | assumption | exact Below.refl _ _ | refine Bl.alloc ?_ _ | refine Bl.drew ?_))
  | true =>
    rw [hv0] at KVs
    cases hv1 : decide (1 ≤ n) with
    | false =>
      rw [hv1] at KAn
      have HR := Lib.hid (show wordLengthR (bts s) n = (0, 1) by unfold wordLengthR guardN; simp only [hv0, hv1, Bool.and_false, Bool.false_and, Bool.true_and, Bool.and_true]; rfl)
      clear hv0 hv1
      go_enter Tryd.func59, Tryd.ntmps59
      go_wp2_with (first
        | (go_at_call 99; refine Calls.mono (KVs _ _ (by simp) (At.new1 _ _ _)).out ?_; rintro e w1 ⟨rfl, hb1⟩; have B1 : Below w.heap.size w w1 := Bl.step (by repeat (first | assumption | exact Below.refl _ _ | refine Bl.alloc ?_ _ | refine Bl.drew ?_)) hb1)
        | (go_at_call 100; refine Calls.mono (KAn _ _ (cellAt (by simp))).out ?_; rintro e w2 ⟨rfl, rfl⟩))
      go_ret2
      exact givesN HR.out (by repeat (first | assumption | exact Below.refl _ _ | refine Bl.alloc ?_ _ | refine Bl.drew ?_))
    | true =>
      rw [hv1] at KAn
      have hlen := valid_le hv0
      have hn := of_decide_eq_true hv1
      have hx := nth_le (bts s) hn
      rw [bts_length] at hx
      have KN := fun W => Lib.hid (nthWord_any s n W (by omega) hn hn2)
      have HR := Lib.hid (show wordLengthR (bts s) n = (((nthL (spans (bts s)) n).1.2 : Int) - ((nthL (spans (bts s)) n).1.1 : Int), 0) by unfold wordLengthR guardN; rw [hv0, hv1]; rfl)
      obtain ⟨p, hp⟩ : ∃ p, p = nthL (spans (bts s)) n := ⟨_, rfl⟩
      rw [← hp] at HR hx KN
      clear hv0 hv1 hp
      obtain ⟨⟨a, b⟩, q⟩ := p
      unfold spv at KN
      have hab : a ≤ b := hx.1
      have hbs : b ≤ s.size := hx.2
      clear hx hn
      have hwr : IntKind.i64.wrap ((b : Int) - (a : Int)) = (b : Int) - (a : Int) := IntWalk.i64_in _ (by omega)
      go_enter Tryd.func59, Tryd.ntmps59
      go_wp2_with (first
        | (go_at_call 99; refine Calls.mono (KVs _ _ (by simp) (At.new1 _ _ _)).out ?_; rintro e w1 ⟨rfl, hb1⟩; have B1 : Below w.heap.size w w1 := Bl.step (by repeat (first | assumption | exact Below.refl _ _ | refine Bl.alloc ?_ _ | refine Bl.drew ?_)) hb1)
        | (go_at_call 100; refine Calls.mono (KAn _ _ (cellAt (by simp))).out ?_; rintro e w2 ⟨rfl, rfl⟩)
        | (go_at_call 131; refine Calls.mono (KN _).out ?_; rintro e w4 ⟨rfl, hb4⟩; have B4 : Below w.heap.size w w4 := Bl.step (by repeat (first | assumption | exact Below.refl _ _ | refine Bl.alloc ?_ _ | refine Bl.drew ?_)) hb4))
      go_ret2
      exact givesN HR.out (by repeat (first | assumption | exact Below.refl _ _ | refine Bl.alloc ?_ _ | refine Bl.drew ?_))
end Go.Proofs.YtoilgjlbpimcpaaDoor
