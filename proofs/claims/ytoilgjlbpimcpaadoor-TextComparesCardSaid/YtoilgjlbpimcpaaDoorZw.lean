/- Abbrev of both programs. -/
import Derived.Test.YtoilgjlbpimcpaaDoorZq
import Derived.Test.YtoilgjlbpimcpaaDoorShelf
namespace Go.Proofs.YtoilgjlbpimcpaaDoor
open Go.RowKit Go.Shelf Tx
set_option linter.unusedVariables false
set_option maxRecDepth 100000

namespace Tx
def guardB (b : Bool) (r : Bool × Int) : Bool × Int := if b then r else (false, 1)
def abbrevR (l m : List UInt8) (n : Int) : Bool × Int := guardB (validL l && validL m && decide (0 ≤ n)) (decide (n ≤ (m.length : Int)) && atB l m 0, 0)
end Tx
/-- What a function answers: yes or no, and an error. -/
def GivesB (w : World) (r : Bool × Int) (e : Ending) (w' : World) : Prop := e = .returned (.tuple #[.bool r.1, .int .i64 r.2]) ∧ Below w.heap.size w w'
theorem givesB {w w' : World} {r : Bool × Int} {b : Bool} {k : Int} (hr : r = (b, k)) (hb : Below w.heap.size w w') : GivesB w r (.returned (.tuple #[.bool b, .int .i64 k])) w' := by
  subst hr; exact ⟨rfl, hb⟩
def GivesT (w : World) (r : Bool × Int) (e : Ending) (w' : World) : Prop := e = .returned (.agg #[.bool r.1, .int .i64 r.2]) ∧ Below w.heap.size w w'
theorem givesT {w w' : World} {r : Bool × Int} {b : Bool} {k : Int} (hr : r = (b, k)) (hb : Below w.heap.size w w') : GivesT w r (.returned (.agg #[.bool b, .int .i64 k])) w' := by
  subst hr; exact ⟨rfl, hb⟩
set_option maxHeartbeats 4000000 in
theorem RAbbrev_any (s p : ByteArray) (n : Int) (w : World) (hss : s.size ≤ maxLen) (hsp : p.size ≤ maxLen) :
    Calls Tryd.prog 53 #[.string s, .string p, .int .i64 n] w (GivesT w (abbrevR (bts s) (bts p) n)) := by
  have KVs := fun (W : World) => Lib.hid (RValid_any s W hss)
  have KVp := fun (W : World) => Lib.hid (RValid_any p W hsp)
  have KAn := fun (W : World) => Lib.hid (Rwhole0_any n 0 W)
  cases hv0 : validL (bts s) with
  | false =>
    rw [hv0] at KVs
    have HR := Lib.hid (show abbrevR (bts s) (bts p) n = (false, 1) by unfold abbrevR guardB; simp only [hv0, Bool.and_false, Bool.false_and, Bool.true_and, Bool.and_true]; rfl)
    clear hv0
    go_enter Tryd.func53, Tryd.ntmps53
    go_wp2_with (first
      | (go_at_call 32; (with_reducible refine Calls.mono (KVs _).out ?_); rintro e w1 ⟨rfl, rfl⟩))
    refine bodyPost_ret (v := .agg #[.bool false, .int .i64 1]) (by simp [results, Tryd.results53, go_sem]) rfl ?_
    exact givesT HR.out ((Below.refl _ w).alloc (Nat.le_refl _) _)
  | true =>
    rw [hv0] at KVs
    cases hv1 : validL (bts p) with
    | false =>
      rw [hv1] at KVp
      have HR := Lib.hid (show abbrevR (bts s) (bts p) n = (false, 1) by unfold abbrevR guardB; simp only [hv0, hv1, Bool.and_false, Bool.false_and, Bool.true_and, Bool.and_true]; rfl)
      clear hv0 hv1
      go_enter Tryd.func53, Tryd.ntmps53
      go_wp2_with (first
        | (go_at_call 32; (with_reducible refine Calls.mono (KVs _).out ?_); rintro e w1 ⟨rfl, rfl⟩)
        | (go_at_call 32; (with_reducible refine Calls.mono (KVp _).out ?_); rintro e w1 ⟨rfl, rfl⟩))
      refine bodyPost_ret (v := .agg #[.bool false, .int .i64 1]) (by simp [results, Tryd.results53, go_sem]) rfl ?_
      exact givesT HR.out ((Below.refl _ w).alloc (Nat.le_refl _) _)
    | true =>
      rw [hv1] at KVp
      cases hv2 : decide (0 ≤ n) with
      | false =>
        rw [hv2] at KAn
        have HR := Lib.hid (show abbrevR (bts s) (bts p) n = (false, 1) by unfold abbrevR guardB; simp only [hv0, hv1, hv2, Bool.and_false, Bool.false_and, Bool.true_and, Bool.and_true]; rfl)
        clear hv0 hv1 hv2
        go_enter Tryd.func53, Tryd.ntmps53
        go_wp2_with (first
          | (go_at_call 32; (with_reducible refine Calls.mono (KVs _).out ?_); rintro e w1 ⟨rfl, rfl⟩)
          | (go_at_call 32; (with_reducible refine Calls.mono (KVp _).out ?_); rintro e w1 ⟨rfl, rfl⟩)
          | (go_at_call 106; (with_reducible refine Calls.mono (KAn _).out ?_); rintro e w1 ⟨rfl, rfl⟩))
        refine bodyPost_ret (v := .agg #[.bool false, .int .i64 1]) (by simp [results, Tryd.results53, go_sem]) rfl ?_
        exact givesT HR.out ((Below.refl _ w).alloc (Nat.le_refl _) _)
      | true =>
        rw [hv2] at KAn
        have hlen := valid_le hv0
        have hlen2 := valid_le hv1
        have HR := Lib.hid (show abbrevR (bts s) (bts p) n = (decide (n ≤ (p.size : Int)) && atB (bts s) (bts p) 0, 0) by unfold abbrevR guardB; rw [hv0, hv1, hv2, bts_length]; rfl)
        have KA0 := fun W => Rat_any p s 0 W (by omega) (by omega) (by omega)
        clear hv0 hv1 hv2
        cases hb : atB (bts s) (bts p) 0 with
        | false =>
          rw [hb] at KA0
          have KA := fun W => Lib.hid (show Calls Tryd.prog 124 #[.string p, .string s, .int .i64 0] W fun e w' => e = .returned (.bool false) ∧ W = w' from KA0 W)
          have HZ := Lib.hid (show abbrevR (bts s) (bts p) n = (false, 0) by rw [HR.out, hb, Bool.and_false])
          clear hb KA0
          go_enter Tryd.func53, Tryd.ntmps53
          go_wp2_with (first
            | (go_at_call 32; (with_reducible refine Calls.mono (KVs _).out ?_); rintro e w1 ⟨rfl, rfl⟩)
            | (go_at_call 32; (with_reducible refine Calls.mono (KVp _).out ?_); rintro e w1 ⟨rfl, rfl⟩)
            | (go_at_call 106; (with_reducible refine Calls.mono (KAn _).out ?_); rintro e w1 ⟨rfl, rfl⟩)
            | (go_at_call 124; (with_reducible refine Calls.mono (KA _).out ?_); rintro e w1 ⟨rfl, rfl⟩))
          refine bodyPost_ret (v := .agg #[.bool false, .int .i64 0]) (by simp [results, Tryd.results53, go_sem]) rfl ?_
          exact givesT HZ.out ((Below.refl _ w).alloc (Nat.le_refl _) _)
        | true =>
          rw [hb] at KA0
          have KA := fun W => Lib.hid (show Calls Tryd.prog 124 #[.string p, .string s, .int .i64 0] W fun e w' => e = .returned (.bool true) ∧ W = w' from KA0 W)
          have HZ := Lib.hid (show abbrevR (bts s) (bts p) n = (decide (n ≤ (p.size : Int)), 0) by rw [HR.out, hb, Bool.and_true])
          clear hb KA0
          by_cases hn : n ≤ (p.size : Int)
          · have HN := Lib.hid hn
            have HZ2 := Lib.hid (HZ.out.trans (by rw [decide_eq_true hn] : (decide (n ≤ (p.size : Int)), (0 : Int)) = (true, 0)))
            go_enter Tryd.func53, Tryd.ntmps53
            go_wp2_with (first
              | (go_at_call 32; (with_reducible refine Calls.mono (KVs _).out ?_); rintro e w1 ⟨rfl, rfl⟩)
              | (go_at_call 32; (with_reducible refine Calls.mono (KVp _).out ?_); rintro e w1 ⟨rfl, rfl⟩)
              | (go_at_call 106; (with_reducible refine Calls.mono (KAn _).out ?_); rintro e w1 ⟨rfl, rfl⟩)
              | (go_at_call 124; (with_reducible refine Calls.mono (KA _).out ?_); rintro e w1 ⟨rfl, rfl⟩))
            refine bodyPost_ret (v := .agg #[.bool true, .int .i64 0]) (by simp [results, Tryd.results53, go_sem, hn, HN.out]) rfl ?_
            exact givesT HZ2.out ((Below.refl _ w).alloc (Nat.le_refl _) _)
          · have HN := Lib.hid (show (p.size : Int) < n by omega)
            have HZ2 := Lib.hid (HZ.out.trans (by rw [decide_eq_false hn] : (decide (n ≤ (p.size : Int)), (0 : Int)) = (false, 0)))
            go_enter Tryd.func53, Tryd.ntmps53
            go_wp2_with (first
              | (go_at_call 32; (with_reducible refine Calls.mono (KVs _).out ?_); rintro e w1 ⟨rfl, rfl⟩)
              | (go_at_call 32; (with_reducible refine Calls.mono (KVp _).out ?_); rintro e w1 ⟨rfl, rfl⟩)
              | (go_at_call 106; (with_reducible refine Calls.mono (KAn _).out ?_); rintro e w1 ⟨rfl, rfl⟩)
              | (go_at_call 124; (with_reducible refine Calls.mono (KA _).out ?_); rintro e w1 ⟨rfl, rfl⟩))
            refine bodyPost_ret (v := .agg #[.bool false, .int .i64 0]) (by simp [results, Tryd.results53, go_sem, HN.out]) rfl ?_
            exact givesT HZ2.out ((Below.refl _ w).alloc (Nat.le_refl _) _)
end Go.Proofs.YtoilgjlbpimcpaaDoor
