/- Abbrev. -/
import Derived.Test.YtoilgjlbpimcpaaDoorZw
import Derived.Test.YtoilgjlbpimcpaaDoorTl
namespace Go.Proofs.YtoilgjlbpimcpaaDoor
open Go.RowKit Go.Shelf Tx
set_option linter.unusedVariables false
set_option maxRecDepth 100000

namespace Tx
theorem atB_zero (l m : List UInt8) : atB l m 0 = Lib.hasPrefix l m := by
  unfold atB
  rw [Nat.zero_add, List.drop_zero, ← Lib.hasPrefix_of_take]
  exact Bool.eq_iff_iff.2 (by simp)
end Tx
set_option maxHeartbeats 4000000 in
theorem Abbrev_any (s p : ByteArray) (n : Int) (w : World) (hss : s.size ≤ maxLen) (hsp : p.size ≤ maxLen) :
    Calls Tryd.prog 51 #[.string s, .string p, .int .i64 n] w (GivesB w (abbrevR (bts s) (bts p) n)) := by
  have KVsp := fun (W : World) (pp : Nat) (hp : pp < W.heap.size) (hc : At W pp [.string s, .string p]) => Lib.hid (areValid2 pp s p W hss hsp hp hc)
  have KAn := fun (W : World) (pp : Nat) (hc : W.cell? ⟨pp, 0, none⟩ = some (.int .i64 n)) => Lib.hid (areAtLeast1 pp 0 n W hc)
  cases hv0 : validL (bts s) && validL (bts p) with
  | false =>
    rw [hv0] at KVsp
    have HR := Lib.hid (show abbrevR (bts s) (bts p) n = (false, 1) by unfold abbrevR guardB; simp only [hv0, Bool.and_false, Bool.false_and, Bool.true_and, Bool.and_true]; rfl)
    clear hv0
    go_enter Tryd.func51, Tryd.ntmps51
    go_wp2_with (first
      | (go_at_call 99; refine Calls.mono (KVsp _ _ (by simp) (At.new2 _ _ _ _)).out ?_; rintro e w1 ⟨rfl, hb1⟩; have B1 : Below w.heap.size w w1 := Bl.step (by repeat (first | assumption | exact Below.refl _ _ | refine Bl.alloc ?_ _ | refine Bl.drew ?_)) hb1))
    go_ret2
    exact givesB HR.out (by repeat (first | assumption | exact Below.refl _ _ | refine Bl.alloc ?_ _ | refine Bl.drew ?_))
  | true =>
    rw [hv0] at KVsp
    cases hv1 : decide (0 ≤ n) with
    | false =>
      rw [hv1] at KAn
      have HR := Lib.hid (show abbrevR (bts s) (bts p) n = (false, 1) by unfold abbrevR guardB; simp only [hv0, hv1, Bool.and_false, Bool.false_and, Bool.true_and, Bool.and_true]; rfl)
      clear hv0 hv1
      go_enter Tryd.func51, Tryd.ntmps51
      go_wp2_with (first
        | (go_at_call 99; refine Calls.mono (KVsp _ _ (by simp) (At.new2 _ _ _ _)).out ?_; rintro e w1 ⟨rfl, hb1⟩; have B1 : Below w.heap.size w w1 := Bl.step (by repeat (first | assumption | exact Below.refl _ _ | refine Bl.alloc ?_ _ | refine Bl.drew ?_)) hb1)
        | (go_at_call 100; refine Calls.mono (KAn _ _ (cellAt (by simp))).out ?_; rintro e w2 ⟨rfl, rfl⟩))
      go_ret2
      exact givesB HR.out (by repeat (first | assumption | exact Below.refl _ _ | refine Bl.alloc ?_ _ | refine Bl.drew ?_))
    | true =>
      rw [hv1] at KAn
      have HR0 := Lib.hid (show abbrevR (bts s) (bts p) n = (decide (n ≤ (p.size : Int)) && Lib.hasPrefix (bts s) (bts p), 0) by unfold abbrevR guardB; rw [hv0, hv1, atB_zero, bts_length]; rfl)
      have KH := fun W => Lib.hid (Tryd.strings_HasPrefix s p W)
      change ∀ W, Hid (Calls Tryd.prog 127 #[.string s, .string p] W fun e w' => e = .returned (.bool (Lib.hasPrefix (bts s) (bts p))) ∧ w' = W) at KH
      obtain ⟨z, hz⟩ : ∃ z, z = Lib.hasPrefix (bts s) (bts p) := ⟨_, rfl⟩
      rw [← hz] at KH HR0
      clear hv0 hv1 hz
      by_cases hn : n ≤ (p.size : Int)
      · have HR := Lib.hid (show abbrevR (bts s) (bts p) n = (z, 0) by rw [HR0.out, decide_eq_true hn]; rfl)
        go_enter Tryd.func51, Tryd.ntmps51
        go_wp2_with (first
          | (go_at_call 99; refine Calls.mono (KVsp _ _ (by simp) (At.new2 _ _ _ _)).out ?_; rintro e w1 ⟨rfl, hb1⟩; have B1 : Below w.heap.size w w1 := Bl.step (by repeat (first | assumption | exact Below.refl _ _ | refine Bl.alloc ?_ _ | refine Bl.drew ?_)) hb1)
          | (go_at_call 100; refine Calls.mono (KAn _ _ (cellAt (by simp))).out ?_; rintro e w2 ⟨rfl, rfl⟩)
          | (go_at_call 127; (with_reducible refine Calls.mono (KH _).out ?_); rintro e w5 ⟨rfl, rfl⟩))
        go_ret2
        exact givesB HR.out (by repeat (first | assumption | exact Below.refl _ _ | refine Bl.alloc ?_ _ | refine Bl.drew ?_))
      · have HR := Lib.hid (show abbrevR (bts s) (bts p) n = (false, 0) by rw [HR0.out, decide_eq_false hn]; rfl)
        go_enter Tryd.func51, Tryd.ntmps51
        go_wp2_with (first
          | (go_at_call 99; refine Calls.mono (KVsp _ _ (by simp) (At.new2 _ _ _ _)).out ?_; rintro e w1 ⟨rfl, hb1⟩; have B1 : Below w.heap.size w w1 := Bl.step (by repeat (first | assumption | exact Below.refl _ _ | refine Bl.alloc ?_ _ | refine Bl.drew ?_)) hb1)
          | (go_at_call 100; refine Calls.mono (KAn _ _ (cellAt (by simp))).out ?_; rintro e w2 ⟨rfl, rfl⟩)
          | (go_at_call 127; (with_reducible refine Calls.mono (KH _).out ?_); rintro e w5 ⟨rfl, rfl⟩))
        go_ret2
        exact givesB HR.out (by repeat (first | assumption | exact Below.refl _ _ | refine Bl.alloc ?_ _ | refine Bl.drew ?_))
end Go.Proofs.YtoilgjlbpimcpaaDoor
