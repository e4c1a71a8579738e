/- The months of a year, one after the other. -/
import Derived.Test.YtmjifmlibgpjiaaGreatDoorCa
import Derived.RangeFuncBox
import Derived.RangeFuncCalls
import Derived.RangeFuncLeaves
import Derived.Shelf.RegionOpen
import Derived.Shelf.Abstract
import Derived.OwnWalkIn
import Derived.TacticsInMore
import Derived.LoopNIn
import Derived.LoopIn
import Derived.BigFrameIn
import Derived.RangeFuncNested
namespace Go.Proofs.YtmjifmlibgpjiaaGreatDoor
open Go.RowKit Tx
set_option linter.unusedVariables false
set_option maxRecDepth 100000

namespace Tx
def upTo (k : Nat) : List Nat := List.range' 1 k
theorem upTo_succ (k : Nat) : upTo (k + 1) = upTo k ++ [k + 1] := by
  unfold upTo; rw [List.range'_1_concat, Nat.add_comm]
theorem upTo_length (k : Nat) : (upTo k).length = k := by unfold upTo; simp
theorem upTo_prefix (k m : Nat) (h : k ≤ m) : ∃ r, upTo k ++ r = upTo m := by
  induction m with
  | zero => exact ⟨[], by rw [show k = 0 by omega]; simp⟩
  | succ m ih =>
    by_cases e : k = m + 1
    · exact ⟨[], by rw [e]; simp⟩
    · obtain ⟨r, hr⟩ := ih (by omega)
      exact ⟨r ++ [m + 1], by rw [upTo_succ, ← hr, List.append_assoc]⟩
theorem upTo_of_prefix {pre r : List Nat} {m : Nat} (h : pre ++ r = upTo m) : pre = upTo pre.length ∧ pre.length ≤ m := by
  have hl : pre.length ≤ m := by have := congrArg List.length h; rw [List.length_append, upTo_length] at this; omega
  obtain ⟨r', hr'⟩ := upTo_prefix pre.length m hl
  exact ⟨(List.append_inj (h.trans hr'.symm) (by rw [upTo_length])).1, hl⟩
end Tx
/-- What the iterator comes to. -/
def MonPost (J Jx : List Nat → World → Prop) (e : Ending) (W' : World) : Prop :=
  (∃ v, e = .returned v) ∧ ((∃ xs, xs = upTo 12 ∧ J xs W') ∨ (∃ pre, (∃ r, pre ++ r = upTo 12) ∧ Jx pre W'))
set_option maxHeartbeats 4000000 in
theorem months_in (l b y : Nat) (J Jx : List Nat → World → Prop)
    (hround : ∀ (pre : List Nat) (m : Nat) (W : World), J pre W → pre.length < 12 → YieldAt Fence.wide 1 Tryz.prog l #[.int .i64 (m : Int), .int .i64 (dim y m : Int)] W fun e W' =>
      (e = .returned (.bool true) ∧ J (pre ++ [m]) W' ∧ W'.cell? ⟨b, 0, none⟩ = W.cell? ⟨b, 0, none⟩) ∨ (e = .returned (.bool false) ∧ Jx (pre ++ [m]) W'))
    (W : World) (hb1 : W.cell? ⟨b, 0, none⟩ = some (.int .i64 (y : Int))) (hJ0 : J [] W) :
    CallsIn Fence.wide 2 Tryz.prog 124 #[.func (.yield l) #[] #[], .pointer (some ⟨b, 0, none⟩)] W (MonPost J Jx) := by
  have HR := Lib.hid hround
  have HJ0 := Lib.hid hJ0
  clear hround hJ0
  refine callsIn_of_wp Tryz.func124 rfl trivial ?_ rfl
  simp only [Tryz.ntmps124, List.size_toArray, List.length_cons, List.length_nil, Nat.reduceAdd, Nat.reduceSub, Array.replicate_succ, Array.replicate_zero, List.push_toArray, List.append_toArray, List.nil_append, List.cons_append]
  gi_wp2
  gi_loopw [3] (fun v wr => ∃ k : Nat, v = .int .i64 ((k : Int) + 1) ∧ k ≤ 12 ∧ Hid (J (upTo k) wr) ∧ wr.cell? ⟨b, 0, none⟩ = some (.int .i64 (y : Int))) (fun v _ => (13 - intOf v).toNat)
  case atStart => exact ⟨0, rfl, Nat.zero_le _, HJ0, hb1⟩
  case round =>
    obtain ⟨k, rfl, hk, hJ, hc⟩ := hrel
    by_cases hlt : k < 12
    · have hle : (k : Int) + 1 ≤ 12 := by omega
      have KM := fun W => Lib.hid (monthLength_any y (k + 1) W (by omega) (by omega))
      rw [show ((k + 1 : Nat) : Int) = (k : Int) + 1 by omega] at KM
      have hYY := HR.out (upTo k) (k + 1) wr hJ.out (by rw [upTo_length]; omega)
      rw [← upTo_succ, show ((k + 1 : Nat) : Int) = (k : Int) + 1 by omega] at hYY
      obtain ⟨fn, tmps, assign, body, hy, hR⟩ := hYY
      have hR2 := hR.mono (R' := fun e W' => ∃ bb, e = .returned (.bool bb) ∧ Hid ((bb = true ∧ J (upTo (k + 1)) W' ∧ W'.cell? ⟨b, 0, none⟩ = wr.cell? ⟨b, 0, none⟩) ∨ (bb = false ∧ Jx (upTo (k + 1)) W'))) (fun e w' h => by
        rcases h with ⟨h1, h2, h3⟩ | ⟨h1, h2⟩
        · exact ⟨true, h1, .inl ⟨rfl, h2, h3⟩⟩
        · exact ⟨false, h1, .inr ⟨rfl, h2⟩⟩)
      have HRR := Lib.hid hR2
      have hw1 : IntKind.i64.wrap ((k : Int) + 1 + 1) = (k : Int) + 1 + 1 := IntWalk.i64_in _ (by omega)
      clear hR hR2
      gi_wp2_with (refine ⟨trivial, ?_⟩; gi_at_call 45; refine CallsIn.mono (callsIn_wide.2 (KM _).out) ?_; rintro e w1 ⟨rfl, rfl⟩)
      refine RoundIn.mono HRR.out ?_
      rintro e W3 ⟨bb, rfl, hcase⟩
      cases bb
      · gi_wp2
        go_end0
        rcases hcase.out with ⟨h, _⟩ | ⟨_, h⟩
        · cases h
        · exact ⟨⟨_, rfl⟩, .inr ⟨_, upTo_prefix _ _ (by omega), h⟩⟩
      · gi_wp2
        rcases hcase.out with ⟨_, hJ3, hk3⟩ | ⟨h, _⟩
        · go_roundw
          case rel => exact ⟨k + 1, by go_num, by omega, Lib.hid hJ3, hk3.trans hc⟩
          case measure => simp [intOf]; omega
        · cases h
    · have HK := Lib.hid (show k = 12 by omega)
      have hd : decide ((k : Int) + 1 ≤ 12) = false := decide_eq_false (by omega)
      gi_wp2
      go_end0
      exact ⟨⟨_, rfl⟩, .inl ⟨_, rfl, by rw [← HK.out]; exact hJ.out⟩⟩
theorem months_stops (b y n : Nat) (w : World) (hb : w.cell? ⟨b, 0, none⟩ = some (.int .i64 (y : Int))) (h1 : b < w.heap.size) (w' : World) (hw' : Below w.heap.size w w') :
    SeqStopsK Fence.wide 2 Tryz.prog 124 #[.pointer (some ⟨b, 0, none⟩)] (fun m : Nat => #[.int .i64 (m : Int), .int .i64 (dim y m : Int)]) (fun A B => B.cell? ⟨b, 0, none⟩ = A.cell? ⟨b, 0, none⟩)
      (fun xs => xs = upTo 12) (fun pre => ∃ r, pre ++ r = upTo 12) 12 w' := by
  intro l J Jx W hW hJ hJx hY hJ0
  have hz := hw'.size
  refine (months_in l b y J Jx hY W ?_ hJ0).mono ?_
  · exact (hW.cell (p := ⟨b, 0, none⟩) (Nat.lt_of_lt_of_le h1 hz)).trans ((hw'.cell (p := ⟨b, 0, none⟩) h1).trans hb)
  · intro e W' h; exact h
set_option maxHeartbeats 400000 in
theorem months_any (y : Int) (w : World) :
    Calls Tryz.prog 86 #[.int .i64 y] w fun e w' => e = .returned (.func (.func 124) #[] #[.pointer (some ⟨w.heap.size, 0, none⟩)]) ∧ w.alloc (.cells #[.int .i64 y] 3) = w' := by
  go_enter Tryz.func86, Tryz.ntmps86
  go_wp2
  go_ret
  exact ⟨rfl, rfl⟩
set_option maxHeartbeats 400000 in
theorem dateFrom_any (y m d : Int) (w : World) :
    Calls Tryz.prog 46 #[.int .i64 y, .int .i64 m, .int .i64 d] w fun e w' => e = .returned (.agg #[.int .i64 y, .int .i64 m, .int .i64 d]) ∧ w.alloc (.cells #[.int .i64 y, .int .i64 m, .int .i64 d] 70) = w' := by
  go_enter Tryz.func46, Tryz.ntmps46
  go_wp2
  refine bodyPost_ret (v := .agg #[.int .i64 y, .int .i64 m, .int .i64 d]) (by simp [results, Tryz.results46, go_sem]) rfl ?_
  exact ⟨rfl, rfl⟩
end Go.Proofs.YtmjifmlibgpjiaaGreatDoor
