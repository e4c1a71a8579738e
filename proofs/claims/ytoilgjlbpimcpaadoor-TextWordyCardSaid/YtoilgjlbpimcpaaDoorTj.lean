/- Iterators that count up and down. -/
import Derived.Test.YtoilgjlbpimcpaaDoorTg
import Derived.RangeFuncBox
import Derived.RangeFuncCalls
import Derived.RangeFuncLeaves
import Derived.Shelf.RegionOpen
import Derived.Shelf.Abstract
import Derived.OwnWalkIn
import Derived.TacticsInMore
import Derived.LoopNIn
import Derived.LoopIn
import Derived.BigFrameIn
namespace Go.Proofs.YtoilgjlbpimcpaaDoor
open Go.RowKit Go.Shelf Tx
set_option linter.unusedVariables false
set_option maxRecDepth 100000

/-- An offset at which a part of length p fits into s bytes. -/
abbrev Off (p s : Nat) := { x : Int // 0 ≤ x ∧ x + p ≤ s }
/-- k integers from a on, going on by d. -/
def run (a d : Int) (k : Nat) : List Int := (List.range k).map fun (i : Nat) => a + d * (i : Int)
theorem run_succ (a d : Int) (k : Nat) : run a d (k + 1) = run a d k ++ [a + d * (k : Int)] := by
  unfold run; rw [List.range_succ, List.map_append]; rfl
theorem run_prefix (a d : Int) (k m : Nat) (h : k ≤ m) : ∃ r, run a d k ++ r = run a d m := by
  induction m with
  | zero => exact ⟨[], by rw [show k = 0 by omega]; simp⟩
  | succ m ih =>
    by_cases e : k = m + 1
    · exact ⟨[], by rw [e]; simp⟩
    · obtain ⟨r, hr⟩ := ih (by omega)
      exact ⟨r ++ [a + d * (m : Int)], by rw [run_succ, ← hr, List.append_assoc]⟩
theorem run_length (a d : Int) (k : Nat) : (run a d k).length = k := by unfold run; simp
/-- What an iterator comes to: all have come, or a round has said no more. -/
def SeqPost {α : Type} (val : α → Int) (L : List Int) (J Jx : List α → World → Prop) (e : Ending) (W' : World) : Prop :=
  (∃ v, e = .returned v) ∧ ((∃ xs, xs.map val = L ∧ J xs W') ∨ (∃ pre, (∃ r, pre.map val ++ r = L) ∧ Jx pre W'))

set_option maxHeartbeats 4000000 in
theorem up_in (l b1 b2 p s n₀ : Nat) (a b : Int) (h0 : 0 ≤ a) (hb : b + p ≤ s) (hs : s ≤ 1000000) (hlo : -1000000 ≤ a) (hhi : a ≤ 9223372036854775806) (hlo2 : -1000000 ≤ b) (hhi2 : b ≤ 1000000) (J Jx : List (Off p s) → World → Prop)
    (hround : ∀ pre x W, J pre W → pre.length < (b + 1 - a).toNat → YieldAt Fence.wide 1 Tryd.prog l #[.int .i64 x.1] W fun e W' =>
      (e = .returned (.bool true) ∧ J (pre ++ [x]) W' ∧ Below n₀ W W') ∨ (e = .returned (.bool false) ∧ Jx (pre ++ [x]) W'))
    (W : World) (hb1 : W.cell? ⟨b1, 0, none⟩ = some (.int .i64 a)) (hb2 : W.cell? ⟨b2, 0, none⟩ = some (.int .i64 b)) (hl1 : b1 < n₀) (hl2 : b2 < n₀) (hn : n₀ ≤ W.heap.size) (hJ0 : J [] W) :
    CallsIn Fence.wide 2 Tryd.prog 156 #[.func (.yield l) #[] #[], .pointer (some ⟨b1, 0, none⟩), .pointer (some ⟨b2, 0, none⟩)] W (SeqPost (fun x : Off p s => x.1) (run a 1 (b + 1 - a).toNat) J Jx) := by
  have HR := Lib.hid hround
  have HJ0 := Lib.hid hJ0
  clear hround hJ0
  refine callsIn_of_wp Tryd.func156 rfl trivial ?_ rfl
  simp only [Tryd.ntmps156, List.size_toArray, List.length_cons, List.length_nil, Nat.reduceAdd, Nat.reduceSub, Array.replicate_succ, Array.replicate_zero, List.push_toArray, List.append_toArray, List.nil_append, List.cons_append]
  gi_wp2
  gi_loopw [4] (fun v wr => ∃ (k : Nat) (pre : List (Off p s)), v = .int .i64 (a + (k : Int)) ∧ k ≤ (b + 1 - a).toNat ∧ Hid (pre.map (fun x => x.1) = run a 1 k) ∧ Hid (J pre wr) ∧ Below n₀ W wr) (fun v _ => (b + 1 - intOf v).toNat)
  case atStart => exact ⟨0, [], by simp, Nat.zero_le _, Lib.hid rfl, HJ0, Below.refl _ _⟩
  case round =>
    obtain ⟨k, pre, rfl, hk, hpre, hJ, hB⟩ := hrel
    have c2 := (hB.cell (p := ⟨b2, 0, none⟩) hl2).trans hb2
    by_cases hlt : a + (k : Int) ≤ b
    · have hlen : pre.length = k := by have := congrArg List.length hpre.out; rw [List.length_map, run_length] at this; exact this
      obtain ⟨y, hy1⟩ : ∃ y : Off p s, y.1 = a + (k : Int) := ⟨⟨a + (k : Int), by omega⟩, rfl⟩
      have hYY := HR.out pre y wr hJ.out (by rw [hlen]; omega)
      rw [hy1] at hYY
      obtain ⟨fn, tmps, assign, body, hy, hR⟩ := hYY
      have hR2 := hR.mono (R' := fun e W' => ∃ bb, e = .returned (.bool bb) ∧ Hid ((bb = true ∧ J (pre ++ [y]) W' ∧ Below n₀ wr W') ∨ (bb = false ∧ Jx (pre ++ [y]) W'))) (fun e w' h => by
        rcases h with ⟨h1, h2, h3⟩ | ⟨h1, h2⟩
        · exact ⟨true, h1, .inl ⟨rfl, h2, h3⟩⟩
        · exact ⟨false, h1, .inr ⟨rfl, h2⟩⟩)
      have HRR := Lib.hid hR2
      have HP := Lib.hid (show (pre ++ [y]).map (fun x : Off p s => x.1) = run a 1 (k + 1) by rw [List.map_append, hpre.out, run_succ]; simp [hy1]; try omega)
      clear hR hR2 hlen hy1
      gi_wp2
      refine RoundIn.mono HRR.out ?_
      rintro e W3 ⟨bb, rfl, hcase⟩
      cases bb
      · gi_wp2
        go_end0
        rcases hcase.out with ⟨h, _⟩ | ⟨_, h⟩
        · cases h
        · exact ⟨⟨_, rfl⟩, .inr ⟨_, by rw [HP.out]; exact run_prefix _ _ _ _ (by omega), h⟩⟩
      · gi_wp2
        rcases hcase.out with ⟨_, hJ3, hk3⟩ | ⟨h, _⟩
        · go_roundw
          case rel => exact ⟨k + 1, _, by go_num, by omega, HP, Lib.hid hJ3, hB.trans hk3⟩
          case measure => simp [intOf]; omega
        · cases h
    · have HK := Lib.hid (show k = (b + 1 - a).toNat by omega)
      have hd : decide (a + (k : Int) ≤ b) = false := decide_eq_false hlt
      gi_wp2
      refine ⟨fun _ h => (by cases h), ?_⟩
      gi_wp2
      go_end0
      exact ⟨⟨_, rfl⟩, .inl ⟨pre, by rw [hpre.out, HK.out], hJ.out⟩⟩

set_option maxHeartbeats 4000000 in
theorem down_in (l b1 b2 p s n₀ : Nat) (a b : Int) (h0 : 0 ≤ b) (hb : a + p ≤ s) (hs : s ≤ 1000000) (hlo : -1000000 ≤ a) (hhi : a ≤ 9223372036854775806) (hlo2 : -1000000 ≤ b) (hhi2 : b ≤ 1000000) (J Jx : List (Off p s) → World → Prop)
    (hround : ∀ pre x W, J pre W → pre.length < (a + 1 - b).toNat → YieldAt Fence.wide 1 Tryd.prog l #[.int .i64 x.1] W fun e W' =>
      (e = .returned (.bool true) ∧ J (pre ++ [x]) W' ∧ Below n₀ W W') ∨ (e = .returned (.bool false) ∧ Jx (pre ++ [x]) W'))
    (W : World) (hb1 : W.cell? ⟨b1, 0, none⟩ = some (.int .i64 a)) (hb2 : W.cell? ⟨b2, 0, none⟩ = some (.int .i64 b)) (hl1 : b1 < n₀) (hl2 : b2 < n₀) (hn : n₀ ≤ W.heap.size) (hJ0 : J [] W) :
    CallsIn Fence.wide 2 Tryd.prog 157 #[.func (.yield l) #[] #[], .pointer (some ⟨b1, 0, none⟩), .pointer (some ⟨b2, 0, none⟩)] W (SeqPost (fun x : Off p s => x.1) (run a (-1) (a + 1 - b).toNat) J Jx) := by
  have HR := Lib.hid hround
  have HJ0 := Lib.hid hJ0
  clear hround hJ0
  refine callsIn_of_wp Tryd.func157 rfl trivial ?_ rfl
  simp only [Tryd.ntmps157, List.size_toArray, List.length_cons, List.length_nil, Nat.reduceAdd, Nat.reduceSub, Array.replicate_succ, Array.replicate_zero, List.push_toArray, List.append_toArray, List.nil_append, List.cons_append]
  gi_wp2
  gi_loopw [4] (fun v wr => ∃ (k : Nat) (pre : List (Off p s)), v = .int .i64 (a - (k : Int)) ∧ k ≤ (a + 1 - b).toNat ∧ Hid (pre.map (fun x => x.1) = run a (-1) k) ∧ Hid (J pre wr) ∧ Below n₀ W wr) (fun v _ => (intOf v + 1 - b).toNat)
  case atStart => exact ⟨0, [], by simp, Nat.zero_le _, Lib.hid rfl, HJ0, Below.refl _ _⟩
  case round =>
    obtain ⟨k, pre, rfl, hk, hpre, hJ, hB⟩ := hrel
    have c2 := (hB.cell (p := ⟨b2, 0, none⟩) hl2).trans hb2
    by_cases hlt : b ≤ a - (k : Int)
    · have hlen : pre.length = k := by have := congrArg List.length hpre.out; rw [List.length_map, run_length] at this; exact this
      obtain ⟨y, hy1⟩ : ∃ y : Off p s, y.1 = a - (k : Int) := ⟨⟨a - (k : Int), by omega⟩, rfl⟩
      have hYY := HR.out pre y wr hJ.out (by rw [hlen]; omega)
      rw [hy1] at hYY
      obtain ⟨fn, tmps, assign, body, hy, hR⟩ := hYY
      have hR2 := hR.mono (R' := fun e W' => ∃ bb, e = .returned (.bool bb) ∧ Hid ((bb = true ∧ J (pre ++ [y]) W' ∧ Below n₀ wr W') ∨ (bb = false ∧ Jx (pre ++ [y]) W'))) (fun e w' h => by
        rcases h with ⟨h1, h2, h3⟩ | ⟨h1, h2⟩
        · exact ⟨true, h1, .inl ⟨rfl, h2, h3⟩⟩
        · exact ⟨false, h1, .inr ⟨rfl, h2⟩⟩)
      have HRR := Lib.hid hR2
      have HP := Lib.hid (show (pre ++ [y]).map (fun x : Off p s => x.1) = run a (-1) (k + 1) by rw [List.map_append, hpre.out, run_succ]; simp [hy1]; try omega)
      clear hR hR2 hlen hy1
      gi_wp2
      refine RoundIn.mono HRR.out ?_
      rintro e W3 ⟨bb, rfl, hcase⟩
      cases bb
      · gi_wp2
        go_end0
        rcases hcase.out with ⟨h, _⟩ | ⟨_, h⟩
        · cases h
        · exact ⟨⟨_, rfl⟩, .inr ⟨_, by rw [HP.out]; exact run_prefix _ _ _ _ (by omega), h⟩⟩
      · gi_wp2
        rcases hcase.out with ⟨_, hJ3, hk3⟩ | ⟨h, _⟩
        · go_roundw
          case rel => exact ⟨k + 1, _, by go_num, by omega, HP, Lib.hid hJ3, hB.trans hk3⟩
          case measure => simp [intOf]; omega
        · cases h
    · have HK := Lib.hid (show k = (a + 1 - b).toNat by omega)
      have hd : decide (b ≤ a - (k : Int)) = false := decide_eq_false hlt
      gi_wp2
      refine ⟨fun _ h => (by cases h), ?_⟩
      gi_wp2
      go_end0
      exact ⟨⟨_, rfl⟩, .inl ⟨pre, by rw [hpre.out, HK.out], hJ.out⟩⟩

end Go.Proofs.YtoilgjlbpimcpaaDoor
