/- Some words of a string: where they begin and end. -/
import Derived.Test.YtoilgjlbpimcpaaDoorTn
import Derived.BigRegion
import Derived.Deep.RegionHeld3
namespace Go.Proofs.YtoilgjlbpimcpaaDoor
open Go.RowKit Go.Shelf Tx
set_option linter.unusedVariables false
set_option maxRecDepth 100000

namespace Tx
theorem wst_length (l : List UInt8) (k : Nat) : (wst l k).1.length ≤ k := by
  induction k with
  | zero => exact Nat.le_refl _
  | succ k ih =>
    rw [wst]
    split
    · omega
    · split
      · simp; omega
      · simp; omega
theorem spans_length (l : List UInt8) : (spans l).length ≤ l.length + 1 := wst_length l _
/-- The last one of so many words from a word on. -/
def lastI (k i : Nat) (m : Int) : Nat := if m = -1 ∨ (k : Int) - i ≤ m then k - 1 else i + m.toNat - 1
/-- Where so many words stand from the n-th on; nowhere if there are none. -/
def someL (L : List (Nat × Nat)) (n m : Int) : Nat × Nat :=
  if (L.length : Int) < n ∨ m = 0 then (0, 0) else ((L.getD (n - 1).toNat (0, 0)).1, (L.getD (lastI L.length (n - 1).toNat m) (0, 0)).2)
end Tx

theorem flat_get {n : Nat} (xs : List (Sp n)) (i : Nat) (h : i < xs.length) : (flat xs)[i * 2]? = some (.int .i64 (xs[i].1.1 : Int)) ∧ (flat xs)[i * 2 + 1]? = some (.int .i64 (xs[i].1.2 : Int)) := by
  induction xs generalizing i with
  | nil => simp at h
  | cons x xs ih =>
    cases i with
    | zero => unfold flat; simp
    | succ i =>
      have := ih i (by simpa using h)
      have e : (i + 1) * 2 = i * 2 + 1 + 1 := by omega
      rw [e]
      unfold flat at *
      simpa using this
/-- A row of words, its cells. -/
theorem row_cells {n : Nat} {w : World} {B : Nat} {v : Value} {xs : List (Sp n)} (h : w.ownsRow B 124 2 v xs.length (flat xs)) (hx : 0 < xs.length) :
    ∃ g cap, v = .slice (some ⟨g, 0, none⟩) xs.length cap ∧ xs.length ≤ cap ∧ cap ≤ maxLen ∧ B ≤ g ∧ g < w.heap.size ∧ ∀ i (hi : i < xs.length), w.cell? ⟨g, i * 2, none⟩ = some (.int .i64 (xs[i].1.1 : Int)) ∧ w.cell? ⟨g, i * 2 + 1, none⟩ = some (.int .i64 (xs[i].1.2 : Int)) := by
  obtain ⟨hl, ⟨rfl, h0⟩ | ⟨g, cap, cur, rfl, hB, hg, hc, hm, hs, ht⟩⟩ := h
  · omega
  · refine ⟨g, cap, rfl, hc, hm, hB, (Array.getElem?_eq_some_iff.1 hg).1, fun i hi => ?_⟩
    have hf := flat_get xs i hi
    rw [← ht, List.getElem?_take, List.getElem?_take, if_pos (by omega), if_pos (by omega), Array.getElem?_toList, Array.getElem?_toList] at hf
    simp only [World.cell?, hg]
    simpa using hf
theorem getD_map {n : Nat} {xs : List (Sp n)} {L : List (Nat × Nat)} (h : xs.map (fun x => x.1) = L) {i : Nat} (hi : i < xs.length) : L.getD i (0, 0) = xs[i].1 := by
  rw [← h, List.getD_eq_getElem?_getD, List.getElem?_map, List.getElem?_eq_getElem hi]; rfl

set_option maxHeartbeats 2000000 in
theorem subwords_any (s : ByteArray) (n m : Int) (w : World) (hs : s.size ≤ 1000000) (hn : 1 ≤ n) (hn2 : n ≤ 9223372036854775807) (hm : -1 ≤ m) (hm2 : m ≤ 9223372036854775807) :
    Calls Tryd.prog 132 #[.string s, .int .i64 n, .int .i64 m] w fun e w' => e = .returned (spv (someL (spans (bts s)) n m)) ∧ Below w.heap.size w w' := by
  have KC := fun (W : World) (b : Nat) (hb : W.cell? ⟨b, 0, none⟩ = some (.string s)) (hl : b < W.heap.size) => Lib.hid (collect_any s.size 179 #[.pointer (some ⟨b, 0, none⟩)] (spans (bts s)) (s.size + 1) W (by omega) (enters_of Tryd.func179 (by kernel_rfl) rfl) (fun w' hw' => words_stops b s W hs hb hl w' hw'))
  have hLn := spans_length (bts s)
  rw [bts_length] at hLn
  obtain ⟨L, hL⟩ : ∃ L, L = spans (bts s) := ⟨_, rfl⟩
  rw [← hL] at KC hLn ⊢
  clear hL
  go_enter Tryd.func132, Tryd.ntmps132
  go_wp2_with (go_at_call 162; refine Calls.mono (words_any _ _) ?_; rintro e w4 ⟨rfl, rfl⟩)
  refine Calls.mono (KC _ _ (cellAt (by simp)) (by simp)).out ?_
  rintro e w1 ⟨v, xs, rfl, h1, h2, hb1⟩
  have hz := hb1.size
  have p1 := (hb1.cell (p := ⟨w.heap.size, 0, none⟩) (by simp; omega)).trans (cellUp (Box2.new w 124 (.int .i64 0) (.int .i64 0)).cell0 (by simp))
  have p2 := (hb1.cell (p := ⟨w.heap.size, 1, none⟩) (by simp; omega)).trans (show _ = some (Value.int .i64 0) by simp)
  have f1 := (hb1.frozen (p := ⟨w.heap.size, 0, none⟩) (by simp; omega)).trans (show _ = false by simp)
  have f2 := (hb1.frozen (p := ⟨w.heap.size, 1, none⟩) (by simp; omega)).trans (show _ = false by simp)
  have B1 : Below w.heap.size w w1 := Bl.step (by repeat (first | assumption | exact Below.refl _ _ | refine Bl.alloc ?_ _ | refine Bl.drew ?_)) hb1
  have hlen : xs.length = L.length := by rw [← h1]; simp
  by_cases hc : (xs.length : Int) < n ∨ m = 0
  · have HR := Lib.hid (show someL L n m = (0, 0) by unfold someL; rw [← hlen, if_pos hc])
    have HB1 := Lib.hid B1
    obtain ⟨k, a, c, rfl, hk⟩ : ∃ (k : Nat) (a : Option Addr) (c : Nat), v = .slice a k c ∧ k = xs.length := by
      obtain ⟨_, ⟨rfl, h0⟩ | ⟨g, cap, cur, rfl, _⟩⟩ := h2
      · exact ⟨0, none, 0, rfl, h0.symm⟩
      · exact ⟨_, _, _, rfl, rfl⟩
    rw [← hk] at hc
    clear h1 h2 hb1 B1 hlen hk hz
    by_cases hc1 : (k : Int) < n
    · go_wp2
      refine bodyPost_ret (v := spv (0, 0)) (by simp [results, Tryd.results132, go_sem, p1, p2, spv]) rfl ?_
      exact ⟨by rw [HR.out], (HB1.out.setCell (p := ⟨w.heap.size, 0, none⟩) (Nat.le_refl _) _).setCell (p := ⟨w.heap.size, 1, none⟩) (Nat.le_refl _) _⟩
    · have hm0 : m = 0 := by omega
      subst hm0
      clear hc
      go_wp2
      refine bodyPost_ret (v := spv (0, 0)) (by simp [results, Tryd.results132, go_sem, p1, p2, spv]) rfl ?_
      exact ⟨by rw [HR.out], (HB1.out.setCell (p := ⟨w.heap.size, 0, none⟩) (Nat.le_refl _) _).setCell (p := ⟨w.heap.size, 1, none⟩) (Nat.le_refl _) _⟩
  · have hc1 : ¬ (xs.length : Int) < n := fun h => hc (.inl h)
    have hc2 : ¬ m = 0 := fun h => hc (.inr h)
    obtain ⟨i, rfl⟩ : ∃ i : Nat, n = (i : Int) + 1 := ⟨(n - 1).toNat, by omega⟩
    have hi : ((i : Int) + 1 - 1).toNat = i := by omega
    have HR := Lib.hid (show someL L ((i : Int) + 1) m = ((L.getD i (0, 0)).1, (L.getD (lastI L.length i m) (0, 0)).2) by unfold someL; rw [← hlen, if_neg hc, hi])
    obtain ⟨g, cap, rfl, hcap, hcm, hgB, hgl, hcells⟩ := row_cells h2 (by omega)
    have HB1 := Lib.hid B1
    have HL := Lib.hid hlen
    have HX := Lib.hid h1
    have HC := Lib.hid hcells
    have hig : i < xs.length := by omega
    obtain ⟨k, hk⟩ : ∃ k, k = xs.length := ⟨_, rfl⟩
    have HK := Lib.hid hk
    have hG1 := getD_map h1 hig
    have ca := (hcells i hig).1
    obtain ⟨fa, hfa⟩ : ∃ fa, fa = xs[i].1.1 := ⟨_, rfl⟩
    rw [← hfa] at ca
    have HA := Lib.hid (show (L.getD i (0, 0)).1 = fa by rw [hG1, hfa])
    have hk1 : k ≤ 1000001 := by omega
    have hik : i < k := by omega
    have hkc : k ≤ cap := by omega
    rw [← hk] at hc1
    clear h1 h2 hb1 B1 hlen hz hc hi hcells hG1 hfa hk
    clear hcm
    rw [← HK.out] 
    clear hig hcap
    have hne : ¬ cap = i := by omega
    by_cases hmm : m = -1
    · subst hmm
      have HI := Lib.hid (show lastI L.length i (-1) = k - 1 by unfold lastI; rw [if_pos (.inl rfl), ← HL.out, HK.out])
      have cb := (HC.out (k - 1) (by rw [← HK.out]; omega)).2
      have eqq : (k - 1) * 2 + 1 = i * 2 + (k - i - 1) * 2 + 1 := by omega
      rw [eqq] at cb
      clear eqq
      obtain ⟨fb, hfb⟩ : ∃ fb, fb = (xs[k - 1]'(by rw [← HK.out]; omega)).1.2 := ⟨_, rfl⟩
      rw [← hfb] at cb
      have HB := Lib.hid (show (L.getD (k - 1) (0, 0)).2 = fb by rw [getD_map HX.out (by rw [← HK.out]; omega), hfb])
      have hw : IntKind.i64.wrap ((k : Int) - (i : Int) - 1) = (k : Int) - (i : Int) - 1 := IntWalk.i64_in _ (by omega)
      clear hfb hLn hm2 hn2 hn 
      go_wp2
      go_region
      go_wp2
      refine bodyPost_ret (v := spv (fa, fb)) (by simp [results, Tryd.results132, go_sem, p1, p2, spv]) rfl ?_
      exact ⟨by rw [HR.out, HA.out, HI.out, HB.out], (HB1.out.drew.setCell (p := ⟨w.heap.size, 0, none⟩) (Nat.le_refl _) _).setCell (p := ⟨w.heap.size, 1, none⟩) (Nat.le_refl _) _⟩
    · have hmb : (m != -1) = true := by simpa using hmm
      have hm0b : (m == 0) = false := by simpa using hc2
      by_cases hml : m < (k : Int) - i
      · obtain ⟨j, rfl⟩ := Int.eq_ofNat_of_zero_le (show 0 ≤ m by omega)
        have hj1 : 1 ≤ j := by omega
        have hj2 : j < k - i := by omega
        have HI := Lib.hid (show lastI L.length i (j : Int) = i + j - 1 by unfold lastI; rw [if_neg (by rw [← HL.out, ← HK.out]; omega), Int.toNat_natCast])
        have cb := (HC.out (i + j - 1) (by rw [← HK.out]; omega)).2
        have eqq : (i + j - 1) * 2 + 1 = i * 2 + (j - 1) * 2 + 1 := by omega
        rw [eqq] at cb
        clear eqq
        obtain ⟨fb, hfb⟩ : ∃ fb, fb = (xs[i + j - 1]'(by rw [← HK.out]; omega)).1.2 := ⟨_, rfl⟩
        rw [← hfb] at cb
        have HB := Lib.hid (show (L.getD (i + j - 1) (0, 0)).2 = fb by rw [getD_map HX.out (by rw [← HK.out]; omega), hfb])
        have hw : IntKind.i64.wrap ((j : Int) - 1) = (j : Int) - 1 := IntWalk.i64_in _ (by omega)
        clear hfb hLn hm2 hn2 hn hmm hc2
        go_wp2
        go_region
        go_wp2
        refine bodyPost_ret (v := spv (fa, fb)) (by simp [results, Tryd.results132, go_sem, p1, p2, spv]) rfl ?_
        exact ⟨by rw [HR.out, HA.out, HI.out, HB.out], (HB1.out.drew.setCell (p := ⟨w.heap.size, 0, none⟩) (Nat.le_refl _) _).setCell (p := ⟨w.heap.size, 1, none⟩) (Nat.le_refl _) _⟩
      · have hmd : decide (m < ((k - i : Nat) : Int)) = false := decide_eq_false (by omega)
        have hmd2 : decide (m < (k : Int) - (i : Int)) = false := decide_eq_false hml
        have HI := Lib.hid (show lastI L.length i m = k - 1 by unfold lastI; rw [if_pos (.inr (by rw [← HL.out, ← HK.out]; omega)), ← HL.out, HK.out])
        have cb := (HC.out (k - 1) (by rw [← HK.out]; omega)).2
        have eqq : (k - 1) * 2 + 1 = i * 2 + (k - i - 1) * 2 + 1 := by omega
        rw [eqq] at cb
        clear eqq
        obtain ⟨fb, hfb⟩ : ∃ fb, fb = (xs[k - 1]'(by rw [← HK.out]; omega)).1.2 := ⟨_, rfl⟩
        rw [← hfb] at cb
        have HB := Lib.hid (show (L.getD (k - 1) (0, 0)).2 = fb by rw [getD_map HX.out (by rw [← HK.out]; omega), hfb])
        have hw : IntKind.i64.wrap ((k : Int) - (i : Int) - 1) = (k : Int) - (i : Int) - 1 := IntWalk.i64_in _ (by omega)
        clear hfb hLn hm2 hn2 hn hmm hc2
        go_wp2
        go_region
        go_wp2
        refine bodyPost_ret (v := spv (fa, fb)) (by simp [results, Tryd.results132, go_sem, p1, p2, spv]) rfl ?_
        exact ⟨by rw [HR.out, HA.out, HI.out, HB.out], (HB1.out.drew.setCell (p := ⟨w.heap.size, 0, none⟩) (Nat.le_refl _) _).setCell (p := ⟨w.heap.size, 1, none⟩) (Nat.le_refl _) _⟩
end Go.Proofs.YtoilgjlbpimcpaaDoor
