/- The other program's Words, Word, WordIndex, WordLength. -/
import Derived.Test.YtoilgjlbpimcpaaDoorZe
import Derived.Test.YtoilgjlbpimcpaaDoorZa
namespace Go.Proofs.YtoilgjlbpimcpaaDoor
open Go.RowKit Go.Shelf Tx
set_option linter.unusedVariables false
set_option maxRecDepth 100000

theorem sps_shape {w : World} {v : Value} {L : List (Nat × Nat)} (h : Sps w v L) : ∃ ao cap, v = .slice ao L.length cap := by
  rcases h with ⟨rfl, rfl⟩ | ⟨g, cap, rfl, _⟩
  · exact ⟨none, 0, rfl⟩
  · exact ⟨_, _, rfl⟩
theorem sps_cells {w : World} {v : Value} {L : List (Nat × Nat)} (h : Sps w v L) (h0 : L ≠ []) : ∃ g cap, v = .slice (some ⟨g, 0, none⟩) L.length cap ∧ g < w.heap.size ∧ ∀ (i : Nat) (p : Nat × Nat), L[i]? = some p → w.cell? ⟨g, i * 2, none⟩ = some (.int .i64 (p.1 : Int)) ∧ w.cell? ⟨g, i * 2 + 1, none⟩ = some (.int .i64 (p.2 : Int)) := by
  rcases h with ⟨_, h⟩ | h
  · exact absurd h h0
  · exact h
/-- What a function of the other program answers: a number and an error. -/
def GivesM (w : World) (r : Int × Int) (e : Ending) (w' : World) : Prop := e = .returned (.agg #[.int .i64 r.1, .int .i64 r.2]) ∧ Below w.heap.size w w'
theorem givesM {w w' : World} {r : Int × Int} {n k : Int} (hr : r = (n, k)) (hb : Below w.heap.size w w') : GivesM w r (.returned (.agg #[.int .i64 n, .int .i64 k])) w' := by
  subst hr; exact ⟨rfl, hb⟩
/-- Behind block w.heap.size, two numbers, new memory alone has changed. -/
def NbB (t : TypeId) (w W : World) : Prop := Below (w.heap.size + 1) (w.alloc (.cells #[.int .i64 0, .int .i64 0] t)) W
theorem nbB_new (t : TypeId) (w : World) : NbB t w (w.alloc (.cells #[.int .i64 0, .int .i64 0] t)) := Below.refl _ _
theorem NbB.le {t : TypeId} {w W : World} (h : NbB t w W) : w.heap.size + 1 ≤ W.heap.size := by have := h.size; simpa using this
theorem NbB.step {t : TypeId} {w W W' : World} (h : NbB t w W) (hb : Below W.heap.size W W') : NbB t w W' := h.trans (hb.mono h.le)
theorem NbB.facts {t : TypeId} {w W : World} (h : NbB t w W) : W.cell? ⟨w.heap.size, 0, none⟩ = some (.int .i64 0) ∧ W.cell? ⟨w.heap.size, 1, none⟩ = some (.int .i64 0) ∧ W.frozen? ⟨w.heap.size, 0, none⟩ = false ∧ W.frozen? ⟨w.heap.size, 1, none⟩ = false := by
  have e : W.heap[w.heap.size]? = some (.cells #[.int .i64 0, .int .i64 0] t) := (h.block _ (Nat.lt_succ_self _)).trans (heap_alloc_new w _)
  refine ⟨?_, ?_, ?_, ?_⟩ <;> simp [World.cell?, World.frozen?, e]
theorem NbB.fin {t : TypeId} {w W : World} (h : NbB t w W) (x y : Value) : Below w.heap.size w ((W.setCell ⟨w.heap.size, 0, none⟩ x).setCell ⟨w.heap.size, 1, none⟩ y) :=
  sb_b (((Below.refl _ w).alloc (Nat.le_refl _) _).trans (h.mono (Nat.le_succ _))) x y

set_option maxHeartbeats 2000000 in
theorem Rword_any (s : ByteArray) (n : Int) (w : World) (hs : s.size ≤ 1000000) (hn : 1 ≤ n) (hn2 : n ≤ 9223372036854775807) :
    Calls Tryd.prog 135 #[.string s, .int .i64 n] w fun e w' => e = .returned (.tuple #[spv (nthL (spans (bts s)) n).1, .bool (nthL (spans (bts s)) n).2]) ∧ Below w.heap.size w w' := by
  have KS := fun W => Lib.hid (Spans_any s W hs)
  obtain ⟨L, hL⟩ : ∃ L, L = spans (bts s) := ⟨_, rfl⟩
  have hLn := spans_length (bts s)
  rw [bts_length] at hLn
  rw [← hL] at KS hLn ⊢
  clear hL
  by_cases hc : (L.length : Int) < n
  · have HR := Lib.hid (show nthL L n = ((0, 0), false) by unfold nthL; rw [if_neg (by omega)])
    clear hn2
    go_enter Tryd.func135, Tryd.ntmps135
    go_wp2_with (go_at_call 134; (with_reducible refine Calls.mono (KS _).out ?_); rintro e w1 ⟨vs, rfl, hsp, hb1⟩; have HB5 := Lib.hid ((nbB_new 132 w).step hb1); obtain ⟨p1, p2, f1, f2⟩ := HB5.out.facts; obtain ⟨ao, cap, rfl⟩ := sps_shape hsp; clear hb1 hsp)
    refine bodyPost_ret (v := .tuple #[spv (0, 0), .bool false]) (by simp [results, Tryd.results135, go_sem, p1, p2, spv]) rfl ?_
    exact ⟨by rw [HR.out], HB5.out.fin _ _⟩
  · obtain ⟨i, rfl⟩ : ∃ i : Nat, n = (i : Int) + 1 := ⟨(n - 1).toNat, by omega⟩
    have hi : i < L.length := by omega
    obtain ⟨⟨a, b⟩, hp⟩ : ∃ p, L[i]? = some p := ⟨_, List.getElem?_eq_getElem hi⟩
    have HR := Lib.hid (show nthL L ((i : Int) + 1) = ((a, b), true) by
      unfold nthL
      rw [if_pos (by omega), show ((i : Int) + 1 - 1).toNat = i by omega, List.getD_eq_getElem?_getD, hp]; rfl)
    have HP := Lib.hid hp
    have hi2 : (i : Int) < (L.length : Int) := by omega
    have hwr : IntKind.i64.wrap ((i : Int) + 1 - 1) = (i : Int) := by rw [show (i : Int) + 1 - 1 = (i : Int) by omega]; exact IntWalk.i64_in _ (by omega)
    have hx1 : (i : Int) + 1 - 1 = (i : Int) := by omega
    have hwi : IntKind.i64.wrap (i : Int) = (i : Int) := IntWalk.i64_in _ (by omega)
    clear hp
    clear hn2
    go_enter Tryd.func135, Tryd.ntmps135
    go_wp2_with (go_at_call 134; (with_reducible refine Calls.mono (KS _).out ?_); rintro e w1 ⟨vs, rfl, hsp, hb1⟩; have HB5 := Lib.hid ((nbB_new 132 w).step hb1); obtain ⟨p1, p2, f1, f2⟩ := HB5.out.facts; obtain ⟨g, cap, rfl, hgl, hcells⟩ := sps_cells hsp (by intro e; rw [e] at hi; simp at hi); obtain ⟨c0, c1⟩ := hcells i (a, b) HP.out; clear hb1 hsp hcells)
    refine bodyPost_ret (v := .tuple #[spv (a, b), .bool true]) (by simp [results, Tryd.results135, go_sem, p1, p2, spv]) rfl ?_
    exact ⟨by rw [HR.out], HB5.out.fin _ _⟩
end Go.Proofs.YtoilgjlbpimcpaaDoor
