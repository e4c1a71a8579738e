/- The other program's words that Subword takes. -/
import Derived.Test.YtoilgjlbpimcpaaDoorZg
namespace Go.Proofs.YtoilgjlbpimcpaaDoor
open Go.RowKit Go.Shelf Tx
set_option linter.unusedVariables false
set_option maxRecDepth 100000

namespace Tx
def someB (L : List (Nat × Nat)) (n m : Int) : Bool := !(decide ((L.length : Int) < n) || decide (m = 0))
theorem some_no {L : List (Nat × Nat)} {n m : Int} (h : (L.length : Int) < n ∨ m = 0) : someL L n m = (0, 0) ∧ someB L n m = false := by
  constructor
  · unfold someL; rw [if_pos h]
  · unfold someB; rcases h with h | h <;> simp [h]
theorem some_at {L : List (Nat × Nat)} {N j : Nat} {m : Int} {x y : Nat × Nat} (h1 : 1 ≤ N) (h2 : ¬ (L.length : Int) < (N : Int)) (h3 : ¬ m = 0) (hj : lastI L.length (N - 1) m = j) (hx : L[N - 1]? = some x) (hy : L[j]? = some y) : someL L (N : Int) m = (x.1, y.2) ∧ someB L (N : Int) m = true := by
  constructor
  · unfold someL
    rw [if_neg (by rintro (h | h); exact h2 h; exact h3 h), show ((N : Int) - 1).toNat = N - 1 by omega, hj, List.getD_eq_getElem?_getD, List.getD_eq_getElem?_getD, hx, hy]
    rfl
  · unfold someB; simp [h2, h3]
end Tx
set_option maxHeartbeats 4000000 in
theorem Rsome_any (s : ByteArray) (n m : Int) (w : World) (hs : s.size ≤ 1000000) (hn : 1 ≤ n) (hm : -1 ≤ m) (hm2 : m ≤ 9223372036854775807) :
    Calls Tryd.prog 136 #[.string s, .int .i64 n, .int .i64 m] w fun e w' => e = .returned (.tuple #[spv (someL (spans (bts s)) n m), .bool (someB (spans (bts s)) n m)]) ∧ Below w.heap.size w w' := by
  have KS := fun W => Lib.hid (Spans_any s W hs)
  obtain ⟨L, hL⟩ : ∃ L, L = spans (bts s) := ⟨_, rfl⟩
  have hLn := spans_length (bts s)
  rw [bts_length] at hLn
  rw [← hL] at KS hLn ⊢
  clear hL
  obtain ⟨N, rfl⟩ : ∃ N : Nat, n = (N : Int) := ⟨n.toNat, by omega⟩
  have hN1 : 1 ≤ N := by omega
  obtain ⟨k, hk⟩ : ∃ k, L.length = k := ⟨_, rfl⟩
  have HK := Lib.hid hk
  have hk1 : k ≤ 1000001 := by omega
  by_cases hc : (k : Int) < (N : Int)
  · have HR := Lib.hid (some_no (L := L) (n := (N : Int)) (m := m) (.inl (by rw [hk]; exact hc)))
    clear hm2 hk
    go_enter Tryd.func136, Tryd.ntmps136
    go_wp2_with (first
      | (go_at_call 134; (with_reducible refine Calls.mono (KS _).out ?_); rintro e w1 ⟨vs, rfl, hsp, hb1⟩; have HB5 := Lib.hid ((nbB_new 132 w).step hb1); obtain ⟨p1, p2, f1, f2⟩ := HB5.out.facts; obtain ⟨ao, cap, rfl⟩ := sps_shape hsp; rw [HK.out]; clear hb1 hsp))
    refine bodyPost_ret (v := .tuple #[spv (0, 0), .bool false]) (by simp [results, Tryd.results136, go_sem, p1, p2, spv]) rfl ?_
    exact ⟨by rw [HR.out.1, HR.out.2], HB5.out.fin _ _⟩
  · by_cases hm0 : m = 0
    · have HR := Lib.hid (some_no (L := L) (n := (N : Int)) (m := m) (.inr hm0))
      subst hm0
      clear hm2 hk
      go_enter Tryd.func136, Tryd.ntmps136
      go_wp2_with (first
        | (go_at_call 134; (with_reducible refine Calls.mono (KS _).out ?_); rintro e w1 ⟨vs, rfl, hsp, hb1⟩; have HB5 := Lib.hid ((nbB_new 132 w).step hb1); obtain ⟨p1, p2, f1, f2⟩ := HB5.out.facts; obtain ⟨ao, cap, rfl⟩ := sps_shape hsp; rw [HK.out]; clear hb1 hsp))
      refine bodyPost_ret (v := .tuple #[spv (0, 0), .bool false]) (by simp [results, Tryd.results136, go_sem, p1, p2, spv]) rfl ?_
      exact ⟨by rw [HR.out.1, HR.out.2], HB5.out.fin _ _⟩
    · have hNk : N ≤ k := by omega
      obtain ⟨x, hx⟩ : ∃ x, L[N - 1]? = some x := ⟨_, List.getElem?_eq_getElem (by omega)⟩
      obtain ⟨i, hi⟩ : ∃ i, i = N - 1 := ⟨_, rfl⟩
      have hi1 : (N : Int) - 1 = (i : Int) := by omega
      have hiw : IntKind.i64.wrap ((N : Int) - 1) = (i : Int) := by rw [hi1]; exact IntWalk.i64_in _ (by omega)
      have hik : (i : Int) < (k : Int) := by omega
      obtain ⟨j, hj⟩ : ∃ j, lastI L.length (N - 1) m = j := ⟨_, rfl⟩
      have hjk : j < k ∧ (m = -1 → j = k - 1) := by
        rw [← hj, hk]; unfold lastI
        constructor
        · split <;> omega
        · intro h; rw [if_pos (.inl h)]
      have hjk1 : (j : Int) < (k : Int) := by omega
      obtain ⟨y, hy⟩ : ∃ y, L[j]? = some y := ⟨_, List.getElem?_eq_getElem (by omega)⟩
      have HR := Lib.hid (some_at (m := m) hN1 (by rw [hk]; exact hc) hm0 hj hx hy)
      have HX := Lib.hid (show L[i]? = some x by rw [hi]; exact hx)
      have HY := Lib.hid hy
      obtain ⟨x1, x2⟩ := x
      obtain ⟨y1, y2⟩ := y
      have hmix : Tryd.prog.follows .mixedOrders = true := by kernel_rfl
      by_cases hmm : m = -1
      · subst hmm
        have hj2 : (k : Int) - 1 = (j : Int) := by have := hjk.2 rfl; omega
        have hjw : IntKind.i64.wrap ((k : Int) - 1) = (j : Int) := by rw [hj2]; exact IntWalk.i64_in _ (by omega)
        clear hm2 hk hx hy hj hi hjk
        go_enter Tryd.func136, Tryd.ntmps136
        go_wp2_with (first
          | (go_at_call 134; (with_reducible refine Calls.mono (KS _).out ?_); rintro e w1 ⟨vs, rfl, hsp, hb1⟩; have HB5 := Lib.hid ((nbB_new 132 w).step hb1); obtain ⟨p1, p2, f1, f2⟩ := HB5.out.facts; obtain ⟨g, cap, hv, hgl, hcells⟩ := sps_cells hsp (by intro e; have := HK.out; rw [e] at this; simp at this; omega); rw [HK.out] at hv; subst hv; have c0 := (hcells i _ HX.out).1; have c1 := (hcells j _ HY.out).2; clear hcells; clear hb1 hsp))
        go_region
        all_goals
          go_wp2
          refine bodyPost_ret (v := .tuple #[spv (x1, y2), .bool true]) (by simp [results, Tryd.results136, go_sem, p1, p2, spv]) rfl ?_
          exact ⟨by rw [HR.out.1, HR.out.2], (HB5.out.step ((Below.refl _ _).drew)).fin _ _⟩
      · obtain ⟨mm, rfl⟩ : ∃ mm : Nat, m = (mm : Int) := ⟨m.toNat, by omega⟩
        have hne : ¬ (mm : Int) = -1 := by omega
        have hm0b : ((mm : Int) == 0) = false := by simp; omega
        have hkN : ¬ k < N := by omega
        have hneb : ((mm : Int) != -1) = true := by simp [hne]
        have hw1 : IntKind.i64.wrap ((k : Int) - (N : Int)) = (k : Int) - (N : Int) := IntWalk.i64_in _ (by omega)
        have hw2 : IntKind.i64.wrap ((k : Int) - (N : Int) + 1) = (k : Int) - (N : Int) + 1 := IntWalk.i64_in _ (by omega)
        by_cases hlt : (mm : Int) < (k : Int) - (N : Int) + 1
        · obtain ⟨q, hq⟩ : ∃ q, q = N + mm - 1 := ⟨_, rfl⟩
          have hjq : j + 1 = q := by
            rw [← hj, hk]; unfold lastI
            rw [if_neg (by omega), Int.toNat_natCast]; omega
          have hq1 : (N : Int) + (mm : Int) - 1 = (q : Int) := by omega
          have hqw0 : IntKind.i64.wrap ((N : Int) + (mm : Int)) = (N : Int) + (mm : Int) := IntWalk.i64_in _ (by omega)
          have hqw : IntKind.i64.wrap ((N : Int) + (mm : Int) - 1) = (q : Int) := by rw [hq1]; exact IntWalk.i64_in _ (by omega)
          have hj2 : (q : Int) - 1 = (j : Int) := by omega
          have hjw : IntKind.i64.wrap ((q : Int) - 1) = (j : Int) := by rw [hj2]; exact IntWalk.i64_in _ (by omega)
          have hqw2 : IntKind.i64.wrap (q : Int) = (q : Int) := IntWalk.i64_in _ (by omega)
          clear hm2 hk hx hy hj hi hjk hjq hq
          go_enter Tryd.func136, Tryd.ntmps136
          go_wp2_with (first
            | (go_at_call 134; (with_reducible refine Calls.mono (KS _).out ?_); rintro e w1 ⟨vs, rfl, hsp, hb1⟩; have HB5 := Lib.hid ((nbB_new 132 w).step hb1); obtain ⟨p1, p2, f1, f2⟩ := HB5.out.facts; obtain ⟨g, cap, hv, hgl, hcells⟩ := sps_cells hsp (by intro e; have := HK.out; rw [e] at this; simp at this; omega); rw [HK.out] at hv; subst hv; have c0 := (hcells i _ HX.out).1; have c1 := (hcells j _ HY.out).2; clear hcells; clear hb1 hsp))
          go_region
          all_goals
            go_wp2
            refine bodyPost_ret (v := .tuple #[spv (x1, y2), .bool true]) (by simp [results, Tryd.results136, go_sem, p1, p2, spv]) rfl ?_
            exact ⟨by rw [HR.out.1, HR.out.2], (HB5.out.step ((Below.refl _ _).drew)).fin _ _⟩
        · have hjq : j + 1 = k := by
            rw [← hj, hk]; unfold lastI
            rw [if_pos (.inr (by omega))]; omega
          have hj2 : (k : Int) - 1 = (j : Int) := by omega
          have hjw : IntKind.i64.wrap ((k : Int) - 1) = (j : Int) := by rw [hj2]; exact IntWalk.i64_in _ (by omega)
          clear hm2 hk hx hy hj hi hjk hjq
          go_enter Tryd.func136, Tryd.ntmps136
          go_wp2_with (first
            | (go_at_call 134; (with_reducible refine Calls.mono (KS _).out ?_); rintro e w1 ⟨vs, rfl, hsp, hb1⟩; have HB5 := Lib.hid ((nbB_new 132 w).step hb1); obtain ⟨p1, p2, f1, f2⟩ := HB5.out.facts; obtain ⟨g, cap, hv, hgl, hcells⟩ := sps_cells hsp (by intro e; have := HK.out; rw [e] at this; simp at this; omega); rw [HK.out] at hv; subst hv; have c0 := (hcells i _ HX.out).1; have c1 := (hcells j _ HY.out).2; clear hcells; clear hb1 hsp))
          go_region
          all_goals
            go_wp2
            refine bodyPost_ret (v := .tuple #[spv (x1, y2), .bool true]) (by simp [results, Tryd.results136, go_sem, p1, p2, spv]) rfl ?_
            exact ⟨by rw [HR.out.1, HR.out.2], (HB5.out.step ((Below.refl _ _).drew)).fin _ _⟩
end Go.Proofs.YtoilgjlbpimcpaaDoor
