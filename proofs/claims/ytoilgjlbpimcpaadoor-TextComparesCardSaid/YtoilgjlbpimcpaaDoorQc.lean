/- Compare: pairs of bytes that differ, as an iterator. -/
import Derived.Test.YtoilgjlbpimcpaaDoorTv
namespace Go.Proofs.YtoilgjlbpimcpaaDoor
open Go.RowKit Go.Shelf Tx
set_option linter.unusedVariables false
set_option maxRecDepth 100000
attribute [local go_sem] Oper.semAt_some

namespace Tx
/-- Whether the bytes at equal positions differ, the shorter one padded. -/
def difL (l m : List UInt8) (p : UInt8) : List Bool := List.zipWith (fun a b => a != b) (fitL l (max l.length m.length) p) (fitL m (max l.length m.length) p)
theorem difL_length (l m : List UInt8) (p : UInt8) : (difL l m p).length = max l.length m.length := by unfold difL; rw [List.length_zipWith, fitL_length, fitL_length]; omega
theorem difL_get {l m : List UInt8} {p : UInt8} {k : Nat} {a b : UInt8} (ha : (fitL l (max l.length m.length) p)[k]? = some a) (hb : (fitL m (max l.length m.length) p)[k]? = some b) : (difL l m p)[k]? = some (a != b) := by
  unfold difL; rw [List.getElem?_zipWith, ha, hb]
/-- The place of the first difference, from 1. -/
def cmpF : List Bool → Nat → Int
  | [], _ => 0
  | b :: r, i => if b then (i : Int) + 1 else cmpF r (i + 1)
theorem cmpF_skip : ∀ (q r : List Bool) (i : Nat), (∀ b ∈ q, b = false) → cmpF (q ++ r) i = cmpF r (i + q.length)
  | [], r, i, _ => rfl
  | b :: q, r, i, h => by
    have hb := h b (List.mem_cons_self ..)
    subst hb
    show cmpF (q ++ r) (i + 1) = _
    rw [cmpF_skip q r (i + 1) (fun b hb => h b (List.mem_cons_of_mem _ hb)), List.length_cons]
    congr 1
    omega
theorem cmpF_none (q : List Bool) (i : Nat) (h : ∀ b ∈ q, b = false) : cmpF q i = 0 := by
  have := cmpF_skip q [] i h
  rwa [List.append_nil] at this
def compareR (l m : List UInt8) (c : Int) : Int × Int := guardN (validL l && validL m && padI c) (cmpF (difL l m (pb c)) 0, 0)
end Tx
set_option maxHeartbeats 400000 in
theorem cmp_any (a b : UInt8) (w : World) :
    Calls Tryd.prog 126 #[.int .u8 (a.toNat : Int), .int .u8 (b.toNat : Int)] w fun e w' => e = .returned (.bool (a != b)) ∧ w = w' := by
  by_cases h : a = b
  · have HE := Lib.hid (show (a != b) = false by simp [h])
    have hd : ((a.toNat : Int) != (b.toNat : Int)) = false := by rw [h]; simp
    clear h
    go_enter Tryd.func126, Tryd.ntmps126
    go_wp2
    go_ret
    exact ⟨by rw [HE.out]; rfl, rfl⟩
  · have HE := Lib.hid (show (a != b) = true by simp [h])
    have hd : ((a.toNat : Int) != (b.toNat : Int)) = true := by
      rw [bne_iff_ne]; intro e; exact h (UInt8.toNat_inj.1 (by omega))
    clear h
    go_enter Tryd.func126, Tryd.ntmps126
    go_wp2
    go_ret
    exact ⟨by rw [HE.out]; rfl, rfl⟩
set_option maxHeartbeats 400000 in
theorem pairsB_any (u v : ByteArray) (x : Int) (fv : Value) (w : World) (hfv : ∃ k, fv = .func (.func k) #[] #[]) :
    Calls Tryd.prog 125 #[.string u, .string v, .int .u8 x, fv] w fun e w' =>
      e = .returned (.func (.func 160) #[] #[.pointer (some ⟨w.heap.size, 0, none⟩), .pointer (some ⟨w.heap.size + 1, 0, none⟩), .pointer (some ⟨w.heap.size + 1 + 1, 0, none⟩), .pointer (some ⟨w.heap.size + 1 + 1 + 1, 0, none⟩)]) ∧
      (((w.alloc (.cells #[.string u] 9)).alloc (.cells #[.string v] 9)).alloc (.cells #[.int .u8 x] 5)).alloc (.cells #[fv] 117) = w' := by
  obtain ⟨k, rfl⟩ := hfv
  go_enter Tryd.func125, Tryd.ntmps125
  go_wp2
  go_ret
  exact ⟨rfl, rfl⟩
set_option maxHeartbeats 8000000 in
theorem pairsB_in (l b1 b2 b3 b4 n₀ : Nat) (u v : ByteArray) (x : Int) (hu : u.size ≤ 1000) (hv : v.size ≤ 1000) (hx0 : 0 ≤ x) (hx1 : x < 256) (J Jx : List (Nat × Bool) → World → Prop)
    (hround : ∀ pre y W, J pre W → pre.length < 1000 → YieldAt Fence.wide 1 Tryd.prog l #[.int .i64 (y.1 : Int), .bool y.2] W fun e W' =>
      (e = .returned (.bool true) ∧ J (pre ++ [y]) W' ∧ W'.cell? ⟨b4, 0, none⟩ = W.cell? ⟨b4, 0, none⟩) ∨ (e = .returned (.bool false) ∧ Jx (pre ++ [y]) W'))
    (hJb : ∀ pre W W', J pre W → Below W.heap.size W W' → J pre W')
    (W : World) (hF : Four W b1 b2 b3 b4 u v x (.func (.func 126) #[] #[])) (h1 : b1 < n₀) (h2 : b2 < n₀) (h3 : b3 < n₀) (h4 : b4 < n₀) (hn : n₀ ≤ W.heap.size) (hJ0 : J [] W) :
    CallsIn Fence.wide 2 Tryd.prog 160 #[.func (.yield l) #[] #[], .pointer (some ⟨b1, 0, none⟩), .pointer (some ⟨b2, 0, none⟩), .pointer (some ⟨b3, 0, none⟩), .pointer (some ⟨b4, 0, none⟩)] W (PairPost (idx (difL (bts u) (bts v) (pb x))) J Jx) := by
  have HR := Lib.hid hround
  have HJ0 := Lib.hid hJ0
  have HJB := Lib.hid hJb
  have HFF := Lib.hid hF
  clear hround hJ0 hJb
  obtain ⟨c1, c2, c3, c4⟩ := hF
  have hmix : Tryd.prog.follows .mixedOrders = true := by kernel_rfl
  obtain ⟨N, hN⟩ : ∃ N, N = max u.size v.size := ⟨_, rfl⟩
  have hN1 : N ≤ 1000 := by omega
  have hNi : max (u.size : Int) (v.size : Int) = (N : Int) := by omega
  have KU := fun W => Lib.hid (fitted_any u N x W (by omega) (by omega) hx0 hx1)
  have KV := fun W => Lib.hid (fitted_any v N x W (by omega) (by omega) hx0 hx1)
  have HN := Lib.hid hN
  clear hN
  refine callsIn_of_wp Tryd.func160 rfl trivial ?_ rfl
  simp only [Tryd.ntmps160, List.size_toArray, List.length_cons, List.length_nil, Nat.reduceAdd, Nat.reduceSub, Array.replicate_succ, Array.replicate_zero, List.push_toArray, List.append_toArray, List.nil_append, List.cons_append]
  gi_wp2
  refine wpIn_wide.2 ?_
  go_region_held3 (fun w' => w'.cell? ⟨b1, 0, none⟩ = some (.string u) ∧ w'.cell? ⟨b2, 0, none⟩ = some (.string v) ∧ w'.cell? ⟨b3, 0, none⟩ = some (.int .u8 x))
    (first | exact ⟨k1, k2, k3⟩ | go_keep)
    (first | (go_at_call 114; first
      | ((with_reducible refine Calls.mono (KU _).out ?_); clear KU; rintro e w1 ⟨t1, rfl, ht1, hb1⟩; have HB1 := Lib.hid (show Below n₀ W w1 from (Below.refl _ W).drew.trans (hb1.mono hn)); obtain ⟨k1, k2, k3, k4⟩ := HFF.out.below HB1.out h1 h2 h3 h4)
      | ((with_reducible refine Calls.mono (KV _).out ?_); rintro e w2 ⟨t2, rfl, ht2, hb2⟩; have HB2 := Lib.hid (HB1.out.trans (hb2.mono (Nat.le_trans hn HB1.out.size))); obtain ⟨k1, k2, k3, k4⟩ := HFF.out.below HB2.out h1 h2 h3 h4)))
  gi_wp2
  have e1 : bts t1 = fitL (bts u) N (pb x) := ht1.out
  have e2 : bts t2 = fitL (bts v) N (pb x) := ht2.out
  have s1 : t1.size = N := by rw [size_of_bts e1, fitL_length]
  have s2 : t2.size = N := by rw [size_of_bts e2, fitL_length]
  have q1 : N ≤ t1.size := by omega
  have q2 : N ≤ t2.size := by omega
  obtain ⟨P, hP⟩ : ∃ P, P = difL (bts u) (bts v) (pb x) := ⟨_, rfl⟩
  have hPl : P.length = N := by rw [hP, difL_length, bts_length, bts_length, HN.out]
  have HPG := Lib.hid (show ∀ (k : Nat) (h1 : k < t1.size) (h2 : k < t2.size), P[k]? = some ((t1[k] != t2[k])) from fun k h1 h2 => by
    rw [hP]
    refine difL_get ?_ ?_
    · rw [bts_length, bts_length, ← HN.out, ← e1]; exact bts_get t1 h1
    · rw [bts_length, bts_length, ← HN.out, ← e2]; exact bts_get t2 h2)
  have HPL := Lib.hid hPl
  have HB1' : Below W.heap.size W w1 := (Below.refl _ W).drew.trans hb1
  have HB2' := Lib.hid (HB1'.trans (hb2.mono HB1'.size))
  have HJ2 := Lib.hid (HJB.out [] W w2 HJ0.out HB2'.out)
  rw [← hP]
  clear e1 e2 s1 s2 hP hPl HB1' k1 k2 k3 k4 c1 c2 c3 c4 ht1 ht2 hb1 hb2 KV hNi
  gi_loopw [24] (fun f wr => ∃ k : Nat, f = .int .i64 k ∧ k ≤ N ∧ Hid (J ((idx P).take k) wr) ∧ wr.cell? ⟨b4, 0, none⟩ = some (.func (.func 126) #[] #[])) (fun f _ => N - (intOf f).toNat)
  case atStart => exact ⟨0, rfl, Nat.zero_le _, Lib.hid (by simpa using HJ2.out), (HFF.out.below HB2.out h1 h2 h3 h4).2.2.2⟩
  case round =>
    obtain ⟨k, rfl, hk, hJ, hfv⟩ := hrel
    by_cases hlt : k < N
    · have m1 : k < t1.size := by omega
      have m2 : k < t2.size := by omega
      have HFV := Lib.hid hfv
      have hg := HPG.out k m1 m2
      have HSN := Lib.hid (idx_snoc hg)
      have KCM := fun W => Lib.hid (cmp_any t1[k] t2[k] W)
      have hJd := HJB.out _ _ wr.drew hJ.out (Below.refl _ _).drew
      have hYY := HR.out _ (k, t1[k] != t2[k]) wr.drew hJd (by rw [List.length_take, idx_length, HPL.out]; omega)
      rw [← HSN.out] at hYY
      obtain ⟨fn, tmps, assign, body, hy, hR⟩ := hYY
      have hR2 := hR.mono (R' := fun e W' => ∃ bb, e = .returned (.bool bb) ∧ Hid ((bb = true ∧ J ((idx P).take (k + 1)) W' ∧ W'.cell? ⟨b4, 0, none⟩ = wr.drew.cell? ⟨b4, 0, none⟩) ∨ (bb = false ∧ Jx ((idx P).take (k + 1)) W'))) (fun e w' h => by
        rcases h with ⟨h1, h2, h3⟩ | ⟨h1, h2⟩
        · exact ⟨true, h1, .inl ⟨rfl, h2, h3⟩⟩
        · exact ⟨false, h1, .inr ⟨rfl, h2⟩⟩)
      have HRR := Lib.hid hR2
      clear hR hR2 hg hJd
      dsimp only at hy
      gi_wp2
      gi_region_with_o (first | (refine ⟨trivial, ?_⟩; gi_at_call 126; (with_reducible refine CallsIn.mono (callsIn_wide.2 (KCM _).out) ?_); rintro e w' ⟨rfl, rfl⟩) | ((with_reducible refine RoundIn.mono HRR.out ?_); rintro e W3 ⟨bb, rfl, hcase⟩; dsimp only))
      all_goals (clear hy)
      all_goals cases bb
      all_goals gi_wp2
      all_goals first
        | (rcases hcase.out with ⟨h, _⟩ | ⟨_, h⟩
           · cases h
           · refine bodyPost_ret (results_none rfl _ _ _) rfl ?_
             exact ⟨⟨_, rfl⟩, .inr ⟨_, ⟨_, List.take_append_drop _ _⟩, h⟩⟩)
        | (rcases hcase.out with ⟨_, hJ3, hk3⟩ | ⟨h, _⟩
           · go_roundw
             case rel => exact ⟨k + 1, by go_num, by omega, Lib.hid hJ3, hk3.trans HFV.out⟩
             case measure => simp [intOf]; omega
           · cases h)
    · have HE := Lib.hid (show (idx P).take k = idx P from List.take_of_length_le (by rw [idx_length, HPL.out]; omega))
      gi_wp2
      go_end0
      exact ⟨⟨_, rfl⟩, .inl ⟨_, HE.out, hJ.out⟩⟩

theorem pairsB_stops (b1 b2 b3 b4 : Nat) (u v : ByteArray) (x : Int) (w : World) (hu : u.size ≤ 1000) (hv : v.size ≤ 1000) (hx0 : 0 ≤ x) (hx1 : x < 256)
    (hF : Four w b1 b2 b3 b4 u v x (.func (.func 126) #[] #[])) (h1 : b1 < w.heap.size) (h2 : b2 < w.heap.size) (h3 : b3 < w.heap.size) (h4 : b4 < w.heap.size) (w' : World) (hw' : Below w.heap.size w w') :
    SeqStopsK Fence.wide 2 Tryd.prog 160 #[.pointer (some ⟨b1, 0, none⟩), .pointer (some ⟨b2, 0, none⟩), .pointer (some ⟨b3, 0, none⟩), .pointer (some ⟨b4, 0, none⟩)] (fun y : Nat × Bool => #[.int .i64 (y.1 : Int), .bool y.2]) (fun A B => B.cell? ⟨b4, 0, none⟩ = A.cell? ⟨b4, 0, none⟩)
      (fun xs => xs = idx (difL (bts u) (bts v) (pb x))) (fun pre => ∃ r, pre ++ r = idx (difL (bts u) (bts v) (pb x))) 1000 w' := by
  intro l J Jx W hW hJ hJx hY hJ0
  have hz := hw'.size
  refine (pairsB_in l b1 b2 b3 b4 w.heap.size u v x hu hv hx0 hx1 J Jx hY (fun pre A B hA hAB => hJ pre A B none hA (only_below hAB) (fun r e => by cases e)) W ?_ h1 h2 h3 h4 (Nat.le_trans hz hW.size) hJ0).mono ?_
  · exact (hF.below hw' h1 h2 h3 h4).below hW (Nat.lt_of_lt_of_le h1 hz) (Nat.lt_of_lt_of_le h2 hz) (Nat.lt_of_lt_of_le h3 hz) (Nat.lt_of_lt_of_le h4 hz)
  · intro e W' h; exact h

end Go.Proofs.YtoilgjlbpimcpaaDoor
