/- Pairs of bytes of two strings, as an iterator. -/
import Derived.Test.YtoilgjlbpimcpaaDoorTl
import Derived.Deep.RegionHeld3
import Derived.StillTailTactics
import Derived.Laws.BitsAllLaws
namespace Go.Proofs.YtoilgjlbpimcpaaDoor
open Go.RowKit Go.Shelf Tx
set_option linter.unusedVariables false
set_option maxRecDepth 100000
attribute [local go_sem] Oper.semAt_some

namespace Tx
/-- The elements of a list, each with its index. -/
def idx {α : Type} (P : List α) : List (Nat × α) := P.zipIdx.map fun p => (p.2, p.1)
theorem idx_length {α : Type} (P : List α) : (idx P).length = P.length := by unfold idx; simp
theorem idx_snoc {α : Type} {P : List α} {k : Nat} {x : α} (h : P[k]? = some x) : (idx P).take (k + 1) = (idx P).take k ++ [(k, x)] := by
  have : (idx P)[k]? = some (k, x) := by unfold idx; rw [List.getElem?_map, List.getElem?_zipIdx, h]; simp
  rw [List.take_add_one, this]; rfl
theorem idx_snd {α : Type} (P : List α) : (idx P).map (fun x => x.2) = P := by
  unfold idx
  rw [List.map_map]
  have : (fun x : Nat × α => x.2) ∘ (fun p : α × Nat => (p.2, p.1)) = fun p => p.1 := rfl
  rw [this, List.zipIdx_map_fst]
/-- What both make of the bytes at equal positions, the shorter one padded. -/
def zipP (f : UInt8 → UInt8 → UInt8) (l m : List UInt8) (p : UInt8) : List UInt8 := List.zipWith f (fitL l (max l.length m.length) p) (fitL m (max l.length m.length) p)
theorem zipP_length (f : UInt8 → UInt8 → UInt8) (l m : List UInt8) (p : UInt8) : (zipP f l m p).length = max l.length m.length := by unfold zipP; rw [List.length_zipWith, fitL_length, fitL_length]; omega
theorem zipP_get {f : UInt8 → UInt8 → UInt8} {l m : List UInt8} {p : UInt8} {k : Nat} {a b : UInt8} (ha : (fitL l (max l.length m.length) p)[k]? = some a) (hb : (fitL m (max l.length m.length) p)[k]? = some b) : (zipP f l m p)[k]? = some (f a b) := by
  unfold zipP; rw [List.getElem?_zipWith, ha, hb]
def opXor (a b : UInt8) : UInt8 := a ^^^ b
def opAnd (a b : UInt8) : UInt8 := a &&& b
def opOr (a b : UInt8) : UInt8 := a ||| b
end Tx
/-- What an iterator over pairs comes to. -/
def PairPost {α : Type} (L : List α) (J Jx : List α → World → Prop) (e : Ending) (W' : World) : Prop :=
  (∃ v, e = .returned v) ∧ ((∃ xs, xs = L ∧ J xs W') ∨ (∃ pre, (∃ r, pre ++ r = L) ∧ Jx pre W'))

theorem bits_Xor (a b : UInt8) : bits .xor .u8 (a.toNat : Int) (b.toNat : Int) = ((opXor a b).toNat : Int) := by
  rw [u8_xor_nat _ _ a.toNat_lt b.toNat_lt]; unfold opXor; rw [UInt8.toNat_xor]
theorem bits_And (a b : UInt8) : bits .and .u8 (a.toNat : Int) (b.toNat : Int) = ((opAnd a b).toNat : Int) := by
  rw [u8_and_nat _ _ a.toNat_lt b.toNat_lt]; unfold opAnd; rw [UInt8.toNat_and]
theorem bits_Or (a b : UInt8) : bits .or .u8 (a.toNat : Int) (b.toNat : Int) = ((opOr a b).toNat : Int) := by
  rw [u8_or_nat _ _ a.toNat_lt b.toNat_lt]; unfold opOr; rw [UInt8.toNat_or]
set_option maxHeartbeats 400000 in
theorem bitXor_any (a b : UInt8) (w : World) :
    Calls Tryd.prog 147 #[.int .u8 (a.toNat : Int), .int .u8 (b.toNat : Int)] w fun e w' => e = .returned (.int .u8 ((opXor a b).toNat : Int)) ∧ w = w' := by
  have h := bits_Xor a b
  go_enter Tryd.func147, Tryd.ntmps147
  go_wp2
  go_ret
  exact ⟨rfl, rfl⟩
set_option maxHeartbeats 400000 in
theorem bitAnd_any (a b : UInt8) (w : World) :
    Calls Tryd.prog 145 #[.int .u8 (a.toNat : Int), .int .u8 (b.toNat : Int)] w fun e w' => e = .returned (.int .u8 ((opAnd a b).toNat : Int)) ∧ w = w' := by
  have h := bits_And a b
  go_enter Tryd.func145, Tryd.ntmps145
  go_wp2
  go_ret
  exact ⟨rfl, rfl⟩
set_option maxHeartbeats 400000 in
theorem bitOr_any (a b : UInt8) (w : World) :
    Calls Tryd.prog 146 #[.int .u8 (a.toNat : Int), .int .u8 (b.toNat : Int)] w fun e w' => e = .returned (.int .u8 ((opOr a b).toNat : Int)) ∧ w = w' := by
  have h := bits_Or a b
  go_enter Tryd.func146, Tryd.ntmps146
  go_wp2
  go_ret
  exact ⟨rfl, rfl⟩
/-- The boxes of a pair of strings, a pad and an operation. -/
def Four (W : World) (b1 b2 b3 b4 : Nat) (l m : ByteArray) (x : Int) (fv : Value) : Prop := W.cell? ⟨b1, 0, none⟩ = some (.string l) ∧ W.cell? ⟨b2, 0, none⟩ = some (.string m) ∧ W.cell? ⟨b3, 0, none⟩ = some (.int .u8 x) ∧ W.cell? ⟨b4, 0, none⟩ = some fv
theorem Four.below {W W1 : World} {B b1 b2 b3 b4 : Nat} {l m : ByteArray} {x : Int} {fv : Value} (h : Four W b1 b2 b3 b4 l m x fv) (hb : Below B W W1) (h1 : b1 < B) (h2 : b2 < B) (h3 : b3 < B) (h4 : b4 < B) : Four W1 b1 b2 b3 b4 l m x fv :=
  ⟨(hb.cell (p := ⟨b1, 0, none⟩) h1).trans h.1, (hb.cell (p := ⟨b2, 0, none⟩) h2).trans h.2.1, (hb.cell (p := ⟨b3, 0, none⟩) h3).trans h.2.2.1, (hb.cell (p := ⟨b4, 0, none⟩) h4).trans h.2.2.2⟩

set_option maxHeartbeats 8000000 in
theorem pairsXor_in (l b1 b2 b3 b4 n₀ : Nat) (u v : ByteArray) (x : Int) (hu : u.size ≤ 1000) (hv : v.size ≤ 1000) (hx0 : 0 ≤ x) (hx1 : x < 256) (J Jx : List (Nat × UInt8) → World → Prop)
    (hround : ∀ pre y W, J pre W → pre.length < 1000 → YieldAt Fence.wide 1 Tryd.prog l #[.int .i64 (y.1 : Int), .int .u8 (y.2.toNat : Int)] W fun e W' =>
      (e = .returned (.bool true) ∧ J (pre ++ [y]) W' ∧ W'.cell? ⟨b4, 0, none⟩ = W.cell? ⟨b4, 0, none⟩) ∨ (e = .returned (.bool false) ∧ Jx (pre ++ [y]) W'))
    (hJb : ∀ pre W W', J pre W → Below W.heap.size W W' → J pre W')
    (W : World) (hF : Four W b1 b2 b3 b4 u v x (.func (.func 147) #[] #[])) (h1 : b1 < n₀) (h2 : b2 < n₀) (h3 : b3 < n₀) (h4 : b4 < n₀) (hn : n₀ ≤ W.heap.size) (hJ0 : J [] W) :
    CallsIn Fence.wide 2 Tryd.prog 184 #[.func (.yield l) #[] #[], .pointer (some ⟨b1, 0, none⟩), .pointer (some ⟨b2, 0, none⟩), .pointer (some ⟨b3, 0, none⟩), .pointer (some ⟨b4, 0, none⟩)] W (PairPost (idx (zipP opXor (bts u) (bts v) (pb x))) J Jx) := by
  have HR := Lib.hid hround
  have HJ0 := Lib.hid hJ0
  have HJB := Lib.hid hJb
  have HFF := Lib.hid hF
  clear hround hJ0 hJb
  obtain ⟨c1, c2, c3, c4⟩ := hF
  have hmix : Tryd.prog.follows .mixedOrders = true := by kernel_rfl
  obtain ⟨N, hN⟩ : ∃ N, N = max u.size v.size := ⟨_, rfl⟩
  have hN1 : N ≤ 1000 := by omega
  have hNi : max (u.size : Int) (v.size : Int) = (N : Int) := by omega
  have KU := fun W => Lib.hid (fitted_any u N x W (by omega) (by omega) hx0 hx1)
  have KV := fun W => Lib.hid (fitted_any v N x W (by omega) (by omega) hx0 hx1)
  have HN := Lib.hid hN
  clear hN
  refine callsIn_of_wp Tryd.func184 rfl trivial ?_ rfl
  simp only [Tryd.ntmps184, List.size_toArray, List.length_cons, List.length_nil, Nat.reduceAdd, Nat.reduceSub, Array.replicate_succ, Array.replicate_zero, List.push_toArray, List.append_toArray, List.nil_append, List.cons_append]
  gi_wp2
  refine wpIn_wide.2 ?_
  go_region_held3 (fun w' => w'.cell? ⟨b1, 0, none⟩ = some (.string u) ∧ w'.cell? ⟨b2, 0, none⟩ = some (.string v) ∧ w'.cell? ⟨b3, 0, none⟩ = some (.int .u8 x))
    (first | exact ⟨k1, k2, k3⟩ | go_keep)
    (first | (go_at_call 114; first
      | ((with_reducible refine Calls.mono (KU _).out ?_); clear KU; rintro e w1 ⟨t1, rfl, ht1, hb1⟩; have HB1 := Lib.hid (show Below n₀ W w1 from (Below.refl _ W).drew.trans (hb1.mono hn)); obtain ⟨k1, k2, k3, k4⟩ := HFF.out.below HB1.out h1 h2 h3 h4)
      | ((with_reducible refine Calls.mono (KV _).out ?_); rintro e w2 ⟨t2, rfl, ht2, hb2⟩; have HB2 := Lib.hid (HB1.out.trans (hb2.mono (Nat.le_trans hn HB1.out.size))); obtain ⟨k1, k2, k3, k4⟩ := HFF.out.below HB2.out h1 h2 h3 h4)))
  gi_wp2
  have e1 : bts t1 = fitL (bts u) N (pb x) := ht1.out
  have e2 : bts t2 = fitL (bts v) N (pb x) := ht2.out
  have s1 : t1.size = N := by rw [size_of_bts e1, fitL_length]
  have s2 : t2.size = N := by rw [size_of_bts e2, fitL_length]
  have q1 : N ≤ t1.size := by omega
  have q2 : N ≤ t2.size := by omega
  obtain ⟨P, hP⟩ : ∃ P, P = zipP opXor (bts u) (bts v) (pb x) := ⟨_, rfl⟩
  have hPl : P.length = N := by rw [hP, zipP_length, bts_length, bts_length, HN.out]
  have HPG := Lib.hid (show ∀ (k : Nat) (h1 : k < t1.size) (h2 : k < t2.size), P[k]? = some (opXor t1[k] t2[k]) from fun k h1 h2 => by
    rw [hP]
    refine zipP_get ?_ ?_
    · rw [bts_length, bts_length, ← HN.out, ← e1]; exact bts_get t1 h1
    · rw [bts_length, bts_length, ← HN.out, ← e2]; exact bts_get t2 h2)
  have HPL := Lib.hid hPl
  have HB1' : Below W.heap.size W w1 := (Below.refl _ W).drew.trans hb1
  have HB2' := Lib.hid (HB1'.trans (hb2.mono HB1'.size))
  have HJ2 := Lib.hid (HJB.out [] W w2 HJ0.out HB2'.out)
  rw [← hP]
  clear e1 e2 s1 s2 hP hPl HB1' k1 k2 k3 k4 c1 c2 c3 c4 ht1 ht2 hb1 hb2 KV hNi
  gi_loopw [24] (fun f wr => ∃ k : Nat, f = .int .i64 k ∧ k ≤ N ∧ Hid (J ((idx P).take k) wr) ∧ wr.cell? ⟨b4, 0, none⟩ = some (.func (.func 147) #[] #[])) (fun f _ => N - (intOf f).toNat)
  case atStart => exact ⟨0, rfl, Nat.zero_le _, Lib.hid (by simpa using HJ2.out), (HFF.out.below HB2.out h1 h2 h3 h4).2.2.2⟩
  case round =>
    obtain ⟨k, rfl, hk, hJ, hfv⟩ := hrel
    by_cases hlt : k < N
    · have m1 : k < t1.size := by omega
      have m2 : k < t2.size := by omega
      have HFV := Lib.hid hfv
      have hg := HPG.out k m1 m2
      have HSN := Lib.hid (idx_snoc hg)
      have KXor := fun W => Lib.hid (bitXor_any t1[k] t2[k] W)
      have hJd := HJB.out _ _ wr.drew hJ.out (Below.refl _ _).drew
      have hYY := HR.out _ (k, opXor t1[k] t2[k]) wr.drew hJd (by rw [List.length_take, idx_length, HPL.out]; omega)
      rw [← HSN.out] at hYY
      obtain ⟨fn, tmps, assign, body, hy, hR⟩ := hYY
      have hR2 := hR.mono (R' := fun e W' => ∃ bb, e = .returned (.bool bb) ∧ Hid ((bb = true ∧ J ((idx P).take (k + 1)) W' ∧ W'.cell? ⟨b4, 0, none⟩ = wr.drew.cell? ⟨b4, 0, none⟩) ∨ (bb = false ∧ Jx ((idx P).take (k + 1)) W'))) (fun e w' h => by
        rcases h with ⟨h1, h2, h3⟩ | ⟨h1, h2⟩
        · exact ⟨true, h1, .inl ⟨rfl, h2, h3⟩⟩
        · exact ⟨false, h1, .inr ⟨rfl, h2⟩⟩)
      have HRR := Lib.hid hR2
      clear hR hR2 hg hJd
      dsimp only at hy
      gi_wp2
      gi_region_with_o (first | (refine ⟨trivial, ?_⟩; gi_at_call 147; (with_reducible refine CallsIn.mono (callsIn_wide.2 (KXor _).out) ?_); rintro e w' ⟨rfl, rfl⟩) | ((with_reducible refine RoundIn.mono HRR.out ?_); rintro e W3 ⟨bb, rfl, hcase⟩; dsimp only))
      all_goals (clear hy)
      all_goals cases bb
      all_goals gi_wp2
      all_goals first
        | (rcases hcase.out with ⟨h, _⟩ | ⟨_, h⟩
           · cases h
           · refine bodyPost_ret (results_none rfl _ _ _) rfl ?_
             exact ⟨⟨_, rfl⟩, .inr ⟨_, ⟨_, List.take_append_drop _ _⟩, h⟩⟩)
        | (rcases hcase.out with ⟨_, hJ3, hk3⟩ | ⟨h, _⟩
           · go_roundw
             case rel => exact ⟨k + 1, by go_num, by omega, Lib.hid hJ3, hk3.trans HFV.out⟩
             case measure => simp [intOf]; omega
           · cases h)
    · have HE := Lib.hid (show (idx P).take k = idx P from List.take_of_length_le (by rw [idx_length, HPL.out]; omega))
      gi_wp2
      go_end0
      exact ⟨⟨_, rfl⟩, .inl ⟨_, HE.out, hJ.out⟩⟩
end Go.Proofs.YtoilgjlbpimcpaaDoor
