/- The words of a string, collected. -/
import Derived.Test.YtoilgjlbpimcpaaDoorTm2
import Derived.RangeFuncNested
import Derived.RangeFuncOne
import Derived.Maps.AppendAt
namespace Go.Proofs.YtoilgjlbpimcpaaDoor
open Go.RowKit Go.Shelf Tx
set_option linter.unusedVariables false
set_option maxRecDepth 100000
attribute [local go_sem] Oper.semAt_some

theorem infoSpan : (Tryd.prog.info? 124).map (fun i => (i.zero, i.size, i.bytes)) = some (some (.agg #[.int .i64 0, .int .i64 0]), 2, 16) := by kernel_rfl
/-- The cells of some words. -/
def flat {n : Nat} (l : List (Sp n)) : List Value := l.flatMap fun x => [.int .i64 x.1.1, .int .i64 x.1.2]
theorem flat_snoc {n : Nat} (l : List (Sp n)) (x : Sp n) : flat (l ++ [x]) = flat l ++ [.int .i64 x.1.1, .int .i64 x.1.2] := by unfold flat; simp
theorem flat_length {n : Nat} (l : List (Sp n)) : (flat l).length = l.length * 2 := by
  induction l with
  | nil => rfl
  | cons x l ih => unfold flat at *; simp [List.flatMap_cons, ih]; omega

/-- Two cells of a block. -/
def Box2 (W : World) (B : Nat) (t : TypeId) (u v : Value) : Prop := W.heap[B]? = some (.cells #[u, v] t (0, 0))
theorem Box2.cell0 {W : World} {B : Nat} {t : TypeId} {u v : Value} (h : Box2 W B t u v) : W.cell? ⟨B, 0, none⟩ = some u := by simp [World.cell?, show W.heap[B]? = _ from h]
theorem Box2.cell1 {W : World} {B : Nat} {t : TypeId} {u v : Value} (h : Box2 W B t u v) : W.cell? ⟨B, 1, none⟩ = some v := by simp [World.cell?, show W.heap[B]? = _ from h]
theorem Box2.own {B : Nat} {t : TypeId} {u v : Value} {X Y : World} {row : Option Nat} (h : Box2 X B t u v) (hg : X.grownBy Y row) (hr : ∀ r, row = some r → ∃ o : Obj, X.heap[r]? = some o ∧ o.isCells = false) : Box2 Y B t u v := by
  refine (hg.block B (Array.getElem?_eq_some_iff.1 h).1 (fun e => ?_)).trans h
  obtain ⟨o, ho, hc⟩ := hr B e.symm
  rw [show X.heap[B]? = _ from h] at ho; cases ho; cases hc
theorem Box2.new (w : World) (t : TypeId) (u v : Value) : Box2 (w.alloc (.cells #[u, v] t)) w.heap.size t u v := World.alloc_heap_new w _

set_option maxHeartbeats 2000000 in
theorem appendSeq_any (n : Nat) (gf : Nat) (lb : Array Value) (L : List (Nat × Nat)) (N : Nat) (w : World) (hN : N ≤ 2000000)
    (eg : ∀ args w, (callFunc gf args).run Tryd.prog w = .ok (.enter gf args) w)
    (hseq : ∀ w', Below w.heap.size w w' → SeqStopsK Fence.wide 2 Tryd.prog gf lb (fun x : Sp n => #[spv x.1]) (Below w.heap.size) (fun xs => xs.map (fun x => x.1) = L) (fun pre => ∃ r, pre.map (fun x => x.1) ++ r = L) N w') :
    Calls Tryd.prog 180 #[.slice none 0 0, .func (.func gf) #[] lb] w fun e w' => ∃ (v : Value) (xs : List (Sp n)), e = .returned v ∧ xs.map (fun x => x.1) = L ∧ w'.ownsRow w.heap.size 124 2 v xs.length (flat xs) ∧ Below w.heap.size w w' := by
  have HS := Lib.hid hseq
  clear hseq
  rw [← callsIn_wide (n := 3)]
  refine callsIn_of_wp_marks Tryd.func180 rfl trivial ?_ rfl
  simp only [Tryd.ntmps180, List.size_toArray, List.length_cons, List.length_nil, Nat.reduceAdd, Nat.reduceSub, Array.replicate_succ, Array.replicate_zero, List.push_toArray, List.append_toArray, List.nil_append, List.cons_append]
  gi_wp2
  have bD := Boxed.new w 164 (.slice none 0 0)
  have hB0 : Below w.heap.size w (w.alloc (.cells #[.slice none 0 0] 164)) := Bl.alloc (Below.refl _ w) _
  refine wpIn_rangeFunc_ownH rfl (by omega) (gf := gf) (lb := lb) rfl trivial eg (HS.out _ hB0) belowK_t (belowK_b (by simp)) (Below.refl _ _) (fun _ => rfl)
    (fun (pre : List (Sp n)) W => (∃ v, Boxed W w.heap.size 164 v ∧ W.ownsRow w.heap.size 124 2 v pre.length (flat pre) ∧ True) ∧ Below w.heap.size w W)
    (fun _ _ _ => False)
    (OwnFrom.and (Own.from (holdsRow_own w.heap.size w.heap.size 164 124 2 (fun p : List (Sp n) => p.length) (fun p => flat p) (fun _ _ => True)) _) (ownFrom_below (Nat.le_refl _) (by simp)))
    (fun _ _ _ _ _ hs _ _ => hs)
    ⟨⟨_, bD, World.ownsRow_nil _ _ _ _, trivial⟩, hB0⟩
    (fun x a' W => ∃ Bx, w.heap.size < Bx ∧ Box2 W Bx 124 (.int .i64 x.1.1) (.int .i64 x.1.2) ∧ a' = { tmps := #[.slice none 0 0, .func (.func gf) #[] lb, .pointer (some ⟨w.heap.size, 0, none⟩), undef, .slice none 0 0, .pointer (some ⟨Bx, 0, none⟩), .func (.func gf) #[] lb, spv x.1, undef, undef, undef, undef, undef], defers := [] })
    (fun x a' _ X Y row hs hg hr => by obtain ⟨Bx, h1, h2, h3⟩ := hs; exact ⟨Bx, h1, h2.own hg (fun r e => (hr r e).2), h3⟩)
    ?assign ?body ?done ?stop
  case assign =>
    rintro l pre x W K ⟨⟨v, bv, hv, _⟩, hB1⟩ hK
    have hlt := bv.lt
    unfold spv at hK ⊢
    gi_wp2
    exact hK _ _ ((KeepsOthers.alloc _ _).from _) ((Below.refl _ W).alloc hB1.size _) ⟨⟨v, bv.alloc _, hv.alloc _, trivial⟩, Bl.alloc hB1 _⟩ ⟨W.heap.size, hlt, Box2.new W _ _ _, rfl⟩
  case body =>
    rintro l pre x a' W hl ⟨r, hr⟩ ⟨⟨v, bv, hv, _⟩, hB1⟩ ⟨Bx, hBx, bX, rfl⟩ hlt
    have c1 := bv.cell
    have c2 := bv.frozen
    have c3 := bX.cell0
    have c4 := bX.cell1
    obtain ⟨i0, hi, hz0, hz1, hz2⟩ := info_parts infoSpan
    have HF := Lib.hid (flat_snoc pre x)
    have HV := Lib.hid hv
    have HBV := Lib.hid bv
    have HB1 := Lib.hid hB1
    have hsz := hB1.size
    obtain ⟨pl, hpl⟩ : ∃ pl, pl = pre.length := ⟨_, rfl⟩
    have hpl' : pl ≤ 2000000 := by omega
    have HPL := Lib.hid hpl
    rw [← hpl] at HV
    clear hv bv hB1 bX hr hpl hlt
    gi_wp2_with (gi_at_builtin; refine wpListIn_append_own _ rfl _ _ 164 rfl w.heap.size 124 i0 (.agg #[.int .i64 0, .int .i64 0]) 2 16 Tryd.underlying164 hi hz0 hz1 hz2 rfl (by decide) _ _ _ rfl (HV.out.alloc _) ⟨W.heap.size, 0, none⟩ 1 1 [.int .i64 x.1.1, .int .i64 x.1.2] rfl rfl ?c1 ?c2 (by unfold maxLen; omega) (by omega) (by simp; omega) ?_)
    case c1 =>
      intro j u hj
      match j, hj with
      | 0, hj => simp at hj; subst hj; simp [Addr.add]
      | 1, hj => simp at hj; subst hj; simp [Addr.add]
    case c2 =>
      intro u hu
      simp at hu
      rcases hu with rfl | rfl <;> rfl
    intro v' w3 hown' hgrow hnil
    obtain ⟨g', cap', rfl⟩ := ownsRow_succ hown'
    obtain ⟨hb3, hb4, hr4, hk4, hbl4⟩ := Boxed.appended HBV.out (by decide) HV.out hsz (Nat.le_refl _) hown' hgrow
    have e3 := hb3.cell
    have e4 := hb3.frozen
    gi_wp2
    refine ⟨hk4.from _, hbl4, ⟨_, hb4, ?_, trivial⟩, HB1.out.trans hbl4⟩
    rw [HF.out, List.length_append, ← HPL.out]
    exact hr4
  case done =>
    rintro D ys W hD hys ⟨⟨v, bv, hv, _⟩, hB1⟩ hK
    have c1 := bv.cell
    have HV := Lib.hid hv
    have HB1 := Lib.hid hB1
    have HY := Lib.hid hys
    have HK := Lib.hid hK
    clear bv hv hB1 hys hK
    gi_wp2
    refine ⟨by simp, .inl ⟨_, _, rfl, run_takeDeferred HK.out, ?_⟩⟩
    exact ⟨_, results_tmp rfl _ _ _, ⟨v, ys, rfl, HY.out, ownsRow_putObj HV.out _ HK.out rfl, HB1.out.trans (belowK_b (w := w) (Nat.le_refl _) W D _ _ (by simp at hD; omega) HK.out rfl rfl)⟩⟩
  case stop =>
    rintro D c pre W _ _ h _
    exact h.elim

set_option maxHeartbeats 400000 in
theorem collect_any (n : Nat) (gf : Nat) (lb : Array Value) (L : List (Nat × Nat)) (N : Nat) (w : World) (hN : N ≤ 2000000)
    (eg : ∀ args w, (callFunc gf args).run Tryd.prog w = .ok (.enter gf args) w)
    (hseq : ∀ w', Below w.heap.size w w' → SeqStopsK Fence.wide 2 Tryd.prog gf lb (fun x : Sp n => #[spv x.1]) (Below w.heap.size) (fun xs => xs.map (fun x => x.1) = L) (fun pre => ∃ r, pre.map (fun x => x.1) ++ r = L) N w') :
    Calls Tryd.prog 163 #[.func (.func gf) #[] lb] w fun e w' => ∃ (v : Value) (xs : List (Sp n)), e = .returned v ∧ xs.map (fun x => x.1) = L ∧ w'.ownsRow w.heap.size 124 2 v xs.length (flat xs) ∧ Below w.heap.size w w' := by
  have K := Lib.hid (appendSeq_any n gf lb L N w hN eg hseq)
  clear hseq
  go_enter Tryd.func163, Tryd.ntmps163
  go_wp2_with (go_at_call 180; refine Calls.mono K.out ?_; rintro e w1 ⟨v, xs, rfl, h1, h2, h3⟩; have H1 := Lib.hid h1; have H2 := Lib.hid h2; clear h1 h2)
  go_ret
  exact ⟨v, xs, rfl, H1.out, H2.out, h3⟩
end Go.Proofs.YtoilgjlbpimcpaaDoor
