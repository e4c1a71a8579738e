/- The n-th word. -/
import Derived.Test.YtoilgjlbpimcpaaDoorTw
import Derived.Test.YtoilgjlbpimcpaaDoorTo
namespace Go.Proofs.YtoilgjlbpimcpaaDoor
open Go.RowKit Go.Shelf Tx
set_option linter.unusedVariables false
set_option maxRecDepth 100000
attribute [local go_sem] Oper.semAt_some

namespace Tx
/-- The n-th word, if there is one. -/
def nthL (L : List (Nat × Nat)) (n : Int) : (Nat × Nat) × Bool := if n ≤ L.length then (L.getD (n - 1).toNat (0, 0), true) else ((0, 0), false)
end Tx
theorem box2_set {W : World} {B : Nat} {t : TypeId} {u v u' v' : Value} (h : Box2 W B t u v) : Box2 ((W.setCell ⟨B, 0, none⟩ u').setCell ⟨B, 1, none⟩ v') B t u' v' := by
  unfold Box2 at *
  simp [World.setCell, Array.getElem?_modify, h]
theorem box2_other {W : World} {B X : Nat} {t : TypeId} {u v : Value} (h : Box2 W B t u v) (hne : B ≠ X) (k : Nat) (x : Value) : Box2 (W.setCell ⟨X, k, none⟩ x) B t u v := by
  unfold Box2 at *
  simp [World.setCell, Array.getElem?_modify, h, Ne.symm hne]
theorem box2_frozen0 {W : World} {B : Nat} {t : TypeId} {u v : Value} (h : Box2 W B t u v) : W.frozen? ⟨B, 0, none⟩ = false := by simp [World.frozen?, show W.heap[B]? = _ from h]
theorem box2_frozen1 {W : World} {B : Nat} {t : TypeId} {u v : Value} (h : Box2 W B t u v) : W.frozen? ⟨B, 1, none⟩ = false := by simp [World.frozen?, show W.heap[B]? = _ from h]
theorem box2_put {W : World} {D r : Nat} {t : TypeId} {u v : Value} {o : Obj} (h : Box2 W r t u v) (hk : W.heap[D]? = some o) (hc : o.isCells = false) (o' : Obj) : Box2 (W.putObj D o') r t u v :=
  ((grownBy_putObj' W D o').block r (Array.getElem?_eq_some_iff.1 h).1 (fun e => by injection e with e; have h1 : W.heap[r]? = _ := h; rw [e, hk] at h1; cases h1; cases hc)).trans h
theorem boxed_set1 {W : World} {B X : Nat} {t : TypeId} {u : Value} (h : Boxed W B t u) (hne : B ≠ X) (k : Nat) (x : Value) : Boxed (W.setCell ⟨X, k, none⟩ x) B t u := by
  unfold Boxed at *
  simp [World.setCell, Array.getElem?_modify, h, Ne.symm hne]
theorem deferred_other {W : World} {D r k : Nat} {v : Value} {ds : Option (List Deferred)} (hk : W.heap[D]? = some (.deferred ds)) (hne : D ≠ r) : (W.setCell ⟨r, k, none⟩ v).heap[D]? = some (.deferred ds) := by
  simp [World.setCell, Array.getElem?_modify, hk, Ne.symm hne]

/-- The boxes of nthWord; so many words have come. -/
structure NwAt (w : World) (n : Int) (s : ByteArray) (k : Nat) (W : World) : Prop where
  n : Boxed W w.heap.size 3 (.int .i64 n)
  r : Box2 W (w.heap.size + 1) 124 (.int .i64 0) (.int .i64 0)
  q : Boxed W (w.heap.size + 1 + 1) 4 (.bool false)
  c : Boxed W (w.heap.size + 1 + 1 + 1) 3 (.int .i64 k)
  s : Boxed W (w.heap.size + 1 + 1 + 1 + 1) 9 (.string s)
  b : Below w.heap.size w W
theorem NwAt.kept {w : World} {n : Int} {s : ByteArray} {k : Nat} {X Y : World} {row : Option Nat} (h : NwAt w n s k X) (hg : X.grownBy Y row)
    (hrow : ∀ r, row = some r → w.heap.size ≤ r ∧ ∃ o : Obj, X.heap[r]? = some o ∧ o.isCells = false) : NwAt w n s k Y := by
  have hr := fun r e => (hrow r e).2
  obtain ⟨h1, h2, h3, h4, h5, h8⟩ := h
  exact ⟨h1.kept hg (boxed_not_row hr h1), h2.own hg hr, h3.kept hg (boxed_not_row hr h3), h4.kept hg (boxed_not_row hr h4), h5.kept hg (boxed_not_row hr h5), h8.grown hg h8.size (fun k e => (hrow k e).1)⟩
def NwJ (w : World) (n : Int) (s : ByteArray) (pre : List (Sp s.size)) (W : World) : Prop := NwAt w n s pre.length W ∧ (pre.length : Int) < n
theorem NwJ.own (w : World) (n : Int) (s : ByteArray) (B : Nat) (hB : w.heap.size ≤ B) : OwnFrom B (NwJ w n s) := by
  rintro pre X Y row ⟨h1, h2⟩ hg hrow
  exact ⟨h1.kept hg (fun r e => ⟨Nat.le_trans hB (hrow r e).1, (hrow r e).2⟩), h2⟩
/-- It has been found: the results are set. -/
def NwX (w : World) (n : Int) (s : ByteArray) (c : Code) (pre : List (Sp s.size)) (W : World) : Prop :=
  c = .ret ∧ ∃ (q : List (Sp s.size)) (x : Sp s.size), pre = q ++ [x] ∧ (q.length : Int) + 1 = n ∧ Box2 W (w.heap.size + 1) 124 (.int .i64 (x.1.1 : Int)) (.int .i64 (x.1.2 : Int)) ∧ Boxed W (w.heap.size + 1 + 1) 4 (.bool true) ∧ Below w.heap.size w W
theorem NwX.own (w : World) (n : Int) (s : ByteArray) (c : Code) (B : Nat) (hB : w.heap.size ≤ B) : OwnFrom B (NwX w n s c) := by
  rintro pre X Y row ⟨h0, q, x, h1, h2, h3, h4, h5⟩ hg hrow
  have hr := fun r e => (hrow r e).2
  exact ⟨h0, q, x, h1, h2, h3.own hg hr, h4.kept hg (boxed_not_row hr h4), h5.grown hg h5.size (fun k e => Nat.le_trans hB (hrow k e).1)⟩

theorem NwAt.new (w : World) (n : Int) (s : ByteArray) : NwAt w n s 0 (((((w.alloc (.cells #[.int .i64 n] 3)).alloc (.cells #[.int .i64 0, .int .i64 0] 124)).alloc (.cells #[.bool false] 4)).alloc (.cells #[.int .i64 0] 3)).alloc (.cells #[.string s] 9)) := by
  have h1 := ((((Boxed.new w 3 (.int .i64 n)).alloc (.cells #[.int .i64 0, .int .i64 0] 124)).alloc (.cells #[.bool false] 4)).alloc (.cells #[.int .i64 0] 3)).alloc (.cells #[.string s] 9)
  have b2 : ∀ {W : World} {B : Nat} {u v : Value} (o : Obj), Box2 W B 124 u v → Box2 (W.alloc o) B 124 u v := fun o h => h.own (World.grownBy_alloc _ o none) (fun r e => by cases e)
  have h2 := b2 (.cells #[.string s] 9) (b2 (.cells #[.int .i64 0] 3) (b2 (.cells #[.bool false] 4) (Box2.new (w.alloc (.cells #[.int .i64 n] 3)) 124 (.int .i64 0) (.int .i64 0))))
  have h3 := ((Boxed.new ((w.alloc (.cells #[.int .i64 n] 3)).alloc (.cells #[.int .i64 0, .int .i64 0] 124)) 4 (.bool false)).alloc (.cells #[.int .i64 0] 3)).alloc (.cells #[.string s] 9)
  have h4 := (Boxed.new (((w.alloc (.cells #[.int .i64 n] 3)).alloc (.cells #[.int .i64 0, .int .i64 0] 124)).alloc (.cells #[.bool false] 4)) 3 (.int .i64 0)).alloc (.cells #[.string s] 9)
  have h5 := Boxed.new ((((w.alloc (.cells #[.int .i64 n] 3)).alloc (.cells #[.int .i64 0, .int .i64 0] 124)).alloc (.cells #[.bool false] 4)).alloc (.cells #[.int .i64 0] 3)) 9 (.string s)
  simp only [World.size_alloc] at h1 h2 h3 h4 h5
  exact ⟨h1, h2, h3, h4, h5, Bl.alloc (Bl.alloc (Bl.alloc (Bl.alloc (Bl.alloc (Below.refl _ w) _) _) _) _) _⟩
theorem nw_count {w : World} {n : Int} {s : ByteArray} {k : Nat} {W : World} (h : NwAt w n s k W) : NwAt w n s (k + 1) (W.setCell ⟨w.heap.size + 1 + 1 + 1, 0, none⟩ (.int .i64 ((k : Int) + 1))) := by
  obtain ⟨h1, h2, h3, h4, h5, h8⟩ := h
  exact ⟨boxed_set1 h1 (by omega) 0 _, box2_other h2 (by omega) 0 _, boxed_set1 h3 (by omega) 0 _, by have := h4.set (.int .i64 ((k : Int) + 1)); exact this, boxed_set1 h5 (by omega) 0 _, h8.setCell (p := ⟨w.heap.size + 1 + 1 + 1, 0, none⟩) (by simp; omega) _⟩
theorem nw_found {w : World} {s : ByteArray} {k B xa xb : Nat} {pre : List (Sp s.size)} {W : World} (h : NwAt w ((k : Int) + 1) s pre.length W) (hk : k = pre.length) (h1 : xa < xb) (h2 : xb ≤ s.size) :
    KeepsFrom B W ((((W.setCell ⟨w.heap.size + 1 + 1 + 1, 0, none⟩ (.int .i64 ((k : Int) + 1))).setCell ⟨w.heap.size + 1, 0, none⟩ (.int .i64 (xa : Int))).setCell ⟨w.heap.size + 1, 1, none⟩ (.int .i64 (xb : Int))).setCell ⟨w.heap.size + 1 + 1, 0, none⟩ (.bool true)) ∧
      NwX w ((k : Int) + 1) s .ret (pre ++ [⟨(xa, xb), h1, h2⟩]) ((((W.setCell ⟨w.heap.size + 1 + 1 + 1, 0, none⟩ (.int .i64 ((k : Int) + 1))).setCell ⟨w.heap.size + 1, 0, none⟩ (.int .i64 (xa : Int))).setCell ⟨w.heap.size + 1, 1, none⟩ (.int .i64 (xb : Int))).setCell ⟨w.heap.size + 1 + 1, 0, none⟩ (.bool true)) := by
  obtain ⟨a1, a2, a3, a4, a5, a8⟩ := h
  refine ⟨((((KeepsOthers.setCell _ _ _).trans (KeepsOthers.setCell _ _ _)).trans (KeepsOthers.setCell _ _ _)).trans (KeepsOthers.setCell _ _ _)).from _, rfl, pre, _, rfl, by rw [hk], ?_, ?_, ?_⟩
  · exact box2_other (box2_set (box2_other a2 (by omega) 0 _)) (by omega) 0 _
  · exact (boxed_set1 (boxed_set1 (boxed_set1 a3 (by omega) 0 _) (by omega) 0 _) (by omega) 1 _).set _
  · exact (((a8.setCell (p := ⟨w.heap.size + 1 + 1 + 1, 0, none⟩) (by simp; omega) _).setCell (p := ⟨w.heap.size + 1, 0, none⟩) (by simp) _).setCell (p := ⟨w.heap.size + 1, 1, none⟩) (by simp) _).setCell (p := ⟨w.heap.size + 1 + 1, 0, none⟩) (by simp; omega) _
set_option maxHeartbeats 4000000 in
theorem nthWord_any (s : ByteArray) (n : Int) (w : World) (hs : s.size ≤ 1000000) (hn : 1 ≤ n) (hn2 : n ≤ 9223372036854775807) :
    Calls Tryd.prog 131 #[.string s, .int .i64 n] w fun e w' => e = .returned (.tuple #[spv (nthL (spans (bts s)) n).1, .bool (nthL (spans (bts s)) n).2]) ∧ Below w.heap.size w w' := by
  have KW := fun (W : World) (b : Nat) (hb : W.cell? ⟨b, 0, none⟩ = some (.string s)) (hl : b < W.heap.size) => Lib.hid (fun w' hw' => words_stopsC b s W (by omega) hb hl w' hw')
  have HN2 := Lib.hid hn2
  clear hn2
  rw [← callsIn_wide (n := 3)]
  refine callsIn_of_wp_marks Tryd.func131 rfl trivial ?_ rfl
  simp only [Tryd.ntmps131, List.size_toArray, List.length_cons, List.length_nil, Nat.reduceAdd, Nat.reduceSub, Array.replicate_succ, Array.replicate_zero, List.push_toArray, List.append_toArray, List.nil_append, List.cons_append]
  gi_wp2_with (refine ⟨trivial, ?_⟩; gi_at_call 162; refine CallsIn.mono (callsIn_wide.2 (words_any _ _)) ?_; rintro e w4 ⟨rfl, rfl⟩)
  obtain ⟨W4, hW4⟩ : ∃ W4, W4 = ((((w.alloc (.cells #[.int .i64 n] 3)).alloc (.cells #[.int .i64 0, .int .i64 0] 124)).alloc (.cells #[.bool false] 4)).alloc (.cells #[.int .i64 0] 3)).alloc (.cells #[.string s] 9) := ⟨_, rfl⟩
  have hz4 : W4.heap.size = w.heap.size + 1 + 1 + 1 + 1 + 1 := by rw [hW4]; simp
  have hA0 : NwAt w n s 0 W4 := by rw [hW4]; exact NwAt.new w n s
  rw [← hW4]
  have HST := Lib.hid ((KW W4 (w.heap.size + 1 + 1 + 1 + 1) hA0.s.cell (by omega)).out)
  clear hW4 KW
  refine wpIn_rangeFunc_ownH rfl (by omega) (gf := 179) (lb := #[.pointer (some ⟨w.heap.size + 1 + 1 + 1 + 1, 0, none⟩)]) rfl trivial (enters_of Tryd.func179 (by kernel_rfl) rfl) (HST.out _ (Below.refl _ _)) (fun h k => k.trans h) (fun W l o o' hl _ _ _ => World.cell?_of_block (World.putObj_heap_other (by simp; omega))) (Below.refl _ _) (fun _ => rfl)
    (NwJ w n s) (fun c => NwX w n s c) (NwJ.own w n s _ (by omega)) (fun c => NwX.own w n s c _ (by omega))
    ⟨hA0, by simpa using (show (0 : Int) < n by omega)⟩
    (fun x a' W => ∃ X, a' = { tmps := #[.string s, .int .i64 n, undef, .pointer (some ⟨w.heap.size, 0, none⟩), .pointer (some ⟨w.heap.size + 1, 0, none⟩), .pointer (some ⟨w.heap.size + 1 + 1, 0, none⟩), .pointer (some ⟨w.heap.size + 1 + 1 + 1, 0, none⟩), .pointer (some ⟨X, 0, none⟩), .string s, .func (.func 179) #[] #[.pointer (some ⟨w.heap.size + 1 + 1 + 1 + 1, 0, none⟩)], spv x.1, undef, undef, undef, undef, undef, undef, undef], defers := [] } ∧ Box2 W X 124 (.int .i64 (x.1.1 : Int)) (.int .i64 (x.1.2 : Int)) ∧ w.heap.size + 1 + 1 + 1 + 1 < X)
    (fun x a' _ Y Z row ⟨X, e, hb, hlt⟩ hg hr => ⟨X, e, hb.own hg (fun r e => (hr r e).2), hlt⟩) ?assign ?body ?done ?stop
  case assign =>
    intro l pre x W K hI hK
    have hVl := hI.1.s.lt
    have hKK := hK
    obtain ⟨⟨xa, xb⟩, hx1, hx2⟩ := x
    unfold spv at *
    dsimp only at *
    gi_wp2
    have hI' := hI.1.kept (World.grownBy_alloc W (.cells #[.int .i64 (xa : Int), .int .i64 (xb : Int)] 124) none) (fun r e => by cases e)
    exact hKK _ _ ((KeepsOthers.alloc W _).from _) (hI'.s.cell.trans hI.1.s.cell.symm) ⟨hI', hI.2⟩ ⟨W.heap.size, rfl, Box2.new _ _ _ _, hVl⟩
  case body =>
    clear hz4 hA0 HST
    rintro l pre x a' W hl hlw ⟨hA, hcnt⟩ ⟨X, rfl, hX, hVX⟩ hlt
    obtain ⟨⟨xa, xb⟩, hx1, hx2⟩ := x
    dsimp only at hx1 hx2 hX
    have d0 := hX.cell0
    have d1 := hX.cell1
    have e0 := hA.n.cell
    have e1 := hA.c.cell
    have e2 := hA.c.frozen
    have g1 := hA.r.cell0
    have g2 := hA.r.cell1
    have g3 := box2_frozen0 hA.r
    have g4 := box2_frozen1 hA.r
    have g5 := hA.q.cell
    have g6 := hA.q.frozen
    have HA := Lib.hid hA
    have HX := Lib.hid hX
    obtain ⟨k, hk⟩ : ∃ k, k = pre.length := ⟨_, rfl⟩
    have HKK := Lib.hid hk
    rw [← hk] at e1 hcnt hlt
    have hwk : IntKind.i64.wrap ((k : Int) + 1) = (k : Int) + 1 := IntWalk.i64_in _ (by omega)
    have hX3 : ¬ X = w.heap.size + 1 + 1 + 1 := by omega
    clear hA hX hk
    by_cases hkn : (k : Int) + 1 = n
    · have HKN := Lib.hid hkn
      subst hkn
      gi_wp2
      exact nw_found HA.out HKK.out hx1 hx2
    · gi_wp2
      refine ⟨(KeepsOthers.setCell _ _ _).from _, ?_, ?_, ?_⟩
      · exact ((boxed_set1 HA.out.s (by omega) 0 _).cell).trans HA.out.s.cell.symm
      · have := nw_count HA.out
        rw [List.length_append, ← HKK.out]
        rw [← HKK.out] at this
        exact this
      · rw [List.length_append, ← HKK.out]; simp; omega
  case done =>
    rintro D ys W hD hys ⟨hA, hcnt⟩ hK
    have HR := Lib.hid (show nthL (spans (bts s)) n = ((0, 0), false) by
      unfold nthL
      rw [← hys, List.length_map, if_neg (by omega)])
    have g1 := hA.r.cell0
    have g2 := hA.r.cell1
    have g3 := box2_frozen0 hA.r
    have g4 := box2_frozen1 hA.r
    have g5 := hA.q.cell
    have g6 := hA.q.frozen
    have HA := Lib.hid hA
    have HK := Lib.hid hK
    clear hys hA hcnt hK hA0 HST
    gi_wp2
    have k1 := deferred_other (k := 0) (v := .bool false) (deferred_other (k := 1) (v := .int .i64 0) (deferred_other (k := 0) (v := .int .i64 0) HK.out (r := w.heap.size + 1) (by omega)) (r := w.heap.size + 1) (by omega)) (r := w.heap.size + 1 + 1) (by omega)
    have y1 := box2_other (box2_set (u' := .int .i64 0) (v' := .int .i64 0) HA.out.r) (X := w.heap.size + 1 + 1) (by omega) 0 (.bool false)
    have y2 := (boxed_set1 (boxed_set1 HA.out.q (X := w.heap.size + 1) (by omega) 0 (.int .i64 0)) (X := w.heap.size + 1) (by omega) 1 (.int .i64 0)).set (.bool false)
    have z1 := (box2_put y1 k1 rfl (.deferred none)).cell0
    have z2 := (box2_put y1 k1 rfl (.deferred none)).cell1
    have z3 := (boxed_put y2 k1 rfl (.deferred none)).cell
    have hb3 : Below w.heap.size w (((W.setCell ⟨w.heap.size + 1, 0, none⟩ (.int .i64 0)).setCell ⟨w.heap.size + 1, 1, none⟩ (.int .i64 0)).setCell ⟨w.heap.size + 1 + 1, 0, none⟩ (.bool false)) := ((HA.out.b.setCell (p := ⟨w.heap.size + 1, 0, none⟩) (by simp) _).setCell (p := ⟨w.heap.size + 1, 1, none⟩) (by simp) _).setCell (p := ⟨w.heap.size + 1 + 1, 0, none⟩) (by simp; omega) _
    refine ⟨by simp, .inl ⟨_, _, rfl, run_takeDeferred k1, ?_⟩⟩
    refine ⟨.tuple #[.agg #[.int .i64 0, .int .i64 0], .bool false], by simp [results, Tryd.results131, go_sem, z1, z2, z3], ?_⟩
    rw [HR.out]
    exact ⟨rfl, hb3.trans (belowK_b (w := w) (Nat.le_refl _) _ D _ (.deferred none) (by omega) k1 rfl rfl)⟩
  case stop =>
    rintro D c pre W hD hpre ⟨rfl, q, x, hq, hqn, hb2, hbq, hIb⟩ hK
    obtain ⟨r, hpre⟩ := hpre
    have HR := Lib.hid (show nthL (spans (bts s)) n = (x.1, true) by
      unfold nthL
      rw [← hpre, hq, if_pos (by simp; omega)]
      congr 1
      rw [show (n - 1).toNat = q.length by omega]
      simp)
    have g1 := hb2.cell0
    have g2 := hb2.cell1
    have g5 := hbq.cell
    have HB2 := Lib.hid hb2
    have HBQ := Lib.hid hbq
    have HB := Lib.hid hIb
    have HK := Lib.hid hK
    clear hpre hq hqn hb2 hbq hIb hK hA0 HST
    gi_wp2
    have z1 := (box2_put HB2.out HK.out rfl (.deferred none)).cell0
    have z2 := (box2_put HB2.out HK.out rfl (.deferred none)).cell1
    have z3 := (boxed_put HBQ.out HK.out rfl (.deferred none)).cell
    refine ⟨by simp, .inl ⟨_, _, rfl, run_takeDeferred HK.out, ?_⟩⟩
    refine ⟨.tuple #[.agg #[.int .i64 (x.1.1 : Int), .int .i64 (x.1.2 : Int)], .bool true], by simp [results, Tryd.results131, go_sem, z1, z2, z3], ?_⟩
    rw [HR.out]
    exact ⟨rfl, HB.out.trans (belowK_b (w := w) (Nat.le_refl _) W D _ (.deferred none) (by omega) HK.out rfl rfl)⟩
end Go.Proofs.YtoilgjlbpimcpaaDoor
