/- The date of a day. -/
import Derived.Test.YtmjifmlibgpjiaaGreatDoorCb
import Derived.Test.YtmjifmlibgpjiaaGreatDoorCc
import Derived.Deep.RegionHeld3
import Derived.Deep.RegionWith
import Derived.StillTailTactics
namespace Go.Proofs.YtmjifmlibgpjiaaGreatDoor
open Go.RowKit Tx
set_option linter.unusedVariables false
set_option maxRecDepth 100000
attribute [local go_sem] Oper.semAt_some

theorem cellAt {w : World} {n : Nat} {v : Value} {t : TypeId} (h : n = w.heap.size) : (w.alloc (.cells #[v] t)).cell? ⟨n, 0, none⟩ = some v := by subst h; simp
theorem cellUp {w : World} {o : Obj} {p : Addr} {v : Value} (h : w.cell? p = some v) (hp : p.block < w.heap.size) : (w.alloc o).cell? p = some v := ((Bl.alloc (Below.refl _ w) o).cell (p := p) hp).trans h
theorem below_drewN' {a w : World} (h : Below a.heap.size a w) (n : Nat) : Below a.heap.size a (w.drewN n) := below_drewN h n
/-- Several cells, by their block. -/
def BoxC (W : World) (B : Nat) (t : TypeId) (cs : Array Value) : Prop := W.heap[B]? = some (.cells cs t (0, 0))
theorem BoxC.lt {W : World} {B : Nat} {t : TypeId} {cs : Array Value} (h : BoxC W B t cs) : B < W.heap.size := (Array.getElem?_eq_some_iff.1 h).1
theorem BoxC.cell {W : World} {B : Nat} {t : TypeId} {cs : Array Value} (h : BoxC W B t cs) {i : Nat} {v : Value} (hv : cs[i]? = some v) : W.cell? ⟨B, i, none⟩ = some v := by simp [World.cell?, show W.heap[B]? = _ from h, hv]
theorem BoxC.frozen {W : World} {B : Nat} {t : TypeId} {cs : Array Value} (h : BoxC W B t cs) (i : Nat) : W.frozen? ⟨B, i, none⟩ = false := by simp [World.frozen?, show W.heap[B]? = _ from h]
theorem BoxC.new (W : World) (t : TypeId) (cs : Array Value) : BoxC (W.alloc (.cells cs t)) W.heap.size t cs := World.alloc_heap_new W _
theorem BoxC.kept {W W' : World} {row : Option Nat} {B : Nat} {t : TypeId} {cs : Array Value} (h : BoxC W B t cs) (hg : W.grownBy W' row) (hne : some B ≠ row) : BoxC W' B t cs := (hg.block B h.lt hne).trans h
theorem BoxC.alloc {W : World} {B : Nat} {t : TypeId} {cs : Array Value} (h : BoxC W B t cs) (o : Obj) : BoxC (W.alloc o) B t cs := h.kept (World.grownBy_alloc W o none) (by simp)
theorem BoxC.drewN {W : World} {B : Nat} {t : TypeId} {cs : Array Value} (h : BoxC W B t cs) (n : Nat) : BoxC (W.drewN n) B t cs := h
theorem BoxC.set {W : World} {B : Nat} {t : TypeId} {cs : Array Value} (h : BoxC W B t cs) (i : Nat) (v : Value) : BoxC (W.setCell ⟨B, i, none⟩ v) B t (cs.setIfInBounds i v) := by
  obtain ⟨hlt, hk⟩ := Array.getElem?_eq_some_iff.1 h
  show (W.heap.modify B _)[B]? = _
  rw [Array.getElem?_eq_getElem (by rw [Array.size_modify]; exact hlt), Array.getElem_modify_self, hk]
  simp
theorem grown_set (W : World) (B i : Nat) (v : Value) : W.grownBy (W.setCell ⟨B, i, none⟩ v) (some B) := by
  refine ⟨rfl, rfl, rfl, by simp [World.setCell], fun k hk hne => ?_⟩
  show (W.heap.modify B _)[k]? = _
  rw [Array.getElem?_modify]
  rw [if_neg (fun e => hne (by rw [e]))]
theorem BoxC.other {W : World} {B B' : Nat} {t : TypeId} {cs : Array Value} (h : BoxC W B t cs) (hne : B ≠ B') (i : Nat) (u : Value) : BoxC (W.setCell ⟨B', i, none⟩ u) B t cs := h.kept (grown_set W B' i u) (fun e => hne (by cases e; rfl))
theorem boxed_other {W : World} {B B' : Nat} {t : TypeId} {v : Value} (h : Boxed W B t v) (hne : B ≠ B') (i : Nat) (u : Value) : Boxed (W.setCell ⟨B', i, none⟩ u) B t v := h.kept (grown_set W B' i u) (fun e => hne (by cases e; rfl))
theorem boxC_not_row {X : World} {row : Option Nat} {b t : Nat} {cs : Array Value} (hrow : ∀ r, row = some r → ∃ o : Obj, X.heap[r]? = some o ∧ o.isCells = false) (hb : BoxC X b t cs) : some b ≠ row := fun e => by
  obtain ⟨o, ho, hc⟩ := hrow b e.symm
  rw [show X.heap[b]? = _ from hb] at ho; cases ho; cases hc
theorem boxed_not_row {X : World} {row : Option Nat} {b t : Nat} {v : Value} (hrow : ∀ r, row = some r → ∃ o : Obj, X.heap[r]? = some o ∧ o.isCells = false) (hb : Boxed X b t v) : some b ≠ row := fun e => by
  obtain ⟨o, ho, hc⟩ := hrow b e.symm
  rw [show X.heap[b]? = _ from hb] at ho; cases ho; cases hc
namespace Tx
/-- The days of several months. -/
def sumD (y : Nat) (l : List Nat) : Nat := (l.map (dim y)).sum
theorem sumD_snoc (y : Nat) (l : List Nat) (m : Nat) : sumD y (l ++ [m]) = sumD y l + dim y m := by simp [sumD]
theorem sumD_upTo (y : Nat) : ∀ k, k ≤ 12 → sumD y (upTo k) = cum y (k + 1)
  | 0, _ => rfl
  | k + 1, h => by rw [upTo_succ, sumD_snoc, sumD_upTo y k (by omega), cum_succ y (k + 1) (by omega) h]
end Tx
/-- Between two rounds: what is left of the days. -/
structure DayAt (w : World) (y r D B : Nat) (pre : List Nat) (W : World) : Prop where
  bd : ∃ (mm : Int) (f : Nat), BoxC W D 70 #[.int .i64 (y : Int), .int .i64 mm, .int .i64 (f : Int)] ∧ 1 ≤ f ∧ f + sumD y pre = r + 1
  br : BoxC W (w.heap.size + 1) 70 #[.int .i64 0, .int .i64 0, .int .i64 0]
  bb : Boxed W B 3 (.int .i64 (y : Int))
  b : Below w.heap.size w W
structure DayX (w : World) (y r D : Nat) (c : Code) (pre : List Nat) (W : World) : Prop where
  c : c = .exit 0
  bd : ∃ (p' : List Nat) (x f : Nat), pre = p' ++ [x] ∧ BoxC W D 70 #[.int .i64 (y : Int), .int .i64 (x : Int), .int .i64 (f : Int)] ∧ 1 ≤ f ∧ f + sumD y p' = r + 1 ∧ f ≤ dim y x
  br : BoxC W (w.heap.size + 1) 70 #[.int .i64 0, .int .i64 0, .int .i64 0]
  b : Below w.heap.size w W
theorem DayAt.own (w : World) (y r D B N : Nat) (hB : w.heap.size ≤ N) : OwnFrom N (DayAt w y r D B) := by
  rintro pre X Y row ⟨⟨mm, f, h1, h2, h3⟩, h4, h5, h6⟩ hg hrow
  have hr := fun r e => (hrow r e).2
  exact ⟨⟨mm, f, h1.kept hg (boxC_not_row hr h1), h2, h3⟩, h4.kept hg (boxC_not_row hr h4), h5.kept hg (boxed_not_row hr h5), h6.grown hg h6.size (fun k e => Nat.le_trans hB (hrow k e).1)⟩
theorem DayX.own (w : World) (y r D N : Nat) (hB : w.heap.size ≤ N) (c : Code) : OwnFrom N (DayX w y r D c) := by
  rintro pre X Y row ⟨h0, ⟨p', x, f, hp, h1, h2, h3, h4⟩, h5, h6⟩ hg hrow
  have hr := fun r e => (hrow r e).2
  exact ⟨h0, ⟨p', x, f, hp, h1.kept hg (boxC_not_row hr h1), h2, h3, h4⟩, h5.kept hg (boxC_not_row hr h5), h6.grown hg h6.size (fun k e => Nat.le_trans hB (hrow k e).1)⟩
theorem below_keepsK (w W : World) (l : Nat) (o o' : Obj) (h : w.heap.size ≤ l) (hl : W.heap[l]? = some o) (hc : o.isCells = false) : Below w.heap.size W (W.putObj l o') := by
  have hlt := (Array.getElem?_eq_some_iff.1 hl).1
  exact ⟨rfl, rfl, rfl, by simp [World.putObj], fun k hk => World.putObj_heap_other (by omega)⟩
set_option maxHeartbeats 8000000 in
theorem dateOf_any (d y m k : Nat) (w : World) (hd : IsDate d y m k) (h9 : y ≤ 9999) :
    Calls Tryz.prog 52 #[.int .i64 (d : Int)] w fun e w' => e = .returned (.agg #[.int .i64 (y : Int), .int .i64 (m : Int), .int .i64 (k : Int)]) ∧ Below w.heap.size w w' := by
  have hy := hd.isYear
  obtain ⟨p, rfl⟩ : ∃ p, y = p + 1 := ⟨y - 1, by have := hd.y1; omega⟩
  have KS := fun (b : Nat) (W : World) (hc : W.cell? ⟨b, 0, none⟩ = some (.int .i64 (d : Int))) (hb : b < W.heap.size) => Lib.hid (search_any d b (p + 1) W hy h9 hc hb)
  have KF := fun W => Lib.hid (firstDay_any p W (by omega))
  rw [show ((p + 1 : Nat) : Int) = (p : Int) + 1 by omega] at KS
  obtain ⟨r, hr⟩ : ∃ r, d = bef p + r := ⟨d - bef p, by have := hy.lo; simp at this; omega⟩
  have hr2 : r = cum (p + 1) m + (k - 1) := by have := hd.eq; simp at this; omega
  have hd2 : d ≤ 3652058 := by have h1 := hy.hi; have := bef_mono h9; rw [bef9999] at this; omega
  obtain ⟨x0, hx⟩ : ∃ x0, x0 = bef p := ⟨_, rfl⟩
  rw [← hx] at KF hr
  have hs1 : IntKind.i64.wrap (1 + (d : Int)) = 1 + (d : Int) := IntWalk.i64_in _ (by omega)
  have hs2 : IntKind.i64.wrap (1 + (d : Int) - (x0 : Int)) = ((r + 1 : Nat) : Int) := by rw [show 1 + (d : Int) - (x0 : Int) = ((r + 1 : Nat) : Int) by omega]; exact IntWalk.i64_in _ (by omega)
  have HD := Lib.hid hd
  have HR := Lib.hid hr
  have HR2 := Lib.hid hr2
  have hmf : ∀ (fn : Fn) (first cap : Array Value) (w : World), (Instr.makeFunc fn first cap).run Tryz.prog w = .ok (.func fn first cap) w := fun _ _ _ _ => rfl
  have KD := fun W => Lib.hid (dateFrom_any ((p : Int) + 1) 1 ((r + 1 : Nat) : Int) W)
  have KSW := KS w.heap.size ((w.alloc (.cells #[.int .i64 (d : Int)] 3)).alloc (.cells #[.int .i64 0, .int .i64 0, .int .i64 0] 70)) (cellUp (cellAt rfl) (by simp)) (by simp; omega)
  have HRB := Lib.hid (show r ≤ 4000000 by omega)
  clear hd hy hr hr2 hx hd2 KS
  rw [← callsIn_wide (n := 3)]
  refine callsIn_of_wp_marks Tryz.func52 rfl trivial ?_ rfl
  simp only [Tryz.ntmps52, List.size_toArray, List.length_cons, List.length_nil, Nat.reduceAdd, Nat.reduceSub, Array.replicate_succ, Array.replicate_zero, List.push_toArray, List.append_toArray, List.nil_append, List.cons_append]
  gi_wp2
  refine wpIn_wide.2 (wp_scope_straight ((wpIn_wide (n := 3)).1 ?_))
  gi_wp2_with (refine ⟨trivial, ?_⟩; gi_at_call 83; refine CallsIn.mono (callsIn_wide.2 KSW.out) ?_; rintro e w1 ⟨rfl, n1, rfl⟩)
  refine wpIn_wide.2 ?_
  obtain ⟨W0, hW0⟩ : ∃ W0, W0 = ((w.alloc (.cells #[.int .i64 (d : Int)] 3)).alloc (.cells #[.int .i64 0, .int .i64 0, .int .i64 0] 70)).drewN n1 := ⟨_, rfl⟩
  rw [← hW0]
  have c0 : W0.cell? ⟨w.heap.size, 0, none⟩ = some (.int .i64 (d : Int)) := by rw [hW0]; exact cellUp (cellAt rfl) (by simp)
  have hz0 : W0.heap.size = w.heap.size + 1 + 1 := by rw [hW0]; simp
  have HB0 := Lib.hid (show Below w.heap.size w W0 by rw [hW0]; exact below_drewN' (Bl.alloc (Bl.alloc (Below.refl _ w) _) _) _)
  have HBR := Lib.hid (show BoxC W0 (w.heap.size + 1) 70 #[.int .i64 0, .int .i64 0, .int .i64 0] by rw [hW0]; have := BoxC.new (w.alloc (.cells #[.int .i64 (d : Int)] 3)) 70 #[.int .i64 0, .int .i64 0, .int .i64 0]; rw [World.size_alloc] at this; exact this.drewN n1)
  clear hW0
  go_region_held3 (fun w' => w'.cell? ⟨w.heap.size, 0, none⟩ = some (.int .i64 (d : Int)))
    (first | assumption | go_keep)
    (first
      | (go_at_call 85; refine Calls.mono (KF _).out ?_; rintro e w2 ⟨rfl, rfl⟩)
      | (go_at_call 46; refine Calls.mono (KD _).out ?_; rintro e w3 ⟨rfl, rfl⟩))
  · obtain ⟨W1, hW1⟩ : ∃ W1, W1 = ((W0.alloc (.cells #[.int .i64 ((p : Int) + 1), .int .i64 1, .int .i64 ((r : Int) + 1)] 70)).alloc (.cells #[.int .i64 ((p : Int) + 1), .int .i64 1, .int .i64 ((r : Int) + 1)] 70)).drew := ⟨_, rfl⟩
    rw [← hW1]
    have hz1 : W1.heap.size = w.heap.size + 1 + 1 + 1 + 1 := by rw [hW1]; simp [hz0]
    have bD1 : BoxC W1 (w.heap.size + 1 + 1) 70 #[.int .i64 ((p : Int) + 1), .int .i64 1, .int .i64 ((r : Int) + 1)] := by
      rw [hW1, ← hz0]; exact (BoxC.new _ _ _).alloc _
    have bD2 : BoxC W1 (w.heap.size + 1 + 1 + 1) 70 #[.int .i64 ((p : Int) + 1), .int .i64 1, .int .i64 ((r : Int) + 1)] := by
      rw [hW1, ← hz0]; have := BoxC.new (W0.alloc (.cells #[.int .i64 ((p : Int) + 1), .int .i64 1, .int .i64 ((r : Int) + 1)] 70)) 70 #[.int .i64 ((p : Int) + 1), .int .i64 1, .int .i64 ((r : Int) + 1)]; rwa [World.size_alloc] at this
    have bR1 : BoxC W1 (w.heap.size + 1) 70 #[.int .i64 0, .int .i64 0, .int .i64 0] := by
      rw [hW1]; exact ((HBR.out).alloc _).alloc _
    have HB1 : Below w.heap.size w W1 := by rw [hW1]; exact Bl.drew (Bl.alloc (Bl.alloc HB0.out _) _)
    obtain ⟨D, hD⟩ : ∃ D, D = w.heap.size + 1 + 1 + 1 := ⟨_, rfl⟩
    rw [← hD]
    have bD : BoxC W1 D 70 #[.int .i64 ((p : Int) + 1), .int .i64 1, .int .i64 ((r : Int) + 1)] := by rw [hD]; assumption
    have hDlt : w.heap.size + 1 < D ∧ D < W1.heap.size := by omega
    clear hD
    have cD := bD.cell (i := 0) rfl
    have HZ1 := Lib.hid hz1
    clear hW1 bD1 bD2 c0 hz1
    gi_wp2
    refine wpIn_label ?_
    gi_wp2_with (refine ⟨trivial, ?_⟩; gi_at_call 86; refine CallsIn.mono (callsIn_wide.2 (months_any _ _)) ?_; rintro e w4 ⟨rfl, rfl⟩)
    obtain ⟨B, hBe⟩ : ∃ B, B = W1.heap.size := ⟨_, rfl⟩
    have bB := Boxed.new W1 3 (.int .i64 ((p : Int) + 1))
    have hzz := World.size_alloc W1 (.cells #[.int .i64 ((p : Int) + 1)] 3)
    obtain ⟨W2, hW2⟩ : ∃ W2, W2 = W1.alloc (.cells #[.int .i64 ((p : Int) + 1)] 3) := ⟨_, rfl⟩
    have bD' := bD.alloc (.cells #[.int .i64 ((p : Int) + 1)] 3)
    have bR' := bR1.alloc (.cells #[.int .i64 ((p : Int) + 1)] 3)
    have HB2 := Bl.alloc HB1 (.cells #[.int .i64 ((p : Int) + 1)] 3)
    rw [← hW2] at bB bD' bR' HB2 hzz ⊢
    rw [← hBe] at bB hzz ⊢
    have hz1 := HZ1.out
    have hST := fun W' hW' => months_stops B (p + 1) 0 W2 (by rw [show ((p + 1 : Nat) : Int) = (p : Int) + 1 by omega]; exact bB.cell) (by omega) W' hW'
    have HST := Lib.hid hST
    have hDB : D < B := by omega
    have hDw : w.heap.size + 1 < D := hDlt.1
    have hB2 : w.heap.size ≤ W2.heap.size := HB2.size
    have hBs : B < W2.heap.size := by omega
    clear hBe hzz hDlt hz1 HZ1 hz0
    clear hST hW2 cD bD bR1 HB1
    refine wpIn_rangeFunc_ownG rfl (by omega) (gf := 124) (lb := #[.pointer (some ⟨B, 0, none⟩)]) rfl trivial (enters_of Tryz.func124 (by kernel_rfl) rfl) (HST.out _ (Below.refl _ _)) (fun h k => k.trans h) (fun W l o o' hl _ _ _ => World.cell?_of_block (World.putObj_heap_other (by simp; omega))) (Below.refl _ _) (fun _ => rfl)
      (DayAt w (p + 1) r D B) (DayX w (p + 1) r D) (DayAt.own w (p + 1) r D B _ (by omega)) (fun c => DayX.own w (p + 1) r D _ (by omega) c)
      ⟨⟨1, r + 1, bD', by omega, rfl⟩, bR', bB, HB2⟩
      (fun x => { tmps := #[.int .i64 (d : Int), .pointer (some ⟨w.heap.size, 0, none⟩), .pointer (some ⟨w.heap.size + 1, 0, none⟩), .int .i64 ((p : Int) + 1), .pointer (some ⟨D, 0, none⟩), .int .i64 (x : Int), .int .i64 (dim (p + 1) x : Int), .func (.func 84) #[] #[.pointer (some ⟨w.heap.size, 0, none⟩)], .int .i64 ((p : Int) + 1), .int .i64 ((p : Int) + 1), .int .i64 (d : Int), .int .i64 (1 + (d : Int)), .int .i64 ((p : Int) + 1), .int .i64 (x0 : Int), .int .i64 ((r : Int) + 1), .agg #[.int .i64 ((p : Int) + 1), .int .i64 1, .int .i64 ((r : Int) + 1)], .int .i64 ((p : Int) + 1), .func (.func 124) #[] #[.pointer (some ⟨B, 0, none⟩)], .int .i64 (x : Int), .int .i64 (dim (p + 1) x : Int), undef, undef, undef, undef, undef, undef, undef, undef, undef, undef, undef, undef, undef, undef, undef, undef], defers := [] }) ?assign ?body ?done ?stop
    case assign =>
      intro l x W K hK
      gi_wp2
      exact hK
    case body =>
      rintro l pre x W ⟨⟨mm, f, bd, hf1, hf⟩, br, bb, hb⟩ hlt
      have c1 := bd.cell (i := 1) rfl
      have c2 := bd.cell (i := 2) rfl
      have f1 := bd.frozen 1
      have f2 := bd.frozen 2
      have hdm := dim_pos (p + 1) x
      have hrb := HRB.out
      have bd1 := bd.set 1 (.int .i64 (x : Int))
      have e2 := bd1.cell (i := 2) rfl
      have g2 := bd1.frozen 2
      have hfr : f ≤ 4000001 := by omega
      have HF := Lib.hid hf
      have HF1 := Lib.hid hf1
      have HBD1 := Lib.hid bd1
      have HBR := Lib.hid br
      have HBB := Lib.hid bb
      have HBL := Lib.hid hb
      clear bd bd1 br bb hb hf
      by_cases hle : f ≤ dim (p + 1) x
      · have hle' : (f : Int) ≤ (dim (p + 1) x : Int) := by omega
        have HLE := Lib.hid hle
        clear hle hf1 hdm hrb hfr
        gi_wp2
        have hbb := HBB.out
        refine ⟨(KeepsOthers.setCell _ _ _).from _, rfl, ⟨pre, x, f, rfl, HBD1.out, ?_, HF.out, HLE.out⟩, HBR.out.other (by omega) _ _, HBL.out.setCell (p := ⟨D, 1, none⟩) (by simp; omega) _⟩
        exact HF1.out
      · have hle' : ¬ (f : Int) ≤ (dim (p + 1) x : Int) := by omega
        have hsb : IntKind.i64.wrap ((f : Int) - (dim (p + 1) x : Int)) = ((f - dim (p + 1) x : Nat) : Int) := by rw [show (f : Int) - (dim (p + 1) x : Int) = ((f - dim (p + 1) x : Nat) : Int) by omega]; exact IntWalk.i64_in _ (by omega)
        have HLE := Lib.hid hle
        clear hle hf1 hdm hrb hfr
        gi_wp2
        have hbd2 := HBD1.out.set 2 (.int .i64 ((f - dim (p + 1) x : Nat) : Int))
        have hbb2 := boxed_other (boxed_other HBB.out (show B ≠ D by omega) 1 (.int .i64 (x : Int))) (show B ≠ D by omega) 2 (.int .i64 ((f - dim (p + 1) x : Nat) : Int))
        have hle2 := HLE.out
        have hf2 := HF.out
        refine ⟨((KeepsOthers.setCell _ _ _).trans (KeepsOthers.setCell _ _ _)).from _, ?_, ⟨⟨(x : Int), f - dim (p + 1) x, hbd2, by omega, by rw [sumD_snoc]; omega⟩, (HBR.out.other (by omega) _ _).other (by omega) _ _, hbb2, (HBL.out.setCell (p := ⟨D, 1, none⟩) (by simp; omega) _).setCell (p := ⟨D, 2, none⟩) (by simp; omega) _⟩⟩
        exact hbb2.cell.trans HBB.out.cell.symm
    case done =>
      rintro DD ys W hDD hys ⟨⟨mm, f, bd, hf1, hf⟩, br, bb, hb⟩ hK
      exfalso
      subst hys
      rw [sumD_upTo _ 12 (by omega), cum13, HR2.out] at hf
      have h1 := cum_succ (p + 1) m HD.out.m1 HD.out.m12
      have h2 := cum_le (p + 1) (show m + 1 ≤ 13 by have := HD.out.m12; omega)
      have h3 := HD.out.kd
      have h4 := HD.out.k1
      omega
    case stop =>
      rintro DD c pre W hDD ⟨r', hpre⟩ ⟨rfl, ⟨p', x, f, rfl, bd, hf1, hf, hfx⟩, br, hb⟩ hK
      obtain ⟨hp1, hp2⟩ := upTo_of_prefix hpre
      rw [List.length_append, List.length_cons, List.length_nil, Nat.zero_add] at hp1 hp2
      rw [upTo_succ] at hp1
      obtain ⟨hp3, hp4⟩ := List.append_inj hp1 (by rw [upTo_length])
      obtain rfl : x = p'.length + 1 := by simpa using hp4
      have hfin : p'.length + 1 = m ∧ f = k := by
        rw [hp3, sumD_upTo _ _ (by omega), HR2.out] at hf
        have h1 := HD.out
        have h2 := h1.k1
        exact cum_uniq (y := p + 1) (by omega) hp2 h1.m1 h1.m12 hf1 h1.k1 hfx h1.kd (by omega)
      have c0 := bd.cell (i := 0) rfl
      have c1 := bd.cell (i := 1) rfl
      have c2 := bd.cell (i := 2) rfl
      rw [show ((p'.length + 1 : Nat) : Int) = (m : Int) by omega] at c1
      rw [show (f : Int) = (k : Int) by omega] at c2
      have r0 := br.cell (i := 0) rfl
      have r1 := br.cell (i := 1) rfl
      have r2 := br.cell (i := 2) rfl
      have fr0 := br.frozen 0
      have fr1 := br.frozen 1
      have fr2 := br.frozen 2
      have HB := Lib.hid hb
      have HBR := Lib.hid br
      have HK := Lib.hid hK
      have hne : ¬ DD = w.heap.size + 1 := by omega
      clear hpre hp1 hp2 hp3 hp4 hf hf1 hfx hfin bd hK hb br
      gi_wp2
      have q1 := grown_set W (w.heap.size + 1) 0 (.int .i64 ((p : Int) + 1))
      have q2 := grown_set (W.setCell ⟨w.heap.size + 1, 0, none⟩ (.int .i64 ((p : Int) + 1))) (w.heap.size + 1) 1 (.int .i64 (m : Int))
      have q3 := grown_set ((W.setCell ⟨w.heap.size + 1, 0, none⟩ (.int .i64 ((p : Int) + 1))).setCell ⟨w.heap.size + 1, 1, none⟩ (.int .i64 (m : Int))) (w.heap.size + 1) 2 (.int .i64 (k : Int))
      have hDD2 : DD < W.heap.size := (Array.getElem?_eq_some_iff.1 HK.out).1
      have k1 := (q1.block DD hDD2 (by simpa using hne)).trans HK.out
      have k2 := (q2.block DD (Nat.lt_of_lt_of_le hDD2 q1.size) (by simpa using hne)).trans k1
      have k3 := (q3.block DD (Nat.lt_of_lt_of_le hDD2 (Nat.le_trans q1.size q2.size)) (by simpa using hne)).trans k2
      have br3 := ((HBR.out.set 0 (.int .i64 ((p : Int) + 1))).set 1 (.int .i64 (m : Int))).set 2 (.int .i64 (k : Int))
      have hb3 := ((HB.out.setCell (p := ⟨w.heap.size + 1, 0, none⟩) (by simp) (.int .i64 ((p : Int) + 1))).setCell (p := ⟨w.heap.size + 1, 1, none⟩) (by simp) (.int .i64 (m : Int))).setCell (p := ⟨w.heap.size + 1, 2, none⟩) (by simp) (.int .i64 (k : Int))
      obtain ⟨W3, hW3⟩ : ∃ W3, W3 = ((W.setCell ⟨w.heap.size + 1, 0, none⟩ (.int .i64 ((p : Int) + 1))).setCell ⟨w.heap.size + 1, 1, none⟩ (.int .i64 (m : Int))).setCell ⟨w.heap.size + 1, 2, none⟩ (.int .i64 (k : Int)) := ⟨_, rfl⟩
      rw [← hW3] at k3 br3 hb3 ⊢
      have brp : BoxC (W3.putObj DD (.deferred none)) (w.heap.size + 1) 70 #[.int .i64 ((p : Int) + 1), .int .i64 (m : Int), .int .i64 (k : Int)] := (World.putObj_heap_other (by simp; omega)).trans br3
      have z0 := brp.cell (i := 0) rfl
      have z1 := brp.cell (i := 1) rfl
      have z2 := brp.cell (i := 2) rfl
      have HBF := Lib.hid (hb3.trans (below_keepsK w W3 DD _ (.deferred none) (by omega) k3 rfl))
      try rw [Exit.noGoto_ret]
      refine ⟨by simp, .inl ⟨_, _, rfl, run_takeDeferred k3, ?_⟩⟩
      refine ⟨.agg #[.int .i64 ((p : Int) + 1), .int .i64 (m : Int), .int .i64 (k : Int)], by simp [results, Tryz.results52, go_sem, z0, z1, z2], ?_, HBF.out⟩
      rw [show ((p + 1 : Nat) : Int) = (p : Int) + 1 by omega]
  · obtain ⟨W1, hW1⟩ : ∃ W1, W1 = ((W0.alloc (.cells #[.int .i64 ((p : Int) + 1), .int .i64 1, .int .i64 ((r : Int) + 1)] 70)).alloc (.cells #[.int .i64 ((p : Int) + 1), .int .i64 1, .int .i64 ((r : Int) + 1)] 70)).drew := ⟨_, rfl⟩
    rw [← hW1]
    have hz1 : W1.heap.size = w.heap.size + 1 + 1 + 1 + 1 := by rw [hW1]; simp [hz0]
    have bD1 : BoxC W1 (w.heap.size + 1 + 1) 70 #[.int .i64 ((p : Int) + 1), .int .i64 1, .int .i64 ((r : Int) + 1)] := by
      rw [hW1, ← hz0]; exact (BoxC.new _ _ _).alloc _
    have bD2 : BoxC W1 (w.heap.size + 1 + 1 + 1) 70 #[.int .i64 ((p : Int) + 1), .int .i64 1, .int .i64 ((r : Int) + 1)] := by
      rw [hW1, ← hz0]; have := BoxC.new (W0.alloc (.cells #[.int .i64 ((p : Int) + 1), .int .i64 1, .int .i64 ((r : Int) + 1)] 70)) 70 #[.int .i64 ((p : Int) + 1), .int .i64 1, .int .i64 ((r : Int) + 1)]; rwa [World.size_alloc] at this
    have bR1 : BoxC W1 (w.heap.size + 1) 70 #[.int .i64 0, .int .i64 0, .int .i64 0] := by
      rw [hW1]; exact ((HBR.out).alloc _).alloc _
    have HB1 : Below w.heap.size w W1 := by rw [hW1]; exact Bl.drew (Bl.alloc (Bl.alloc HB0.out _) _)
    obtain ⟨D, hD⟩ : ∃ D, D = w.heap.size + 1 + 1 := ⟨_, rfl⟩
    rw [← hD]
    have bD : BoxC W1 D 70 #[.int .i64 ((p : Int) + 1), .int .i64 1, .int .i64 ((r : Int) + 1)] := by rw [hD]; assumption
    have hDlt : w.heap.size + 1 < D ∧ D < W1.heap.size := by omega
    clear hD
    have cD := bD.cell (i := 0) rfl
    have HZ1 := Lib.hid hz1
    clear hW1 bD1 bD2 c0 hz1
    gi_wp2
    refine wpIn_label ?_
    gi_wp2_with (refine ⟨trivial, ?_⟩; gi_at_call 86; refine CallsIn.mono (callsIn_wide.2 (months_any _ _)) ?_; rintro e w4 ⟨rfl, rfl⟩)
    obtain ⟨B, hBe⟩ : ∃ B, B = W1.heap.size := ⟨_, rfl⟩
    have bB := Boxed.new W1 3 (.int .i64 ((p : Int) + 1))
    have hzz := World.size_alloc W1 (.cells #[.int .i64 ((p : Int) + 1)] 3)
    obtain ⟨W2, hW2⟩ : ∃ W2, W2 = W1.alloc (.cells #[.int .i64 ((p : Int) + 1)] 3) := ⟨_, rfl⟩
    have bD' := bD.alloc (.cells #[.int .i64 ((p : Int) + 1)] 3)
    have bR' := bR1.alloc (.cells #[.int .i64 ((p : Int) + 1)] 3)
    have HB2 := Bl.alloc HB1 (.cells #[.int .i64 ((p : Int) + 1)] 3)
    rw [← hW2] at bB bD' bR' HB2 hzz ⊢
    rw [← hBe] at bB hzz ⊢
    have hz1 := HZ1.out
    have hST := fun W' hW' => months_stops B (p + 1) 0 W2 (by rw [show ((p + 1 : Nat) : Int) = (p : Int) + 1 by omega]; exact bB.cell) (by omega) W' hW'
    have HST := Lib.hid hST
    have hDB : D < B := by omega
    have hDw : w.heap.size + 1 < D := hDlt.1
    have hB2 : w.heap.size ≤ W2.heap.size := HB2.size
    have hBs : B < W2.heap.size := by omega
    clear hBe hzz hDlt hz1 HZ1 hz0
    clear hST hW2 cD bD bR1 HB1
    refine wpIn_rangeFunc_ownG rfl (by omega) (gf := 124) (lb := #[.pointer (some ⟨B, 0, none⟩)]) rfl trivial (enters_of Tryz.func124 (by kernel_rfl) rfl) (HST.out _ (Below.refl _ _)) (fun h k => k.trans h) (fun W l o o' hl _ _ _ => World.cell?_of_block (World.putObj_heap_other (by simp; omega))) (Below.refl _ _) (fun _ => rfl)
      (DayAt w (p + 1) r D B) (DayX w (p + 1) r D) (DayAt.own w (p + 1) r D B _ (by omega)) (fun c => DayX.own w (p + 1) r D _ (by omega) c)
      ⟨⟨1, r + 1, bD', by omega, rfl⟩, bR', bB, HB2⟩
      (fun x => { tmps := #[.int .i64 (d : Int), .pointer (some ⟨w.heap.size, 0, none⟩), .pointer (some ⟨w.heap.size + 1, 0, none⟩), .int .i64 ((p : Int) + 1), .pointer (some ⟨D, 0, none⟩), .int .i64 (x : Int), .int .i64 (dim (p + 1) x : Int), .func (.func 84) #[] #[.pointer (some ⟨w.heap.size, 0, none⟩)], .int .i64 ((p : Int) + 1), .int .i64 ((p : Int) + 1), .int .i64 (d : Int), .int .i64 (1 + (d : Int)), .int .i64 ((p : Int) + 1), .int .i64 (x0 : Int), .int .i64 ((r : Int) + 1), .agg #[.int .i64 ((p : Int) + 1), .int .i64 1, .int .i64 ((r : Int) + 1)], .int .i64 ((p : Int) + 1), .func (.func 124) #[] #[.pointer (some ⟨B, 0, none⟩)], .int .i64 (x : Int), .int .i64 (dim (p + 1) x : Int), undef, undef, undef, undef, undef, undef, undef, undef, undef, undef, undef, undef, undef, undef, undef, undef], defers := [] }) ?assign ?body ?done ?stop
    case assign =>
      intro l x W K hK
      gi_wp2
      exact hK
    case body =>
      rintro l pre x W ⟨⟨mm, f, bd, hf1, hf⟩, br, bb, hb⟩ hlt
      have c1 := bd.cell (i := 1) rfl
      have c2 := bd.cell (i := 2) rfl
      have f1 := bd.frozen 1
      have f2 := bd.frozen 2
      have hdm := dim_pos (p + 1) x
      have hrb := HRB.out
      have bd1 := bd.set 1 (.int .i64 (x : Int))
      have e2 := bd1.cell (i := 2) rfl
      have g2 := bd1.frozen 2
      have hfr : f ≤ 4000001 := by omega
      have HF := Lib.hid hf
      have HF1 := Lib.hid hf1
      have HBD1 := Lib.hid bd1
      have HBR := Lib.hid br
      have HBB := Lib.hid bb
      have HBL := Lib.hid hb
      clear bd bd1 br bb hb hf
      by_cases hle : f ≤ dim (p + 1) x
      · have hle' : (f : Int) ≤ (dim (p + 1) x : Int) := by omega
        have HLE := Lib.hid hle
        clear hle hf1 hdm hrb hfr
        gi_wp2
        have hbb := HBB.out
        refine ⟨(KeepsOthers.setCell _ _ _).from _, rfl, ⟨pre, x, f, rfl, HBD1.out, ?_, HF.out, HLE.out⟩, HBR.out.other (by omega) _ _, HBL.out.setCell (p := ⟨D, 1, none⟩) (by simp; omega) _⟩
        exact HF1.out
      · have hle' : ¬ (f : Int) ≤ (dim (p + 1) x : Int) := by omega
        have hsb : IntKind.i64.wrap ((f : Int) - (dim (p + 1) x : Int)) = ((f - dim (p + 1) x : Nat) : Int) := by rw [show (f : Int) - (dim (p + 1) x : Int) = ((f - dim (p + 1) x : Nat) : Int) by omega]; exact IntWalk.i64_in _ (by omega)
        have HLE := Lib.hid hle
        clear hle hf1 hdm hrb hfr
        gi_wp2
        have hbd2 := HBD1.out.set 2 (.int .i64 ((f - dim (p + 1) x : Nat) : Int))
        have hbb2 := boxed_other (boxed_other HBB.out (show B ≠ D by omega) 1 (.int .i64 (x : Int))) (show B ≠ D by omega) 2 (.int .i64 ((f - dim (p + 1) x : Nat) : Int))
        have hle2 := HLE.out
        have hf2 := HF.out
        refine ⟨((KeepsOthers.setCell _ _ _).trans (KeepsOthers.setCell _ _ _)).from _, ?_, ⟨⟨(x : Int), f - dim (p + 1) x, hbd2, by omega, by rw [sumD_snoc]; omega⟩, (HBR.out.other (by omega) _ _).other (by omega) _ _, hbb2, (HBL.out.setCell (p := ⟨D, 1, none⟩) (by simp; omega) _).setCell (p := ⟨D, 2, none⟩) (by simp; omega) _⟩⟩
        exact hbb2.cell.trans HBB.out.cell.symm
    case done =>
      rintro DD ys W hDD hys ⟨⟨mm, f, bd, hf1, hf⟩, br, bb, hb⟩ hK
      exfalso
      subst hys
      rw [sumD_upTo _ 12 (by omega), cum13, HR2.out] at hf
      have h1 := cum_succ (p + 1) m HD.out.m1 HD.out.m12
      have h2 := cum_le (p + 1) (show m + 1 ≤ 13 by have := HD.out.m12; omega)
      have h3 := HD.out.kd
      have h4 := HD.out.k1
      omega
    case stop =>
      rintro DD c pre W hDD ⟨r', hpre⟩ ⟨rfl, ⟨p', x, f, rfl, bd, hf1, hf, hfx⟩, br, hb⟩ hK
      obtain ⟨hp1, hp2⟩ := upTo_of_prefix hpre
      rw [List.length_append, List.length_cons, List.length_nil, Nat.zero_add] at hp1 hp2
      rw [upTo_succ] at hp1
      obtain ⟨hp3, hp4⟩ := List.append_inj hp1 (by rw [upTo_length])
      obtain rfl : x = p'.length + 1 := by simpa using hp4
      have hfin : p'.length + 1 = m ∧ f = k := by
        rw [hp3, sumD_upTo _ _ (by omega), HR2.out] at hf
        have h1 := HD.out
        have h2 := h1.k1
        exact cum_uniq (y := p + 1) (by omega) hp2 h1.m1 h1.m12 hf1 h1.k1 hfx h1.kd (by omega)
      have c0 := bd.cell (i := 0) rfl
      have c1 := bd.cell (i := 1) rfl
      have c2 := bd.cell (i := 2) rfl
      rw [show ((p'.length + 1 : Nat) : Int) = (m : Int) by omega] at c1
      rw [show (f : Int) = (k : Int) by omega] at c2
      have r0 := br.cell (i := 0) rfl
      have r1 := br.cell (i := 1) rfl
      have r2 := br.cell (i := 2) rfl
      have fr0 := br.frozen 0
      have fr1 := br.frozen 1
      have fr2 := br.frozen 2
      have HB := Lib.hid hb
      have HBR := Lib.hid br
      have HK := Lib.hid hK
      have hne : ¬ DD = w.heap.size + 1 := by omega
      clear hpre hp1 hp2 hp3 hp4 hf hf1 hfx hfin bd hK hb br
      gi_wp2
      have q1 := grown_set W (w.heap.size + 1) 0 (.int .i64 ((p : Int) + 1))
      have q2 := grown_set (W.setCell ⟨w.heap.size + 1, 0, none⟩ (.int .i64 ((p : Int) + 1))) (w.heap.size + 1) 1 (.int .i64 (m : Int))
      have q3 := grown_set ((W.setCell ⟨w.heap.size + 1, 0, none⟩ (.int .i64 ((p : Int) + 1))).setCell ⟨w.heap.size + 1, 1, none⟩ (.int .i64 (m : Int))) (w.heap.size + 1) 2 (.int .i64 (k : Int))
      have hDD2 : DD < W.heap.size := (Array.getElem?_eq_some_iff.1 HK.out).1
      have k1 := (q1.block DD hDD2 (by simpa using hne)).trans HK.out
      have k2 := (q2.block DD (Nat.lt_of_lt_of_le hDD2 q1.size) (by simpa using hne)).trans k1
      have k3 := (q3.block DD (Nat.lt_of_lt_of_le hDD2 (Nat.le_trans q1.size q2.size)) (by simpa using hne)).trans k2
      have br3 := ((HBR.out.set 0 (.int .i64 ((p : Int) + 1))).set 1 (.int .i64 (m : Int))).set 2 (.int .i64 (k : Int))
      have hb3 := ((HB.out.setCell (p := ⟨w.heap.size + 1, 0, none⟩) (by simp) (.int .i64 ((p : Int) + 1))).setCell (p := ⟨w.heap.size + 1, 1, none⟩) (by simp) (.int .i64 (m : Int))).setCell (p := ⟨w.heap.size + 1, 2, none⟩) (by simp) (.int .i64 (k : Int))
      obtain ⟨W3, hW3⟩ : ∃ W3, W3 = ((W.setCell ⟨w.heap.size + 1, 0, none⟩ (.int .i64 ((p : Int) + 1))).setCell ⟨w.heap.size + 1, 1, none⟩ (.int .i64 (m : Int))).setCell ⟨w.heap.size + 1, 2, none⟩ (.int .i64 (k : Int)) := ⟨_, rfl⟩
      rw [← hW3] at k3 br3 hb3 ⊢
      have brp : BoxC (W3.putObj DD (.deferred none)) (w.heap.size + 1) 70 #[.int .i64 ((p : Int) + 1), .int .i64 (m : Int), .int .i64 (k : Int)] := (World.putObj_heap_other (by simp; omega)).trans br3
      have z0 := brp.cell (i := 0) rfl
      have z1 := brp.cell (i := 1) rfl
      have z2 := brp.cell (i := 2) rfl
      have HBF := Lib.hid (hb3.trans (below_keepsK w W3 DD _ (.deferred none) (by omega) k3 rfl))
      try rw [Exit.noGoto_ret]
      refine ⟨by simp, .inl ⟨_, _, rfl, run_takeDeferred k3, ?_⟩⟩
      refine ⟨.agg #[.int .i64 ((p : Int) + 1), .int .i64 (m : Int), .int .i64 (k : Int)], by simp [results, Tryz.results52, go_sem, z0, z1, z2], ?_, HBF.out⟩
      rw [show ((p + 1 : Nat) : Int) = (p : Int) + 1 by omega]
  · obtain ⟨W1, hW1⟩ : ∃ W1, W1 = ((W0.alloc (.cells #[.int .i64 ((p : Int) + 1), .int .i64 1, .int .i64 ((r : Int) + 1)] 70)).alloc (.cells #[.int .i64 ((p : Int) + 1), .int .i64 1, .int .i64 ((r : Int) + 1)] 70)).drew := ⟨_, rfl⟩
    rw [← hW1]
    have hz1 : W1.heap.size = w.heap.size + 1 + 1 + 1 + 1 := by rw [hW1]; simp [hz0]
    have bD1 : BoxC W1 (w.heap.size + 1 + 1) 70 #[.int .i64 ((p : Int) + 1), .int .i64 1, .int .i64 ((r : Int) + 1)] := by
      rw [hW1, ← hz0]; exact (BoxC.new _ _ _).alloc _
    have bD2 : BoxC W1 (w.heap.size + 1 + 1 + 1) 70 #[.int .i64 ((p : Int) + 1), .int .i64 1, .int .i64 ((r : Int) + 1)] := by
      rw [hW1, ← hz0]; have := BoxC.new (W0.alloc (.cells #[.int .i64 ((p : Int) + 1), .int .i64 1, .int .i64 ((r : Int) + 1)] 70)) 70 #[.int .i64 ((p : Int) + 1), .int .i64 1, .int .i64 ((r : Int) + 1)]; rwa [World.size_alloc] at this
    have bR1 : BoxC W1 (w.heap.size + 1) 70 #[.int .i64 0, .int .i64 0, .int .i64 0] := by
      rw [hW1]; exact ((HBR.out).alloc _).alloc _
    have HB1 : Below w.heap.size w W1 := by rw [hW1]; exact Bl.drew (Bl.alloc (Bl.alloc HB0.out _) _)
    obtain ⟨D, hD⟩ : ∃ D, D = w.heap.size + 1 + 1 := ⟨_, rfl⟩
    rw [← hD]
    have bD : BoxC W1 D 70 #[.int .i64 ((p : Int) + 1), .int .i64 1, .int .i64 ((r : Int) + 1)] := by rw [hD]; assumption
    have hDlt : w.heap.size + 1 < D ∧ D < W1.heap.size := by omega
    clear hD
    have cD := bD.cell (i := 0) rfl
    have HZ1 := Lib.hid hz1
    clear hW1 bD1 bD2 c0 hz1
    gi_wp2
    refine wpIn_label ?_
    gi_wp2_with (refine ⟨trivial, ?_⟩; gi_at_call 86; refine CallsIn.mono (callsIn_wide.2 (months_any _ _)) ?_; rintro e w4 ⟨rfl, rfl⟩)
    obtain ⟨B, hBe⟩ : ∃ B, B = W1.heap.size := ⟨_, rfl⟩
    have bB := Boxed.new W1 3 (.int .i64 ((p : Int) + 1))
    have hzz := World.size_alloc W1 (.cells #[.int .i64 ((p : Int) + 1)] 3)
    obtain ⟨W2, hW2⟩ : ∃ W2, W2 = W1.alloc (.cells #[.int .i64 ((p : Int) + 1)] 3) := ⟨_, rfl⟩
    have bD' := bD.alloc (.cells #[.int .i64 ((p : Int) + 1)] 3)
    have bR' := bR1.alloc (.cells #[.int .i64 ((p : Int) + 1)] 3)
    have HB2 := Bl.alloc HB1 (.cells #[.int .i64 ((p : Int) + 1)] 3)
    rw [← hW2] at bB bD' bR' HB2 hzz ⊢
    rw [← hBe] at bB hzz ⊢
    have hz1 := HZ1.out
    have hST := fun W' hW' => months_stops B (p + 1) 0 W2 (by rw [show ((p + 1 : Nat) : Int) = (p : Int) + 1 by omega]; exact bB.cell) (by omega) W' hW'
    have HST := Lib.hid hST
    have hDB : D < B := by omega
    have hDw : w.heap.size + 1 < D := hDlt.1
    have hB2 : w.heap.size ≤ W2.heap.size := HB2.size
    have hBs : B < W2.heap.size := by omega
    clear hBe hzz hDlt hz1 HZ1 hz0
    clear hST hW2 cD bD bR1 HB1
    refine wpIn_rangeFunc_ownG rfl (by omega) (gf := 124) (lb := #[.pointer (some ⟨B, 0, none⟩)]) rfl trivial (enters_of Tryz.func124 (by kernel_rfl) rfl) (HST.out _ (Below.refl _ _)) (fun h k => k.trans h) (fun W l o o' hl _ _ _ => World.cell?_of_block (World.putObj_heap_other (by simp; omega))) (Below.refl _ _) (fun _ => rfl)
      (DayAt w (p + 1) r D B) (DayX w (p + 1) r D) (DayAt.own w (p + 1) r D B _ (by omega)) (fun c => DayX.own w (p + 1) r D _ (by omega) c)
      ⟨⟨1, r + 1, bD', by omega, rfl⟩, bR', bB, HB2⟩
      (fun x => { tmps := #[.int .i64 (d : Int), .pointer (some ⟨w.heap.size, 0, none⟩), .pointer (some ⟨w.heap.size + 1, 0, none⟩), .int .i64 ((p : Int) + 1), .pointer (some ⟨D, 0, none⟩), .int .i64 (x : Int), .int .i64 (dim (p + 1) x : Int), .func (.func 84) #[] #[.pointer (some ⟨w.heap.size, 0, none⟩)], .int .i64 ((p : Int) + 1), .int .i64 ((p : Int) + 1), .int .i64 (d : Int), .int .i64 (1 + (d : Int)), .int .i64 ((p : Int) + 1), .int .i64 (x0 : Int), .int .i64 ((r : Int) + 1), .agg #[.int .i64 ((p : Int) + 1), .int .i64 1, .int .i64 ((r : Int) + 1)], .int .i64 ((p : Int) + 1), .func (.func 124) #[] #[.pointer (some ⟨B, 0, none⟩)], .int .i64 (x : Int), .int .i64 (dim (p + 1) x : Int), undef, undef, undef, undef, undef, undef, undef, undef, undef, undef, undef, undef, undef, undef, undef, undef], defers := [] }) ?assign ?body ?done ?stop
    case assign =>
      intro l x W K hK
      gi_wp2
      exact hK
    case body =>
      rintro l pre x W ⟨⟨mm, f, bd, hf1, hf⟩, br, bb, hb⟩ hlt
      have c1 := bd.cell (i := 1) rfl
      have c2 := bd.cell (i := 2) rfl
      have f1 := bd.frozen 1
      have f2 := bd.frozen 2
      have hdm := dim_pos (p + 1) x
      have hrb := HRB.out
      have bd1 := bd.set 1 (.int .i64 (x : Int))
      have e2 := bd1.cell (i := 2) rfl
      have g2 := bd1.frozen 2
      have hfr : f ≤ 4000001 := by omega
      have HF := Lib.hid hf
      have HF1 := Lib.hid hf1
      have HBD1 := Lib.hid bd1
      have HBR := Lib.hid br
      have HBB := Lib.hid bb
      have HBL := Lib.hid hb
      clear bd bd1 br bb hb hf
      by_cases hle : f ≤ dim (p + 1) x
      · have hle' : (f : Int) ≤ (dim (p + 1) x : Int) := by omega
        have HLE := Lib.hid hle
        clear hle hf1 hdm hrb hfr
        gi_wp2
        have hbb := HBB.out
        refine ⟨(KeepsOthers.setCell _ _ _).from _, rfl, ⟨pre, x, f, rfl, HBD1.out, ?_, HF.out, HLE.out⟩, HBR.out.other (by omega) _ _, HBL.out.setCell (p := ⟨D, 1, none⟩) (by simp; omega) _⟩
        exact HF1.out
      · have hle' : ¬ (f : Int) ≤ (dim (p + 1) x : Int) := by omega
        have hsb : IntKind.i64.wrap ((f : Int) - (dim (p + 1) x : Int)) = ((f - dim (p + 1) x : Nat) : Int) := by rw [show (f : Int) - (dim (p + 1) x : Int) = ((f - dim (p + 1) x : Nat) : Int) by omega]; exact IntWalk.i64_in _ (by omega)
        have HLE := Lib.hid hle
        clear hle hf1 hdm hrb hfr
        gi_wp2
        have hbd2 := HBD1.out.set 2 (.int .i64 ((f - dim (p + 1) x : Nat) : Int))
        have hbb2 := boxed_other (boxed_other HBB.out (show B ≠ D by omega) 1 (.int .i64 (x : Int))) (show B ≠ D by omega) 2 (.int .i64 ((f - dim (p + 1) x : Nat) : Int))
        have hle2 := HLE.out
        have hf2 := HF.out
        refine ⟨((KeepsOthers.setCell _ _ _).trans (KeepsOthers.setCell _ _ _)).from _, ?_, ⟨⟨(x : Int), f - dim (p + 1) x, hbd2, by omega, by rw [sumD_snoc]; omega⟩, (HBR.out.other (by omega) _ _).other (by omega) _ _, hbb2, (HBL.out.setCell (p := ⟨D, 1, none⟩) (by simp; omega) _).setCell (p := ⟨D, 2, none⟩) (by simp; omega) _⟩⟩
        exact hbb2.cell.trans HBB.out.cell.symm
    case done =>
      rintro DD ys W hDD hys ⟨⟨mm, f, bd, hf1, hf⟩, br, bb, hb⟩ hK
      exfalso
      subst hys
      rw [sumD_upTo _ 12 (by omega), cum13, HR2.out] at hf
      have h1 := cum_succ (p + 1) m HD.out.m1 HD.out.m12
      have h2 := cum_le (p + 1) (show m + 1 ≤ 13 by have := HD.out.m12; omega)
      have h3 := HD.out.kd
      have h4 := HD.out.k1
      omega
    case stop =>
      rintro DD c pre W hDD ⟨r', hpre⟩ ⟨rfl, ⟨p', x, f, rfl, bd, hf1, hf, hfx⟩, br, hb⟩ hK
      obtain ⟨hp1, hp2⟩ := upTo_of_prefix hpre
      rw [List.length_append, List.length_cons, List.length_nil, Nat.zero_add] at hp1 hp2
      rw [upTo_succ] at hp1
      obtain ⟨hp3, hp4⟩ := List.append_inj hp1 (by rw [upTo_length])
      obtain rfl : x = p'.length + 1 := by simpa using hp4
      have hfin : p'.length + 1 = m ∧ f = k := by
        rw [hp3, sumD_upTo _ _ (by omega), HR2.out] at hf
        have h1 := HD.out
        have h2 := h1.k1
        exact cum_uniq (y := p + 1) (by omega) hp2 h1.m1 h1.m12 hf1 h1.k1 hfx h1.kd (by omega)
      have c0 := bd.cell (i := 0) rfl
      have c1 := bd.cell (i := 1) rfl
      have c2 := bd.cell (i := 2) rfl
      rw [show ((p'.length + 1 : Nat) : Int) = (m : Int) by omega] at c1
      rw [show (f : Int) = (k : Int) by omega] at c2
      have r0 := br.cell (i := 0) rfl
      have r1 := br.cell (i := 1) rfl
      have r2 := br.cell (i := 2) rfl
      have fr0 := br.frozen 0
      have fr1 := br.frozen 1
      have fr2 := br.frozen 2
      have HB := Lib.hid hb
      have HBR := Lib.hid br
      have HK := Lib.hid hK
      have hne : ¬ DD = w.heap.size + 1 := by omega
      clear hpre hp1 hp2 hp3 hp4 hf hf1 hfx hfin bd hK hb br
      gi_wp2
      have q1 := grown_set W (w.heap.size + 1) 0 (.int .i64 ((p : Int) + 1))
      have q2 := grown_set (W.setCell ⟨w.heap.size + 1, 0, none⟩ (.int .i64 ((p : Int) + 1))) (w.heap.size + 1) 1 (.int .i64 (m : Int))
      have q3 := grown_set ((W.setCell ⟨w.heap.size + 1, 0, none⟩ (.int .i64 ((p : Int) + 1))).setCell ⟨w.heap.size + 1, 1, none⟩ (.int .i64 (m : Int))) (w.heap.size + 1) 2 (.int .i64 (k : Int))
      have hDD2 : DD < W.heap.size := (Array.getElem?_eq_some_iff.1 HK.out).1
      have k1 := (q1.block DD hDD2 (by simpa using hne)).trans HK.out
      have k2 := (q2.block DD (Nat.lt_of_lt_of_le hDD2 q1.size) (by simpa using hne)).trans k1
      have k3 := (q3.block DD (Nat.lt_of_lt_of_le hDD2 (Nat.le_trans q1.size q2.size)) (by simpa using hne)).trans k2
      have br3 := ((HBR.out.set 0 (.int .i64 ((p : Int) + 1))).set 1 (.int .i64 (m : Int))).set 2 (.int .i64 (k : Int))
      have hb3 := ((HB.out.setCell (p := ⟨w.heap.size + 1, 0, none⟩) (by simp) (.int .i64 ((p : Int) + 1))).setCell (p := ⟨w.heap.size + 1, 1, none⟩) (by simp) (.int .i64 (m : Int))).setCell (p := ⟨w.heap.size + 1, 2, none⟩) (by simp) (.int .i64 (k : Int))
      obtain ⟨W3, hW3⟩ : ∃ W3, W3 = ((W.setCell ⟨w.heap.size + 1, 0, none⟩ (.int .i64 ((p : Int) + 1))).setCell ⟨w.heap.size + 1, 1, none⟩ (.int .i64 (m : Int))).setCell ⟨w.heap.size + 1, 2, none⟩ (.int .i64 (k : Int)) := ⟨_, rfl⟩
      rw [← hW3] at k3 br3 hb3 ⊢
      have brp : BoxC (W3.putObj DD (.deferred none)) (w.heap.size + 1) 70 #[.int .i64 ((p : Int) + 1), .int .i64 (m : Int), .int .i64 (k : Int)] := (World.putObj_heap_other (by simp; omega)).trans br3
      have z0 := brp.cell (i := 0) rfl
      have z1 := brp.cell (i := 1) rfl
      have z2 := brp.cell (i := 2) rfl
      have HBF := Lib.hid (hb3.trans (below_keepsK w W3 DD _ (.deferred none) (by omega) k3 rfl))
      try rw [Exit.noGoto_ret]
      refine ⟨by simp, .inl ⟨_, _, rfl, run_takeDeferred k3, ?_⟩⟩
      refine ⟨.agg #[.int .i64 ((p : Int) + 1), .int .i64 (m : Int), .int .i64 (k : Int)], by simp [results, Tryz.results52, go_sem, z0, z1, z2], ?_, HBF.out⟩
      rw [show ((p + 1 : Nat) : Int) = (p : Int) + 1 by omega]
end Go.Proofs.YtmjifmlibgpjiaaGreatDoor
