/- Compare. -/
import Derived.Test.YtoilgjlbpimcpaaDoorQc
import Derived.Test.YtoilgjlbpimcpaaDoorZb
import Derived.Shelf.RegionOpen
namespace Go.Proofs.YtoilgjlbpimcpaaDoor
open Go.RowKit Go.Shelf Tx
set_option linter.unusedVariables false
set_option maxRecDepth 100000
attribute [local go_sem] Oper.semAt_some

/-- The boxes of the results. -/
def Q2 (B : Nat) (W : World) : Prop := Boxed W B 3 (.int .i64 0) ∧ Boxed W (B + 1) 24 (.int .i64 0)
theorem Q2.new (w : World) : Q2 w.heap.size ((w.alloc (.cells #[.int .i64 0] 3)).alloc (.cells #[.int .i64 0] 24)) := by
  have h1 := (Boxed.new w 3 (.int .i64 0)).alloc (.cells #[.int .i64 0] 24)
  have h2 := Boxed.new (w.alloc (.cells #[.int .i64 0] 3)) 24 (.int .i64 0)
  simp only [World.size_alloc] at h1 h2
  exact ⟨h1, h2⟩
theorem Q2.below {B n : Nat} {W W' : World} (h : Q2 B W) (hb : Below n W W') (hn : B + 1 < n) : Q2 B W' := ⟨(hb.block B (by omega)).trans h.1, (hb.block (B + 1) (by omega)).trans h.2⟩
theorem Q2.lt {B : Nat} {W : World} (h : Q2 B W) : B + 1 < W.heap.size := h.2.lt
theorem Q2.step {B : Nat} {W W' : World} (h : Q2 B W) (hb : Below W.heap.size W W') : Q2 B W' := h.below hb h.lt
theorem Q2.alloc {B : Nat} {W : World} (h : Q2 B W) (o : Obj) : Q2 B (W.alloc o) := h.step ((Below.refl _ _).alloc (Nat.le_refl _) o)
theorem Q2.facts {B : Nat} {W : World} (h : Q2 B W) : W.cell? ⟨B, 0, none⟩ = some (.int .i64 0) ∧ W.cell? ⟨B + 1, 0, none⟩ = some (.int .i64 0) ∧ W.frozen? ⟨B, 0, none⟩ = false ∧ W.frozen? ⟨B + 1, 0, none⟩ = false :=
  ⟨h.1.cell, h.2.cell, h.1.frozen, h.2.frozen⟩
theorem Q2.set {B : Nat} {W : World} (h : Q2 B W) (x y : Value) : Boxed ((W.setCell ⟨B, 0, none⟩ x).setCell ⟨B + 1, 0, none⟩ y) B 3 x ∧ Boxed ((W.setCell ⟨B, 0, none⟩ x).setCell ⟨B + 1, 0, none⟩ y) (B + 1) 24 y := by
  obtain ⟨h1, h2⟩ := h
  unfold Boxed at *
  constructor <;> simp [World.setCell, Array.getElem?_modify, h1, h2]
theorem Q2.fin {w W : World} (hb : Below w.heap.size w W) (x y : Value) : Below w.heap.size w ((W.setCell ⟨w.heap.size, 0, none⟩ x).setCell ⟨w.heap.size + 1, 0, none⟩ y) :=
  (hb.setCell (p := ⟨w.heap.size, 0, none⟩) (by simp) _).setCell (p := ⟨w.heap.size + 1, 0, none⟩) (by simp) _

namespace Tx
theorem idx_at {α : Type} {P : List α} {i j : Nat} {x : α} (h : (idx P)[i]? = some (j, x)) : j = i ∧ P[i]? = some x := by
  unfold idx at h
  rw [List.getElem?_map, List.getElem?_zipIdx] at h
  cases hp : P[i]? with
  | none => rw [hp] at h; cases h
  | some y => rw [hp] at h; simp at h; exact ⟨by omega, by rw [h.2]⟩
theorem cmpF_at {P : List Bool} {q r : List (Nat × Bool)} {k : Nat} (h : (q ++ [(k, true)]) ++ r = idx P) (hq : ∀ x ∈ q, x.2 = false) : k = q.length ∧ k < P.length ∧ cmpF P 0 = (k : Int) + 1 := by
  have h1 : (idx P)[q.length]? = some (k, true) := by rw [← h]; simp
  obtain ⟨e, _⟩ := idx_at h1
  have h2 := congrArg (List.map (fun x : Nat × Bool => x.2)) h
  rw [idx_snd, List.map_append, List.map_append] at h2
  have hl : q.length < P.length := by rw [← h2]; simp
  refine ⟨e, by omega, ?_⟩
  rw [← h2, List.append_assoc, cmpF_skip _ _ _ (by
    intro b hb
    obtain ⟨x, hx, rfl⟩ := List.mem_map.1 hb
    exact hq x hx)]
  simp [cmpF, e]
end Tx
/-- Between two rounds: no difference. -/
structure CmAt (w8 : World) (pre : List (Nat × Bool)) (W : World) : Prop where
  no : ∀ x ∈ pre, x.2 = false
  b : Below w8.heap.size w8 W
theorem CmAt.own (w8 : World) : OwnFrom w8.heap.size (CmAt w8) := by
  rintro pre X Y row ⟨h4, h5⟩ hg hrow
  exact ⟨h4, h5.grown hg h5.size (fun k e => (hrow k e).1)⟩
/-- A difference: the results are set. -/
def CmX (w : World) (c : Code) (pre : List (Nat × Bool)) (W : World) : Prop :=
  c = .ret ∧ ∃ (q : List (Nat × Bool)) (k : Nat), pre = q ++ [(k, true)] ∧ (∀ x ∈ q, x.2 = false) ∧ Boxed W w.heap.size 3 (.int .i64 (IntKind.i64.wrap ((k : Int) + 1))) ∧ Boxed W (w.heap.size + 1) 24 (.int .i64 0) ∧ Below w.heap.size w W
theorem CmX.own (w : World) (B : Nat) (hB : w.heap.size ≤ B) (c : Code) : OwnFrom B (CmX w c) := by
  rintro pre X Y row ⟨h0, q, k, h1, h2, h3, h4, h5⟩ hg hrow
  have hr := fun r e => (hrow r e).2
  exact ⟨h0, q, k, h1, h2, h3.kept hg (boxed_not_row hr h3), h4.kept hg (boxed_not_row hr h4), h5.grown hg h5.size (fun k e => Nat.le_trans hB (hrow k e).1)⟩
set_option maxHeartbeats 4000000 in
theorem Compare_any (u v : ByteArray) (x : Int) (w : World) (hsu : u.size ≤ maxLen) (hsv : v.size ≤ maxLen) :
    Calls Tryd.prog 50 #[.string u, .string v, .int .u8 x] w (GivesN w (compareR (bts u) (bts v) x)) := by
  have KVuv := fun (W : World) (pp : Nat) (hp : pp < W.heap.size) (hc : At W pp [.string u, .string v]) => Lib.hid (areValid2 pp u v W hsu hsv hp hc)
  have KPx := fun (W : World) (pp : Nat) (hc : W.cell? ⟨pp, 0, none⟩ = some (.int .u8 x)) => Lib.hid (arePads1 pp x W hc)
  cases hv0 : validL (bts u) && validL (bts v) with
  | false =>
    rw [hv0] at KVuv
    have HR := Lib.hid (show compareR (bts u) (bts v) x = (0, 1) by unfold compareR guardN; simp only [hv0, Bool.and_false, Bool.false_and, Bool.true_and, Bool.and_true]; rfl)
    clear hv0
    have KV3 := Lib.hid (KVuv (((w.alloc (.cells #[.int .i64 0] 3)).alloc (.cells #[.int .i64 0] 24)).alloc (.cells #[.string u, .string v] 9)) (w.heap.size + 1 + 1) (by simp) (by have := At.new2 ((w.alloc (.cells #[.int .i64 0] 3)).alloc (.cells #[.int .i64 0] 24)) (.string u) (.string v) 9; simpa using this)).out
    clear KVuv
    rw [← callsIn_wide (n := 3)]
    refine callsIn_of_wp_marks Tryd.func50 rfl trivial ?_ rfl
    simp only [Tryd.ntmps50, List.size_toArray, List.length_cons, List.length_nil, Nat.reduceAdd, Nat.reduceSub, Array.replicate_succ, Array.replicate_zero, List.push_toArray, List.append_toArray, List.nil_append, List.cons_append]
    gi_wp2_with (first
      | (refine ⟨trivial, ?_⟩; gi_at_call 99; (with_reducible refine CallsIn.mono (callsIn_wide.2 KV3.out) ?_); clear KV3; rintro e w1 ⟨rfl, hb1⟩; have B1 : Below w.heap.size w w1 := Bl.step (by repeat (first | assumption | exact Below.refl _ _ | refine Bl.alloc ?_ _ | refine Bl.drew ?_)) hb1; have KA3 := Lib.hid (KPx (w1.alloc (.cells #[.int .u8 x] 5)) w1.heap.size (cellAt rfl)).out; clear KPx; have HR2 := Lib.hid (((Q2.new w).alloc _).step hb1); obtain ⟨c0, c1, f0, f1⟩ := HR2.out.facts)
      | (refine ⟨trivial, ?_⟩; rename_i hKK; refine hKK _ _ ?_))
    refine ⟨.tuple #[.int .i64 0, .int .i64 1], by simp [results, Tryd.results50, go_sem, (HR2.out.set (.int .i64 0) (.int .i64 1)).1.cell, (HR2.out.set (.int .i64 0) (.int .i64 1)).2.cell], ?_⟩
    exact givesN HR.out (Q2.fin (by repeat (first | assumption | exact Below.refl _ _ | refine Bl.alloc ?_ _ | refine Bl.drew ?_)) _ _)
  | true =>
    rw [hv0] at KVuv
    cases hv1 : padI x with
    | false =>
      rw [hv1] at KPx
      have HR := Lib.hid (show compareR (bts u) (bts v) x = (0, 1) by unfold compareR guardN; simp only [hv0, hv1, Bool.and_false, Bool.false_and, Bool.true_and, Bool.and_true]; rfl)
      clear hv0 hv1
      have KV3 := Lib.hid (KVuv (((w.alloc (.cells #[.int .i64 0] 3)).alloc (.cells #[.int .i64 0] 24)).alloc (.cells #[.string u, .string v] 9)) (w.heap.size + 1 + 1) (by simp) (by have := At.new2 ((w.alloc (.cells #[.int .i64 0] 3)).alloc (.cells #[.int .i64 0] 24)) (.string u) (.string v) 9; simpa using this)).out
      clear KVuv
      rw [← callsIn_wide (n := 3)]
      refine callsIn_of_wp_marks Tryd.func50 rfl trivial ?_ rfl
      simp only [Tryd.ntmps50, List.size_toArray, List.length_cons, List.length_nil, Nat.reduceAdd, Nat.reduceSub, Array.replicate_succ, Array.replicate_zero, List.push_toArray, List.append_toArray, List.nil_append, List.cons_append]
      gi_wp2_with (first
        | (refine ⟨trivial, ?_⟩; gi_at_call 99; (with_reducible refine CallsIn.mono (callsIn_wide.2 KV3.out) ?_); clear KV3; rintro e w1 ⟨rfl, hb1⟩; have B1 : Below w.heap.size w w1 := Bl.step (by repeat (first | assumption | exact Below.refl _ _ | refine Bl.alloc ?_ _ | refine Bl.drew ?_)) hb1; have KA3 := Lib.hid (KPx (w1.alloc (.cells #[.int .u8 x] 5)) w1.heap.size (cellAt rfl)).out; clear KPx; have HR2 := Lib.hid (((Q2.new w).alloc _).step hb1); obtain ⟨c0, c1, f0, f1⟩ := HR2.out.facts)
        | (refine ⟨trivial, ?_⟩; gi_at_call 105; (with_reducible refine CallsIn.mono (callsIn_wide.2 KA3.out) ?_); clear KA3; rintro e w2 ⟨rfl, rfl⟩; have HR3 := Lib.hid (HR2.out.alloc (.cells #[.int .u8 x] 5)); clear c0 c1 f0 f1; obtain ⟨c0, c1, f0, f1⟩ := HR3.out.facts)
        | (refine ⟨trivial, ?_⟩; rename_i hKK; refine hKK _ _ ?_))
      refine ⟨.tuple #[.int .i64 0, .int .i64 1], by simp [results, Tryd.results50, go_sem, (HR3.out.set (.int .i64 0) (.int .i64 1)).1.cell, (HR3.out.set (.int .i64 0) (.int .i64 1)).2.cell], ?_⟩
      exact givesN HR.out (Q2.fin (by repeat (first | assumption | exact Below.refl _ _ | refine Bl.alloc ?_ _ | refine Bl.drew ?_)) _ _)
    | true =>
      rw [hv1] at KPx
      have hlen := valid_le (Bool.and_eq_true_iff.1 hv0).1
      have hlen2 := valid_le (Bool.and_eq_true_iff.1 hv0).2
      have hx01 : 0 ≤ x ∧ x < 256 := by
        have h := hv1
        unfold padI at h
        simp only [Bool.and_eq_true, decide_eq_true_eq] at h
        omega
      obtain ⟨P, hP⟩ : ∃ P, P = difL (bts u) (bts v) (pb x) := ⟨_, rfl⟩
      have hPl : P.length ≤ 1000 := by rw [hP, difL_length, bts_length, bts_length]; omega
      have HR0 := Lib.hid (show compareR (bts u) (bts v) x = (cmpF P 0, 0) by unfold compareR guardN; rw [hv0, hv1, hP]; rfl)
      have HP := Lib.hid hP
      clear hv0 hv1 hP
      have KV3 := Lib.hid (KVuv (((w.alloc (.cells #[.int .i64 0] 3)).alloc (.cells #[.int .i64 0] 24)).alloc (.cells #[.string u, .string v] 9)) (w.heap.size + 1 + 1) (by simp) (by have := At.new2 ((w.alloc (.cells #[.int .i64 0] 3)).alloc (.cells #[.int .i64 0] 24)) (.string u) (.string v) 9; simpa using this)).out
      clear KVuv
      rw [← callsIn_wide (n := 3)]
      refine callsIn_of_wp_marks Tryd.func50 rfl trivial ?_ rfl
      simp only [Tryd.ntmps50, List.size_toArray, List.length_cons, List.length_nil, Nat.reduceAdd, Nat.reduceSub, Array.replicate_succ, Array.replicate_zero, List.push_toArray, List.append_toArray, List.nil_append, List.cons_append]
      gi_wp2_with (first
        | (refine ⟨trivial, ?_⟩; gi_at_call 99; (with_reducible refine CallsIn.mono (callsIn_wide.2 KV3.out) ?_); clear KV3; rintro e w1 ⟨rfl, hb1⟩; have B1 : Below w.heap.size w w1 := Bl.step (by repeat (first | assumption | exact Below.refl _ _ | refine Bl.alloc ?_ _ | refine Bl.drew ?_)) hb1; have KA3 := Lib.hid (KPx (w1.alloc (.cells #[.int .u8 x] 5)) w1.heap.size (cellAt rfl)).out; clear KPx; have HR2 := Lib.hid (((Q2.new w).alloc _).step hb1); obtain ⟨c0, c1, f0, f1⟩ := HR2.out.facts)
        | (refine ⟨trivial, ?_⟩; gi_at_call 105; (with_reducible refine CallsIn.mono (callsIn_wide.2 KA3.out) ?_); clear KA3; rintro e w2 ⟨rfl, rfl⟩; have HR3 := Lib.hid (HR2.out.alloc (.cells #[.int .u8 x] 5)); clear c0 c1 f0 f1; obtain ⟨c0, c1, f0, f1⟩ := HR3.out.facts)
        | (refine ⟨trivial, ?_⟩; gi_at_call 125; (with_reducible refine CallsIn.mono (callsIn_wide.2 (pairsB_any _ _ _ _ _ ⟨_, rfl⟩)) ?_); rintro e w7 ⟨rfl, rfl⟩)
        | (refine ⟨trivial, ?_⟩; rename_i hKK; refine hKK _ _ ?_))
      rename_i K0 hK0
      obtain ⟨W5, hW5⟩ : ∃ W5, W5 = w1.alloc (.cells #[.int .u8 x] 5) := ⟨_, rfl⟩
      have hB5 : Below w.heap.size w W5 := by rw [hW5]; exact Bl.alloc B1 _
      have HR5 : Hid (Q2 w.heap.size W5) := by rw [hW5]; exact HR3
      have hz15 : W5.heap.size = w1.heap.size + 1 := by rw [hW5]; simp
      obtain ⟨D, hD⟩ : ∃ D, D = w1.heap.size + 1 := ⟨_, rfl⟩
      have hDz : D = W5.heap.size := by rw [hD, hz15]
      obtain ⟨W8, hW8⟩ : ∃ W8, W8 = (((W5.alloc (.cells #[.string u] 9)).alloc (.cells #[.string v] 9)).alloc (.cells #[.int .u8 x] 5)).alloc (.cells #[.func (.func 126) #[] #[]] 117) := ⟨_, rfl⟩
      have hz8 : W8.heap.size = D + 1 + 1 + 1 + 1 := by rw [hW8, hDz]; simp
      have hB58 : Below W5.heap.size W5 W8 := by rw [hW8]; exact Bl.alloc (Bl.alloc (Bl.alloc (Bl.alloc (Below.refl _ _) _) _) _) _
      have hF := four_new W5 u v x (.func (.func 126) #[] #[]) 9 9 5 117
      rw [← hW8, ← hDz] at hF
      have hB8 : Below w.heap.size w W8 := Bl.step hB5 hB58
      have HR8 := Lib.hid (HR5.out.step hB58)
      have HB8 := Lib.hid hB8
      have HSTP := Lib.hid (pairsB_stops D (D + 1) (D + 1 + 1) (D + 1 + 1 + 1) u v x W8 (by omega) (by omega) hx01.1 hx01.2 hF (by omega) (by omega) (by omega) (by omega))
      rw [← HP.out] at HSTP
      have hwD : w.heap.size + 1 < D := by have := HR5.out.lt; omega
      rw [← hD, ← hW5, ← hW8]
      have HD := Lib.hid hD
      clear hW8 hB58 hB8 hF hb1 B1 hD hDz hW5 hB5 hz15 HR2 HR3 c0 c1 f0 f1 HR5
      refine wpIn_rangeFunc_ownG rfl (by omega) (gf := 160) (lb := #[.pointer (some ⟨D, 0, none⟩), .pointer (some ⟨D + 1, 0, none⟩), .pointer (some ⟨D + 1 + 1, 0, none⟩), .pointer (some ⟨D + 1 + 1 + 1, 0, none⟩)]) rfl trivial (enters_of Tryd.func160 (by kernel_rfl) rfl) (HSTP.out _ (Below.refl _ _)) (fun h k => k.trans h) (fun W l o o' hl _ _ _ => World.cell?_of_block (World.putObj_heap_other (by first | (simp; done) | (simp; omega)))) (Below.refl _ _) (fun _ => rfl)
        (CmAt W8) (fun c => CmX w c) (CmAt.own _) (fun c => CmX.own _ _ HB8.out.size c)
        ⟨fun x hx => by simp at hx, Below.refl _ _⟩
        (fun y => { tmps := #[.string u, .string v, .int .u8 x, undef, undef, undef, .pointer (some ⟨w.heap.size, 0, none⟩), .pointer (some ⟨w.heap.size + 1, 0, none⟩), .int .i64 (y.1 : Int), .bool y.2, .string u, .string v, .slice (some ⟨w.heap.size + 1 + 1, 0, none⟩) 2 2, .bool true, .bool false, .bool false, .int .u8 x, .slice (some ⟨w1.heap.size, 0, none⟩) 1 1, .bool true, .bool false, .bool false, .string u, .string v, .int .u8 x, .func (.func 160) #[] #[.pointer (some ⟨D, 0, none⟩), .pointer (some ⟨D + 1, 0, none⟩), .pointer (some ⟨D + 1 + 1, 0, none⟩), .pointer (some ⟨D + 1 + 1 + 1, 0, none⟩)], .int .i64 (y.1 : Int), .bool y.2, undef, undef, undef], defers := [] }) ?assign ?body ?done ?stop
      case assign =>
        intro l y W K hK
        gi_wp2
        exact hK
      case body =>
        rintro l pre y W ⟨hno, hb⟩ hlt
        obtain ⟨k, d⟩ := y
        have hR := HR8.out.below hb (by omega)
        obtain ⟨c0, c1, f0, f1⟩ := hR.facts
        obtain ⟨z, hz⟩ : ∃ z, IntKind.i64.wrap ((k : Int) + 1) = z := ⟨_, rfl⟩
        have HZ := Lib.hid hz
        have HNO := Lib.hid hno
        have HB := Lib.hid hb
        have HR := Lib.hid hR
        clear hno hb hR hlt
        cases d with
        | true =>
          gi_wp2
          have hS := HR.out.set (.int .i64 z) (.int .i64 0)
          refine ⟨((KeepsOthers.setCell _ _ _).trans (KeepsOthers.setCell _ _ _)).from _, rfl, pre, k, rfl, HNO.out, by rw [HZ.out]; exact hS.1, hS.2, ?_⟩
          exact Q2.fin (HB8.out.trans (HB.out.mono HB8.out.size)) _ _
        | false =>
          gi_wp2
          refine ⟨⟨Nat.le_refl _, fun _ _ _ h _ => h⟩, rfl, ?_, HB.out⟩
          intro y hy
          rcases List.mem_append.1 hy with hy | hy
          · exact HNO.out y hy
          · rw [List.mem_singleton.1 hy]
      case done =>
        rintro DD ys W hDD hys ⟨hno, hb⟩ hK
        have hR := HR8.out.below hb (by omega)
        obtain ⟨c0, c1, f0, f1⟩ := hR.facts
        have HRN := Lib.hid (show compareR (bts u) (bts v) x = (0, 0) by
          rw [HR0.out, cmpF_none]
          intro b hb
          rw [← idx_snd P, ← hys] at hb
          obtain ⟨y, hy, rfl⟩ := List.mem_map.1 hb
          exact hno y hy)
        have HB := Lib.hid hb
        have HR := Lib.hid hR
        have HK := Lib.hid hK
        have HDD := Lib.hid hDD
        clear hys hno hb hR hK hDD
        gi_wp2
        have k1 := deferred_other (k := 0) (v := .int .i64 0) (deferred_other (k := 0) (v := .int .i64 0) HK.out (r := w.heap.size) (by have := HDD.out; omega)) (r := w.heap.size + 1) (by have := HDD.out; omega)
        have hS := HR.out.set (.int .i64 0) (.int .i64 0)
        have z1 := (boxed_put hS.1 k1 rfl (.deferred none)).cell
        have z2 := (boxed_put hS.2 k1 rfl (.deferred none)).cell
        have hb3 := Q2.fin (HB8.out.trans (HB.out.mono HB8.out.size)) (.int .i64 0) (.int .i64 0)
        refine ⟨by simp, .inl ⟨_, _, rfl, run_takeDeferred k1, ?_⟩⟩
        refine ⟨.tuple #[.int .i64 0, .int .i64 0], by simp [results, Tryd.results50, go_sem, z1, z2], ?_⟩
        exact givesN HRN.out (hb3.trans (belowK_b (w := w) (Nat.le_refl _) _ DD _ (.deferred none) (by have := HDD.out; have := HB8.out.size; omega) k1 rfl rfl))
      case stop =>
        rintro DD c pre W hDD ⟨r, hpre⟩ ⟨rfl, q, k, hq, hno, hb1, hb2, hb3⟩ hK
        subst hq
        obtain ⟨hk1, hk2, hk3⟩ := cmpF_at hpre hno
        have HRN := Lib.hid (show compareR (bts u) (bts v) x = ((k : Int) + 1, 0) by rw [HR0.out, hk3])
        have hwk : IntKind.i64.wrap ((k : Int) + 1) = (k : Int) + 1 := IntWalk.i64_in _ (by omega)
        rw [hwk] at hb1
        have c0 := hb1.cell
        have c1 := hb2.cell
        have HB1 := Lib.hid hb1
        have HB2 := Lib.hid hb2
        have HB3 := Lib.hid hb3
        have HK := Lib.hid hK
        have HDD := Lib.hid hDD
        clear hpre hno hb1 hb2 hb3 hK hDD hk1 hk2 hk3
        gi_wp2
        have z1 := (boxed_put HB1.out HK.out rfl (.deferred none)).cell
        have z2 := (boxed_put HB2.out HK.out rfl (.deferred none)).cell
        refine ⟨by simp, .inl ⟨_, _, rfl, run_takeDeferred HK.out, ?_⟩⟩
        refine ⟨.tuple #[.int .i64 ((k : Int) + 1), .int .i64 0], by simp [results, Tryd.results50, go_sem, z1, z2], ?_⟩
        exact givesN HRN.out (HB3.out.trans (belowK_b (w := w) (Nat.le_refl _) W DD _ (.deferred none) (by have := HDD.out; have := HB8.out.size; omega) HK.out rfl rfl))
end Go.Proofs.YtoilgjlbpimcpaaDoor
