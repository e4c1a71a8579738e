/- WordPos. -/
import Derived.Test.YtoilgjlbpimcpaaDoorZx
import Derived.Shelf.RegionOpen
namespace Go.Proofs.YtoilgjlbpimcpaaDoor
open Go.RowKit Go.Shelf Tx
set_option linter.unusedVariables false
set_option maxRecDepth 100000
attribute [local go_sem] Oper.semAt_some

/-- The boxes of the results. -/
def R2 (B : Nat) (W : World) : Prop := Boxed W B 3 (.int .i64 0) ∧ Boxed W (B + 1) 24 (.int .i64 0)
theorem R2.new (w : World) : R2 w.heap.size ((w.alloc (.cells #[.int .i64 0] 3)).alloc (.cells #[.int .i64 0] 24)) := by
  have h1 := (Boxed.new w 3 (.int .i64 0)).alloc (.cells #[.int .i64 0] 24)
  have h2 := Boxed.new (w.alloc (.cells #[.int .i64 0] 3)) 24 (.int .i64 0)
  simp only [World.size_alloc] at h1 h2
  exact ⟨h1, h2⟩
theorem R2.below {B n : Nat} {W W' : World} (h : R2 B W) (hb : Below n W W') (hn : B + 1 < n) : R2 B W' := ⟨(hb.block B (by omega)).trans h.1, (hb.block (B + 1) (by omega)).trans h.2⟩
theorem R2.lt {B : Nat} {W : World} (h : R2 B W) : B + 1 < W.heap.size := h.2.lt
theorem R2.step {B : Nat} {W W' : World} (h : R2 B W) (hb : Below W.heap.size W W') : R2 B W' := h.below hb h.lt
theorem R2.alloc {B : Nat} {W : World} (h : R2 B W) (o : Obj) : R2 B (W.alloc o) := h.step ((Below.refl _ _).alloc (Nat.le_refl _) o)
theorem R2.facts {B : Nat} {W : World} (h : R2 B W) : W.cell? ⟨B, 0, none⟩ = some (.int .i64 0) ∧ W.cell? ⟨B + 1, 0, none⟩ = some (.int .i64 0) ∧ W.frozen? ⟨B, 0, none⟩ = false ∧ W.frozen? ⟨B + 1, 0, none⟩ = false :=
  ⟨h.1.cell, h.2.cell, h.1.frozen, h.2.frozen⟩
theorem R2.set {B : Nat} {W : World} (h : R2 B W) (x y : Value) : Boxed ((W.setCell ⟨B, 0, none⟩ x).setCell ⟨B + 1, 0, none⟩ y) B 3 x ∧ Boxed ((W.setCell ⟨B, 0, none⟩ x).setCell ⟨B + 1, 0, none⟩ y) (B + 1) 24 y := by
  obtain ⟨h1, h2⟩ := h
  unfold Boxed at *
  constructor <;> simp [World.setCell, Array.getElem?_modify, h1, h2]
theorem R2.fin {w W : World} (hb : Below w.heap.size w W) (x y : Value) : Below w.heap.size w ((W.setCell ⟨w.heap.size, 0, none⟩ x).setCell ⟨w.heap.size + 1, 0, none⟩ y) :=
  (hb.setCell (p := ⟨w.heap.size, 0, none⟩) (by simp) _).setCell (p := ⟨w.heap.size + 1, 0, none⟩) (by simp) _

theorem ext_all (s : ByteArray) : ((spans (bts s)).map fun p => s.extract p.1 p.2).map bts = wordsL (bts s) := ext_word s _
theorem bts_inj {a b : ByteArray} (h : bts a = bts b) : a = b := by
  cases a; cases b; unfold bts at h; congr 1; exact Array.toList_inj.1 h
/-- slices.Equal of a part of the words, and the words of a phrase. -/
theorem eqW_any (p s : ByteArray) (g cap g2 cap2 x k : Nat) (W : World) (hk : (spans (bts p)).length = k) (hx : x + k ≤ (spans (bts s)).length) (hk1 : k ≤ 1001)
    (hc : ∀ (j : Nat) v, ((spans (bts s)).map fun p => s.extract p.1 p.2)[j]? = some v → W.cell? ⟨g, j, none⟩ = some (.string v))
    (hc2 : ∀ (j : Nat) v, ((spans (bts p)).map fun q => p.extract q.1 q.2)[j]? = some v → W.cell? ⟨g2, j, none⟩ = some (.string v)) :
    Calls Tryd.prog 139 #[.slice (some ⟨g, x, none⟩) k (cap - x), .slice (some ⟨g2, 0, none⟩) k cap2] W fun e w' => e = .returned (.bool (occW (wordsL (bts p)) (wordsL (bts s)) (x : Int))) ∧ ∃ q, w' = W.drewN q := by
  obtain ⟨A, hA⟩ : ∃ A, A = (spans (bts s)).map fun p => s.extract p.1 p.2 := ⟨_, rfl⟩
  obtain ⟨B, hB⟩ : ∃ B, B = (spans (bts p)).map fun q => p.extract q.1 q.2 := ⟨_, rfl⟩
  have hAl : A.length = (spans (bts s)).length := by rw [hA, List.length_map]
  have hBl : B.length = k := by rw [hB, List.length_map, hk]
  rw [← hA] at hc
  rw [← hB] at hc2
  have h := Tryd.slices_Equal_string g x k (cap - x) g2 0 k cap2 (A.drop x) B W (by rw [List.length_drop]; omega) (by omega) (by omega) (by omega)
    (fun j hj => by
      rw [List.length_drop] at hj
      refine hc (x + j) _ ?_
      rw [List.getD_eq_getElem?_getD, List.getElem?_drop, List.getElem?_eq_getElem (by omega)]; rfl)
    (fun j hj => by
      rw [Nat.zero_add]
      refine hc2 j _ ?_
      rw [List.getD_eq_getElem?_getD, List.getElem?_eq_getElem hj]; rfl)
  refine h.mono fun e w' ⟨h1, h2⟩ => ⟨?_, h2⟩
  rw [h1]
  congr 2
  unfold occW
  rw [Bool.eq_iff_iff, decide_eq_true_eq, decide_eq_true_eq, ← ext_all s, ← ext_all p, ← hA, ← hB, List.length_map, hBl, Int.toNat_natCast, ← List.map_drop, ← List.map_take, List.take_of_length_le (Nat.le_of_eq hBl)]
  exact (List.map_inj_right (fun _ _ h => bts_inj h)).symm

/-- Between two rounds: nothing has been found. -/
structure WpAt (P L : List (List UInt8)) (k m : Nat) (w8 : World) (pre : List (Off k m)) (W : World) : Prop where
  no : ∀ x ∈ pre, occW P L x.1 = false
  b : Below w8.heap.size w8 W
theorem WpAt.own (P L : List (List UInt8)) (k m : Nat) (w8 : World) : OwnFrom w8.heap.size (WpAt P L k m w8) := by
  rintro pre X Y row ⟨h4, h5⟩ hg hrow
  exact ⟨h4, h5.grown hg h5.size (fun k e => (hrow k e).1)⟩
/-- It has been found: the results are set. -/
def WpX (P L : List (List UInt8)) (k m : Nat) (w : World) (c : Code) (pre : List (Off k m)) (W : World) : Prop :=
  c = .ret ∧ ∃ x : Int, (pre.map (fun x => x.1)).find? (occW P L) = some x ∧ Boxed W w.heap.size 3 (.int .i64 (x + 1)) ∧ Boxed W (w.heap.size + 1) 24 (.int .i64 0) ∧ Below w.heap.size w W
theorem WpX.own (P L : List (List UInt8)) (k m : Nat) (w : World) (B : Nat) (hB : w.heap.size ≤ B) (c : Code) : OwnFrom B (WpX P L k m w c) := by
  rintro pre X Y row ⟨h0, x, h1, h2, h3, h4⟩ hg hrow
  have hr := fun r e => (hrow r e).2
  exact ⟨h0, x, h1, h2.kept hg (boxed_not_row hr h2), h3.kept hg (boxed_not_row hr h3), h4.grown hg h4.size (fun k e => Nat.le_trans hB (hrow k e).1)⟩
set_option maxHeartbeats 4000000 in
theorem WordPos_any (p s : ByteArray) (n : Int) (w : World) (hsp : p.size ≤ maxLen) (hss : s.size ≤ maxLen) (hn2 : n ≤ 9223372036854775807) :
    Calls Tryd.prog 69 #[.string p, .string s, .int .i64 n] w (GivesN w (wordPosR (bts p) (bts s) n)) := by
  have KVps := fun (W : World) (pp : Nat) (hp : pp < W.heap.size) (hc : At W pp [.string p, .string s]) => Lib.hid (areValid2 pp p s W hsp hss hp hc)
  have KAn := fun (W : World) (pp : Nat) (hc : W.cell? ⟨pp, 0, none⟩ = some (.int .i64 n)) => Lib.hid (areAtLeast1 pp 1 n W hc)
  cases hv0 : validL (bts p) && validL (bts s) with
  | false =>
    rw [hv0] at KVps
    have HR := Lib.hid (show wordPosR (bts p) (bts s) n = (0, 1) by unfold wordPosR guardN; simp only [hv0, Bool.and_false, Bool.false_and, Bool.true_and, Bool.and_true]; rfl)
    clear hv0
    have KV3 := Lib.hid (KVps (((w.alloc (.cells #[.int .i64 0] 3)).alloc (.cells #[.int .i64 0] 24)).alloc (.cells #[.string p, .string s] 9)) (w.heap.size + 1 + 1) (by simp) (by have := At.new2 ((w.alloc (.cells #[.int .i64 0] 3)).alloc (.cells #[.int .i64 0] 24)) (.string p) (.string s) 9; simpa using this)).out
    clear KVps
    rw [← callsIn_wide (n := 3)]
    refine callsIn_of_wp_marks Tryd.func69 rfl trivial ?_ rfl
    simp only [Tryd.ntmps69, List.size_toArray, List.length_cons, List.length_nil, Nat.reduceAdd, Nat.reduceSub, Array.replicate_succ, Array.replicate_zero, List.push_toArray, List.append_toArray, List.nil_append, List.cons_append]
    gi_wp2_with (first
      | (refine ⟨trivial, ?_⟩; gi_at_call 99; (with_reducible refine CallsIn.mono (callsIn_wide.2 KV3.out) ?_); clear KV3; rintro e w1 ⟨rfl, hb1⟩; have B1 : Below w.heap.size w w1 := Bl.step (by repeat (first | assumption | exact Below.refl _ _ | refine Bl.alloc ?_ _ | refine Bl.drew ?_)) hb1; have HR2 := Lib.hid (((R2.new w).alloc _).step hb1); obtain ⟨c0, c1, f0, f1⟩ := HR2.out.facts; have KA3 := Lib.hid (KAn (w1.alloc (.cells #[.int .i64 n] 3)) w1.heap.size (cellAt rfl)).out; clear KAn)
      | (refine ⟨trivial, ?_⟩; rename_i hKK; refine hKK _ _ ?_))
    refine ⟨.tuple #[.int .i64 0, .int .i64 1], by simp [results, Tryd.results69, go_sem, (HR2.out.set (.int .i64 0) (.int .i64 1)).1.cell, (HR2.out.set (.int .i64 0) (.int .i64 1)).2.cell], ?_⟩
    exact givesN HR.out (R2.fin (by repeat (first | assumption | exact Below.refl _ _ | refine Bl.alloc ?_ _ | refine Bl.drew ?_)) _ _)
  | true =>
    rw [hv0] at KVps
    cases hv1 : decide (1 ≤ n) with
    | false =>
      rw [hv1] at KAn
      have HR := Lib.hid (show wordPosR (bts p) (bts s) n = (0, 1) by unfold wordPosR guardN; simp only [hv0, hv1, Bool.and_false, Bool.false_and, Bool.true_and, Bool.and_true]; rfl)
      clear hv0 hv1
      have KV3 := Lib.hid (KVps (((w.alloc (.cells #[.int .i64 0] 3)).alloc (.cells #[.int .i64 0] 24)).alloc (.cells #[.string p, .string s] 9)) (w.heap.size + 1 + 1) (by simp) (by have := At.new2 ((w.alloc (.cells #[.int .i64 0] 3)).alloc (.cells #[.int .i64 0] 24)) (.string p) (.string s) 9; simpa using this)).out
      clear KVps
      rw [← callsIn_wide (n := 3)]
      refine callsIn_of_wp_marks Tryd.func69 rfl trivial ?_ rfl
      simp only [Tryd.ntmps69, List.size_toArray, List.length_cons, List.length_nil, Nat.reduceAdd, Nat.reduceSub, Array.replicate_succ, Array.replicate_zero, List.push_toArray, List.append_toArray, List.nil_append, List.cons_append]
      gi_wp2_with (first
        | (refine ⟨trivial, ?_⟩; gi_at_call 99; (with_reducible refine CallsIn.mono (callsIn_wide.2 KV3.out) ?_); clear KV3; rintro e w1 ⟨rfl, hb1⟩; have B1 : Below w.heap.size w w1 := Bl.step (by repeat (first | assumption | exact Below.refl _ _ | refine Bl.alloc ?_ _ | refine Bl.drew ?_)) hb1; have HR2 := Lib.hid (((R2.new w).alloc _).step hb1); obtain ⟨c0, c1, f0, f1⟩ := HR2.out.facts; have KA3 := Lib.hid (KAn (w1.alloc (.cells #[.int .i64 n] 3)) w1.heap.size (cellAt rfl)).out; clear KAn)
        | (refine ⟨trivial, ?_⟩; gi_at_call 100; (with_reducible refine CallsIn.mono (callsIn_wide.2 KA3.out) ?_); clear KA3; rintro e w2 ⟨rfl, rfl⟩; have HR3 := Lib.hid (HR2.out.alloc (.cells #[.int .i64 n] 3)); clear c0 c1 f0 f1; obtain ⟨c0, c1, f0, f1⟩ := HR3.out.facts)
        | (refine ⟨trivial, ?_⟩; rename_i hKK; refine hKK _ _ ?_))
      refine ⟨.tuple #[.int .i64 0, .int .i64 1], by simp [results, Tryd.results69, go_sem, (HR3.out.set (.int .i64 0) (.int .i64 1)).1.cell, (HR3.out.set (.int .i64 0) (.int .i64 1)).2.cell], ?_⟩
      exact givesN HR.out (R2.fin (by repeat (first | assumption | exact Below.refl _ _ | refine Bl.alloc ?_ _ | refine Bl.drew ?_)) _ _)
    | true =>
      rw [hv1] at KAn
      have hlen := valid_le (Bool.and_eq_true_iff.1 hv0).1
      have hlen2 := valid_le (Bool.and_eq_true_iff.1 hv0).2
      have hn := of_decide_eq_true hv1
      have KP := fun W => Lib.hid (wordTexts_any p W (by omega))
      have KS := fun W => Lib.hid (wordTexts_any s W (by omega))
      have HR0 := Lib.hid (show wordPosR (bts p) (bts s) n = (fromW (wordsL (bts p)) (wordsL (bts s)) (n - 1) + 1, 0) by unfold wordPosR guardN; rw [hv0, hv1]; rfl)
      have hpl := spans_length (bts p)
      have hsl := spans_length (bts s)
      rw [bts_length] at hpl hsl
      have hWP := wordsL_length (bts p)
      have hWS := wordsL_length (bts s)
      obtain ⟨k, hk⟩ : ∃ k, (spans (bts p)).length = k := ⟨_, rfl⟩
      obtain ⟨m, hm⟩ : ∃ m, (spans (bts s)).length = m := ⟨_, rfl⟩
      rw [hk] at hpl hWP
      rw [hm] at hsl hWS
      have HKL := Lib.hid hk
      have HML := Lib.hid hm
      have HWP := Lib.hid hWP
      have HWS := Lib.hid hWS
      have hk1 : k ≤ 1001 := by omega
      have hm1 : m ≤ 1001 := by omega
      clear hpl hsl hWP hWS hk hm hlen hlen2 hv0 hv1
      by_cases hk0 : k = 0
      · subst hk0
        have HR := Lib.hid (show wordPosR (bts p) (bts s) n = (0, 0) by rw [HR0.out, fromW_nil (wordsL_nil HKL.out)]; rfl)
        clear hn hn2
        have KV3 := Lib.hid (KVps (((w.alloc (.cells #[.int .i64 0] 3)).alloc (.cells #[.int .i64 0] 24)).alloc (.cells #[.string p, .string s] 9)) (w.heap.size + 1 + 1) (by simp) (by have := At.new2 ((w.alloc (.cells #[.int .i64 0] 3)).alloc (.cells #[.int .i64 0] 24)) (.string p) (.string s) 9; simpa using this)).out
        clear KVps
        rw [← callsIn_wide (n := 3)]
        refine callsIn_of_wp_marks Tryd.func69 rfl trivial ?_ rfl
        simp only [Tryd.ntmps69, List.size_toArray, List.length_cons, List.length_nil, Nat.reduceAdd, Nat.reduceSub, Array.replicate_succ, Array.replicate_zero, List.push_toArray, List.append_toArray, List.nil_append, List.cons_append]
        gi_wp2_with (first
          | (refine ⟨trivial, ?_⟩; gi_at_call 99; (with_reducible refine CallsIn.mono (callsIn_wide.2 KV3.out) ?_); clear KV3; rintro e w1 ⟨rfl, hb1⟩; have B1 : Below w.heap.size w w1 := Bl.step (by repeat (first | assumption | exact Below.refl _ _ | refine Bl.alloc ?_ _ | refine Bl.drew ?_)) hb1; have HR2 := Lib.hid (((R2.new w).alloc _).step hb1); obtain ⟨c0, c1, f0, f1⟩ := HR2.out.facts; have KA3 := Lib.hid (KAn (w1.alloc (.cells #[.int .i64 n] 3)) w1.heap.size (cellAt rfl)).out; clear KAn)
          | (refine ⟨trivial, ?_⟩; gi_at_call 100; (with_reducible refine CallsIn.mono (callsIn_wide.2 KA3.out) ?_); clear KA3; rintro e w2 ⟨rfl, rfl⟩; have HR3 := Lib.hid (HR2.out.alloc (.cells #[.int .i64 n] 3)); clear c0 c1 f0 f1; obtain ⟨c0, c1, f0, f1⟩ := HR3.out.facts)
          | (refine ⟨trivial, ?_⟩; gi_at_call 130; (with_reducible refine CallsIn.mono (callsIn_wide.2 (KP _).out) ?_); rintro e w4 ⟨v4, rfl, hrow4, hb4⟩; have B4 : Below w.heap.size w w4 := Bl.step (by repeat (first | assumption | exact Below.refl _ _ | refine Bl.alloc ?_ _ | refine Bl.drew ?_)) hb4; have HR4 := Lib.hid (HR3.out.step hb4); obtain ⟨ap, capp, rfl⟩ := own_shape hrow4; rw [HKL.out]; have HO4 := Lib.hid hrow4; clear hrow4 hb4 c0 c1 f0 f1)
          | (refine ⟨trivial, ?_⟩; gi_at_call 130; (with_reducible refine CallsIn.mono (callsIn_wide.2 (KS _).out) ?_); rintro e w5 ⟨v5, rfl, hrow5, hb5⟩; have B5 : Below w.heap.size w w5 := Bl.step B4 hb5; have HR5 := Lib.hid (HR4.out.step hb5); have HB5 := Lib.hid hb5; obtain ⟨ass, caps, rfl⟩ := own_shape hrow5; rw [HML.out]; have HO5 := Lib.hid hrow5; clear hrow5 hb5; have HR6 := Lib.hid ((HR5.out.alloc (.cells #[.slice ap 0 capp] 121)).alloc (.cells #[.slice ass m caps] 121)); obtain ⟨c0, c1, f0, f1⟩ := HR6.out.facts)
          | (refine ⟨trivial, ?_⟩; rename_i hKK; refine hKK _ _ ?_))
        refine ⟨.tuple #[.int .i64 0, .int .i64 0], by simp [results, Tryd.results69, go_sem, (HR6.out.set (.int .i64 0) (.int .i64 0)).1.cell, (HR6.out.set (.int .i64 0) (.int .i64 0)).2.cell], ?_⟩
        exact givesN HR.out (R2.fin (by repeat (first | assumption | exact Below.refl _ _ | refine Bl.alloc ?_ _ | refine Bl.drew ?_)) _ _)
      · have hk0i : ((k : Int) == 0) = false := by simp; omega
        have hw1 : IntKind.i64.wrap (n - 1) = n - 1 := IntWalk.i64_in _ (by omega)
        have hw2 : IntKind.i64.wrap ((m : Int) - (k : Int)) = (m : Int) - (k : Int) := IntWalk.i64_in _ (by omega)
        have KV3 := Lib.hid (KVps (((w.alloc (.cells #[.int .i64 0] 3)).alloc (.cells #[.int .i64 0] 24)).alloc (.cells #[.string p, .string s] 9)) (w.heap.size + 1 + 1) (by simp) (by have := At.new2 ((w.alloc (.cells #[.int .i64 0] 3)).alloc (.cells #[.int .i64 0] 24)) (.string p) (.string s) 9; simpa using this)).out
        clear KVps
        rw [← callsIn_wide (n := 3)]
        refine callsIn_of_wp_marks Tryd.func69 rfl trivial ?_ rfl
        simp only [Tryd.ntmps69, List.size_toArray, List.length_cons, List.length_nil, Nat.reduceAdd, Nat.reduceSub, Array.replicate_succ, Array.replicate_zero, List.push_toArray, List.append_toArray, List.nil_append, List.cons_append]
        gi_wp2_with (first
          | (refine ⟨trivial, ?_⟩; gi_at_call 99; (with_reducible refine CallsIn.mono (callsIn_wide.2 KV3.out) ?_); clear KV3; rintro e w1 ⟨rfl, hb1⟩; have B1 : Below w.heap.size w w1 := Bl.step (by repeat (first | assumption | exact Below.refl _ _ | refine Bl.alloc ?_ _ | refine Bl.drew ?_)) hb1; have HR2 := Lib.hid (((R2.new w).alloc _).step hb1); obtain ⟨c0, c1, f0, f1⟩ := HR2.out.facts; have KA3 := Lib.hid (KAn (w1.alloc (.cells #[.int .i64 n] 3)) w1.heap.size (cellAt rfl)).out; clear KAn)
          | (refine ⟨trivial, ?_⟩; gi_at_call 100; (with_reducible refine CallsIn.mono (callsIn_wide.2 KA3.out) ?_); clear KA3; rintro e w2 ⟨rfl, rfl⟩; have HR3 := Lib.hid (HR2.out.alloc (.cells #[.int .i64 n] 3)); clear c0 c1 f0 f1; obtain ⟨c0, c1, f0, f1⟩ := HR3.out.facts)
          | (refine ⟨trivial, ?_⟩; gi_at_call 130; (with_reducible refine CallsIn.mono (callsIn_wide.2 (KP _).out) ?_); rintro e w4 ⟨v4, rfl, hrow4, hb4⟩; have B4 : Below w.heap.size w w4 := Bl.step (by repeat (first | assumption | exact Below.refl _ _ | refine Bl.alloc ?_ _ | refine Bl.drew ?_)) hb4; have HR4 := Lib.hid (HR3.out.step hb4); obtain ⟨ap, capp, rfl⟩ := own_shape hrow4; rw [HKL.out]; have HO4 := Lib.hid hrow4; clear hrow4 hb4 c0 c1 f0 f1)
          | (refine ⟨trivial, ?_⟩; gi_at_call 130; (with_reducible refine CallsIn.mono (callsIn_wide.2 (KS _).out) ?_); rintro e w5 ⟨v5, rfl, hrow5, hb5⟩; have B5 : Below w.heap.size w w5 := Bl.step B4 hb5; have HR5 := Lib.hid (HR4.out.step hb5); have HB5 := Lib.hid hb5; obtain ⟨ass, caps, rfl⟩ := own_shape hrow5; rw [HML.out]; have HO5 := Lib.hid hrow5; clear hrow5 hb5; skip)
          | (refine ⟨trivial, ?_⟩; gi_at_call 117; (with_reducible refine CallsIn.mono (callsIn_wide.2 (upward_any _ _ _)) ?_); rintro e w7 ⟨rfl, rfl⟩)
          | (refine ⟨trivial, ?_⟩; rename_i hKK; refine hKK _ _ ?_))
        rename_i K0 hK0
        obtain ⟨g2, cp2, hv2, hcp2, hgl2, hcells2⟩ := str_row HO4.out (by rw [HKL.out]; omega)
        obtain ⟨rfl, -, rfl⟩ := Value.slice.inj hv2
        have HC2 := Lib.hid hcells2
        obtain ⟨D, hD⟩ : ∃ D, D = w5.heap.size := ⟨_, rfl⟩
        obtain ⟨W8, hW8⟩ : ∃ W8, W8 = ((((w5.alloc (.cells #[.slice (some ⟨g2, 0, none⟩) k capp] 121)).alloc (.cells #[.slice ass m caps] 121)).alloc (.cells #[.int .i64 (n - 1)] 3)).alloc (.cells #[.int .i64 ((m : Int) - (k : Int))] 3)) := ⟨_, rfl⟩
        have hz8 : W8.heap.size = D + 1 + 1 + 1 + 1 := by rw [hW8, hD]; simp
        have hB58 : Below w5.heap.size w5 W8 := by rw [hW8]; exact Bl.alloc (Bl.alloc (Bl.alloc (Bl.alloc (Below.refl _ _) _) _) _) _
        have cw : W8.cell? ⟨D, 0, none⟩ = some (.slice (some ⟨g2, 0, none⟩) k capp) := by rw [hW8, hD]; exact cellUp (cellUp (cellUp (cellAt rfl) (by simp)) (by first | (simp; done) | (simp; omega))) (by first | (simp; done) | (simp; omega))
        have cl : W8.cell? ⟨D + 1, 0, none⟩ = some (.slice ass m caps) := by rw [hW8, hD]; exact cellUp (cellUp (cellAt (by simp)) (by simp)) (by first | (simp; done) | (simp; omega))
        have d1 : W8.cell? ⟨D + 1 + 1, 0, none⟩ = some (.int .i64 (n - 1)) := by rw [hW8, hD]; exact cellUp (cellAt (by simp)) (by simp)
        have d2 : W8.cell? ⟨D + 1 + 1 + 1, 0, none⟩ = some (.int .i64 ((m : Int) - (k : Int))) := by rw [hW8, hD]; exact cellAt (by simp)
        have hB8 : Below w.heap.size w W8 := Bl.step B5 hB58
        have hR8 := HR5.out.step hB58
        have hcS8 := fun (g cap : Nat) (j : Nat) v (hg : g < w5.heap.size) (h : w5.cell? ⟨g, j, none⟩ = some v) => (hB58.cell (p := ⟨g, j, none⟩) hg).trans h
        have hcP8 : ∀ (j : Nat) v, ((spans (bts p)).map fun q => p.extract q.1 q.2)[j]? = some v → W8.cell? ⟨g2, j, none⟩ = some (.string v) := fun j v hj =>
          (hB58.cell (p := ⟨g2, j, none⟩) (Nat.lt_of_lt_of_le hgl2 HB5.out.size)).trans ((HB5.out.cell (p := ⟨g2, j, none⟩) hgl2).trans (hcells2 j v hj))
        have hg28 : g2 < W8.heap.size := by have := HB5.out.size; have := hB58.size; omega
        have HCP8 := Lib.hid hcP8
        have HG28 := Lib.hid hg28
        have HR8 := Lib.hid hR8
        have HB8 := Lib.hid hB8
        have HB58 := Lib.hid hB58
        have HN1 := Lib.hid hn
        have HSTP := Lib.hid (up_stops (D + 1 + 1) (D + 1 + 1 + 1) k m (n - 1) ((m : Int) - (k : Int)) W8 (by omega) (by omega) (by omega) (by omega) (by omega) (by omega) d1 d2 (by omega) (by omega))
        rw [← hD, ← hW8]
        have HD := Lib.hid hD
        have hmix : Tryd.prog.follows .mixedOrders = true := by kernel_rfl
        have hwD : w.heap.size + 1 < D := by have := HR5.out.lt; omega
        clear hW8 d1 d2 hB58 hB8 hR8 hcS8 hcP8 hv2 hcp2 hgl2 hcells2 hg28 hn hn2 hb1 B1 B4 B5 hD
        refine wpIn_rangeFunc_ownG rfl (by omega) (gf := 156) (lb := #[.pointer (some ⟨D + 1 + 1, 0, none⟩), .pointer (some ⟨D + 1 + 1 + 1, 0, none⟩)]) rfl trivial (enters_of Tryd.func156 (by kernel_rfl) rfl) (HSTP.out _ (Below.refl _ _)) belowK_t (belowK_b (Nat.le_refl _)) (Below.refl _ _) (fun _ => rfl)
          (WpAt (wordsL (bts p)) (wordsL (bts s)) k m W8) (fun c => WpX (wordsL (bts p)) (wordsL (bts s)) k m w c) (WpAt.own _ _ _ _ _) (fun c => WpX.own _ _ _ _ _ _ HB8.out.size c)
          ⟨fun x hx => by simp at hx, Below.refl _ _⟩
          (fun x => { tmps := #[.string p, .string s, .int .i64 n, undef, undef, undef, .pointer (some ⟨w.heap.size, 0, none⟩), .pointer (some ⟨w.heap.size + 1, 0, none⟩), .pointer (some ⟨D, 0, none⟩), .pointer (some ⟨D + 1, 0, none⟩), .int .i64 x.1, .string p, .string s, .slice (some ⟨w.heap.size + 1 + 1, 0, none⟩) 2 2, .bool true, .bool false, .bool false, .int .i64 n, .slice (some ⟨w1.heap.size, 0, none⟩) 1 1, .bool true, .bool false, .bool false, .string p, .slice (some ⟨g2, 0, none⟩) k capp, .string s, .slice ass m caps, .slice (some ⟨g2, 0, none⟩) k capp, .int .i64 (k : Int), .bool false, .int .i64 n, .int .i64 (n - 1), .slice ass m caps, .int .i64 (m : Int), .slice (some ⟨g2, 0, none⟩) k capp, .int .i64 (k : Int), .int .i64 ((m : Int) - (k : Int)), .func (.func 156) #[] #[.pointer (some ⟨D + 1 + 1, 0, none⟩), .pointer (some ⟨D + 1 + 1 + 1, 0, none⟩)], .int .i64 x.1, undef, undef, undef, undef, undef, undef, undef, undef, undef, undef, undef], defers := [] }) ?assign ?body ?done ?stop
        case assign =>
          intro l x W K hK
          gi_wp2
          exact hK
        case body =>
          rintro l pre x W ⟨hno, hb⟩ hlt
          obtain ⟨x, hx0, hx1⟩ := x
          obtain ⟨at0, rfl⟩ := Int.eq_ofNat_of_zero_le hx0
          obtain ⟨g, cp, hv, hcp, hgl, hcells⟩ := str_row HO5.out (by rw [HML.out]; omega)
          obtain ⟨rfl, -, rfl⟩ := Value.slice.inj hv
          have cw' := (hb.cell (p := ⟨D, 0, none⟩) (by first | (simp; done) | (simp; omega))).trans cw
          have cl' := (hb.cell (p := ⟨D + 1, 0, none⟩) (by first | (simp; done) | (simp; omega))).trans cl
          have hR := HR8.out.below hb (by omega)
          obtain ⟨c0, c1, f0, f1⟩ := hR.facts
          have hgw : g < W8.heap.size := by have := HB58.out.size; omega
          have KE := fun (W' : World) (hW' : Below W.heap.size W W') => Lib.hid (eqW_any p s g caps g2 capp at0 k W' HKL.out (by rw [HML.out]; omega) hk1
            (fun j v hj => (hW'.cell (p := ⟨g, j, none⟩) (by have := hb.size; simp; omega)).trans ((hb.cell (p := ⟨g, j, none⟩) hgw).trans ((HB58.out.cell (p := ⟨g, j, none⟩) hgl).trans (hcells j v hj))))
            (fun j v hj => (hW'.cell (p := ⟨g2, j, none⟩) (by have := hb.size; have := HG28.out; simp; omega)).trans ((hb.cell (p := ⟨g2, j, none⟩) HG28.out).trans (HCP8.out j v hj))))
          have hw3 : IntKind.i64.wrap ((at0 : Int) + (k : Int)) = (at0 : Int) + (k : Int) := IntWalk.i64_in _ (by omega)
          have hw4 : IntKind.i64.wrap ((at0 : Int) + 1) = (at0 : Int) + 1 := IntWalk.i64_in _ (by omega)
          have hh0 : (0 : Int) ≤ (at0 : Int) + (k : Int) := by omega
          rw [HML.out] at hcp
          have hh1 : (at0 : Int) + (k : Int) ≤ (caps : Int) := by omega
          have hh2 : (at0 : Int) ≤ (at0 : Int) + (k : Int) := by omega
          have hh3 : ((at0 : Int) + (k : Int)).toNat = at0 + k := by omega
          have hh4 : at0 + k - at0 = k := by omega
          have HNO := Lib.hid hno
          have HB := Lib.hid hb
          have HR := Lib.hid hR
          have hwW : w.heap.size + 1 < W8.heap.size := by omega
          clear hno hb hR hlt hcells hv hgl hgw cw cl
          have HPRE := Lib.hid (show ∀ z : Bool, occW (wordsL (bts p)) (wordsL (bts s)) (at0 : Int) = z → ((pre ++ [(⟨(at0 : Int), hx0, hx1⟩ : Off k m)]).map (fun x => x.1)).find? (occW (wordsL (bts p)) (wordsL (bts s))) = if z then some (at0 : Int) else none from fun z hz => by
            rw [List.map_append, List.find?_append, List.find?_eq_none.2 (by
              intro y hy
              obtain ⟨u, hu, rfl⟩ := List.mem_map.1 hy
              rw [HNO.out u hu]; simp)]
            cases z <;> simp [hz])
          cases hocc : occW (wordsL (bts p)) (wordsL (bts s)) (at0 : Int) with
          | true =>
            rw [hocc] at KE
            have HOC := Lib.hid hocc
            clear hocc
            gi_wp2
            refine wpIn_region_quiet_round rfl hmix (by kernel_rfl) (by kernel_rfl) ?_
            repeat (gi_big_quiet_step (fail))
            refine wpQuietIn_step (fun _ _ _ _ => trivial) (fun K hK => ?_)
            go_simp
            refine ⟨.bool true, fun nq0 => ?_, hK _ ?_⟩
            · exact CallsIn.quiet_of (callsIn_wide.2 (KE _ (below_drewN (Below.refl _ _) nq0)).out)
            clear hK K
            refine wpQuietIn_nil ?_
            intro _ hw'
            obtain ⟨nq, hw''⟩ := hw'
            subst hw''
            gi_wp2
            have hS := (show R2 w.heap.size (W.drewN nq) from HR.out).set (.int .i64 ((at0 : Int) + 1)) (.int .i64 0)
            refine ⟨⟨Nat.le_of_eq (by simp [World.setCell]), fun k o _ h hc => ((KeepsOthers.setCell _ _ _).trans (KeepsOthers.setCell _ _ _)).same k o h hc⟩, rfl, at0, HPRE.out true HOC.out, hS.1, hS.2, ?_⟩
            exact R2.fin (HB8.out.trans ((below_drewN HB.out nq).mono HB8.out.size)) _ _
          | false =>
            rw [hocc] at KE
            have HOC := Lib.hid hocc
            clear hocc
            gi_wp2
            refine wpIn_region_quiet_round rfl hmix (by kernel_rfl) (by kernel_rfl) ?_
            repeat (gi_big_quiet_step (fail))
            refine wpQuietIn_step (fun _ _ _ _ => trivial) (fun K hK => ?_)
            go_simp
            refine ⟨.bool false, fun nq0 => ?_, hK _ ?_⟩
            · exact CallsIn.quiet_of (callsIn_wide.2 (KE _ (below_drewN (Below.refl _ _) nq0)).out)
            clear hK K
            refine wpQuietIn_nil ?_
            intro _ hw'
            obtain ⟨nq, hw''⟩ := hw'
            subst hw''
            gi_wp2
            refine ⟨⟨Nat.le_refl _, fun _ _ _ h _ => h⟩, below_drewN (Below.refl _ _) _, ?_, below_drewN HB.out _⟩
            intro y hy
            rcases List.mem_append.1 hy with hy | hy
            · exact HNO.out y hy
            · rw [List.mem_singleton.1 hy]; exact HOC.out
        case done =>
          rintro DD ys W hDD hys ⟨hno, hb⟩ hK
          have hR := HR8.out.below hb (by omega)
          obtain ⟨c0, c1, f0, f1⟩ := hR.facts
          have HRN := Lib.hid (show wordPosR (bts p) (bts s) n = (0, 0) by
            rw [HR0.out]
            unfold fromW firstW
            rw [if_neg (by intro e; have := HWP.out; rw [e] at this; simp at this; omega), HWP.out, HWS.out, ← hys, List.find?_eq_none.2 (by
              intro y hy
              obtain ⟨z, hz, rfl⟩ := List.mem_map.1 hy
              rw [hno z hz]; simp)]
            rfl)
          have HB := Lib.hid hb
          have HR := Lib.hid hR
          have HK := Lib.hid hK
          have HDD := Lib.hid hDD
          clear hys hno hb hR hK hDD cw cl
          gi_wp2
          have k1 := deferred_other (k := 0) (v := .int .i64 0) (deferred_other (k := 0) (v := .int .i64 0) HK.out (r := w.heap.size) (by have := HDD.out; omega)) (r := w.heap.size + 1) (by have := HDD.out; omega)
          have hS := HR.out.set (.int .i64 0) (.int .i64 0)
          have z1 := (boxed_put hS.1 k1 rfl (.deferred none)).cell
          have z2 := (boxed_put hS.2 k1 rfl (.deferred none)).cell
          have hb3 := R2.fin (HB8.out.trans (HB.out.mono HB8.out.size)) (.int .i64 0) (.int .i64 0)
          refine ⟨by simp, .inl ⟨_, _, rfl, run_takeDeferred k1, ?_⟩⟩
          refine ⟨.tuple #[.int .i64 0, .int .i64 0], by simp [results, Tryd.results69, go_sem, z1, z2], ?_⟩
          exact givesN HRN.out (hb3.trans (belowK_b (w := w) (Nat.le_refl _) _ DD _ (.deferred none) (by have := HDD.out; have := HB8.out.size; omega) k1 rfl rfl))
        case stop =>
          rintro DD c pre W hDD ⟨r, hpre⟩ ⟨rfl, x, hfx, hb1, hb2, hb3⟩ hK
          have HRN := Lib.hid (show wordPosR (bts p) (bts s) n = (x + 1, 0) by
            rw [HR0.out]
            unfold fromW firstW
            rw [if_neg (by intro e; have := HWP.out; rw [e] at this; simp at this; omega), HWP.out, HWS.out, ← hpre, List.find?_append, hfx]
            rfl)
          have c0 := hb1.cell
          have c1 := hb2.cell
          have HB1 := Lib.hid hb1
          have HB2 := Lib.hid hb2
          have HB3 := Lib.hid hb3
          have HK := Lib.hid hK
          have HDD := Lib.hid hDD
          clear hpre hfx hb1 hb2 hb3 hK hDD cw cl
          gi_wp2
          have z1 := (boxed_put HB1.out HK.out rfl (.deferred none)).cell
          have z2 := (boxed_put HB2.out HK.out rfl (.deferred none)).cell
          refine ⟨by simp, .inl ⟨_, _, rfl, run_takeDeferred HK.out, ?_⟩⟩
          refine ⟨.tuple #[.int .i64 (x + 1), .int .i64 0], by simp [results, Tryd.results69, go_sem, z1, z2], ?_⟩
          exact givesN HRN.out (HB3.out.trans (belowK_b (w := w) (Nat.le_refl _) W DD _ (.deferred none) (by have := HDD.out; have := HB8.out.size; omega) HK.out rfl rfl))


end Go.Proofs.YtoilgjlbpimcpaaDoor
