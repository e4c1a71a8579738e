/- The values of digits. -/
import Derived.Test.YtoilgjlbpimcpaaDoorTv
import Derived.Test.YtoilgjlbpimcpaaDoorTm3
import Derived.Test.YtoilgjlbpimcpaaDoorTn
import Derived.RangeFuncNested
import Derived.Test.YtoilgjlbpimcpaaDoorShelf
import Derived.Deep.RegionHeld3
namespace Go.Proofs.YtoilgjlbpimcpaaDoor
open Go.RowKit Go.Shelf Tx
set_option linter.unusedVariables false
set_option maxRecDepth 100000
attribute [local go_sem] Oper.semAt_some

namespace Tx
def numB : ByteArray := ⟨#[48, 49, 50, 51, 52, 53, 54, 55, 56, 57, 65, 66, 67, 68, 69, 70]⟩
/-- The value of a digit; -1 if it is none. -/
def digV (c : UInt8) : Int := if 97 ≤ c.toNat ∧ c.toNat ≤ 102 then (c.toNat : Int) - 97 + 10 else Lib.indexByte numB.data.toList c
def digOk (base : Nat) (c : UInt8) : Bool := decide (0 ≤ digV c) && decide (digV c < base)
def wordL (l : List UInt8) (p : Nat × Nat) : List UInt8 := (l.take p.2).drop p.1
def wordOk (l : List UInt8) (size base : Nat) (p : Nat × Nat) : Bool := (decide (p.1 = 0) || decide ((p.2 - p.1) % size = 0)) && (wordL l p).all (digOk base)
def digB (c : UInt8) : UInt8 := (digV c).toNat.toUInt8
def wordsV (l : List UInt8) (ps : List (Nat × Nat)) : List UInt8 := ps.flatMap (fun p => (wordL l p).map digB)
/-- The values of the digits of a string of groups. -/
def digitsL (l : List UInt8) (size base : Nat) : Option (List UInt8) :=
  if validL l && (Lib.trimB l 32 == l) && (spans l).all (wordOk l size base) then some (wordsV l (spans l)) else none
end Tx
/-- What digitValues gives. -/
def GivesD (w : World) (r : Option (List UInt8)) (e : Ending) (w' : World) : Prop :=
  ∃ v b, e = .returned (.tuple #[v, .bool b]) ∧ Below w.heap.size w w' ∧ (match r with
    | none => b = false ∧ v = .slice none 0 0
    | some l => b = true ∧ w'.ownsRow w.heap.size 5 1 v l.length (l.map u8v))
/-- The boxes of digitValues. -/
structure Dig0 (w : World) (s : ByteArray) (size base : Nat) (W : World) : Prop where
  x0 : Boxed W w.heap.size 9 (.string s)
  x1 : Boxed W (w.heap.size + 1) 3 (.int .i64 size)
  x2 : Boxed W (w.heap.size + 1 + 1) 3 (.int .i64 base)
  q1 : Boxed W (w.heap.size + 1 + 1 + 1) 89 (.slice none 0 0)
  q2 : Boxed W (w.heap.size + 1 + 1 + 1 + 1) 4 (.bool false)
  b : Below w.heap.size w W
theorem Dig0.kept {w : World} {s : ByteArray} {size base : Nat} {X Y : World} {row : Option Nat} (h : Dig0 w s size base X) (hg : X.grownBy Y row)
    (hrow : ∀ r, row = some r → w.heap.size ≤ r ∧ ∃ o : Obj, X.heap[r]? = some o ∧ o.isCells = false) : Dig0 w s size base Y := by
  have hr := fun r e => (hrow r e).2
  obtain ⟨h1, h2, h3, h4, h5, h8⟩ := h
  exact ⟨h1.kept hg (boxed_not_row hr h1), h2.kept hg (boxed_not_row hr h2), h3.kept hg (boxed_not_row hr h3), h4.kept hg (boxed_not_row hr h4), h5.kept hg (boxed_not_row hr h5), h8.grown hg h8.size (fun k e => (hrow k e).1)⟩
theorem Dig0.below {w : World} {s : ByteArray} {size base : Nat} {X Y : World} (h : Dig0 w s size base X) (hb : Below X.heap.size X Y) : Dig0 w s size base Y :=
  h.kept (only_below hb) (fun r e => by cases e)
theorem Dig0.new (w : World) (s : ByteArray) (size base : Nat) : Dig0 w s size base (((((w.alloc (.cells #[.string s] 9)).alloc (.cells #[.int .i64 size] 3)).alloc (.cells #[.int .i64 base] 3)).alloc (.cells #[.slice none 0 0] 89)).alloc (.cells #[.bool false] 4)) := by
  have h1 := ((((Boxed.new w 9 (.string s)).alloc (.cells #[.int .i64 size] 3)).alloc (.cells #[.int .i64 base] 3)).alloc (.cells #[.slice none 0 0] 89)).alloc (.cells #[.bool false] 4)
  have h2 := (((Boxed.new (w.alloc (.cells #[.string s] 9)) 3 (.int .i64 size)).alloc (.cells #[.int .i64 base] 3)).alloc (.cells #[.slice none 0 0] 89)).alloc (.cells #[.bool false] 4)
  have h3 := ((Boxed.new ((w.alloc (.cells #[.string s] 9)).alloc (.cells #[.int .i64 size] 3)) 3 (.int .i64 base)).alloc (.cells #[.slice none 0 0] 89)).alloc (.cells #[.bool false] 4)
  have h4 := (Boxed.new (((w.alloc (.cells #[.string s] 9)).alloc (.cells #[.int .i64 size] 3)).alloc (.cells #[.int .i64 base] 3)) 89 (.slice none 0 0)).alloc (.cells #[.bool false] 4)
  have h5 := Boxed.new ((((w.alloc (.cells #[.string s] 9)).alloc (.cells #[.int .i64 size] 3)).alloc (.cells #[.int .i64 base] 3)).alloc (.cells #[.slice none 0 0] 89)) 4 (.bool false)
  simp only [World.size_alloc] at h1 h2 h3 h4 h5
  exact ⟨h1, h2, h3, h4, h5, Bl.alloc (Bl.alloc (Bl.alloc (Bl.alloc (Bl.alloc (Below.refl _ w) _) _) _) _) _⟩
/-- The boxes of digitValues, and the values that have come, in the box V; the string of the words' iterator in the box behind it. -/
structure DigAt (w : World) (V : Nat) (s : ByteArray) (size base : Nat) (l : List UInt8) (W : World) : Prop where
  d : Dig0 w s size base W
  y : Boxed W (V + 1) 9 (.string s)
  v : ∃ v, Boxed W V 89 v ∧ W.ownsRow w.heap.size 5 1 v l.length (l.map u8v) ∧ True
theorem DigAt.kept {w : World} {V : Nat} {s : ByteArray} {size base : Nat} {l : List UInt8} {X Y : World} {row : Option Nat} (h : DigAt w V s size base l X) (hg : X.grownBy Y row)
    (hrow : ∀ r, row = some r → w.heap.size ≤ r ∧ ∃ o : Obj, X.heap[r]? = some o ∧ o.isCells = false) : DigAt w V s size base l Y := by
  have hr := fun r e => (hrow r e).2
  exact ⟨h.d.kept hg hrow, h.y.kept hg (boxed_not_row hr h.y), holdsRow_own w.heap.size V 89 5 1 (fun p : List UInt8 => p.length) (fun p => p.map u8v) (fun _ _ => True) l X Y row h.v hg hr⟩
theorem DigAt.below {w : World} {V : Nat} {s : ByteArray} {size base : Nat} {l : List UInt8} {X Y : World} (h : DigAt w V s size base l X) (hb : Below X.heap.size X Y) : DigAt w V s size base l Y :=
  h.kept (only_below hb) (fun r e => by cases e)
/-- Between two words: their digits' values have come. -/
def DigJ (w : World) (V : Nat) (s : ByteArray) (size base : Nat) (pre : List (Sp s.size)) (W : World) : Prop :=
  DigAt w V s size base (wordsV (bts s) (pre.map (fun x => x.1))) W ∧ (pre.map (fun x => x.1)).all (wordOk (bts s) size base) = true
theorem DigJ.own (w : World) (V : Nat) (s : ByteArray) (size base : Nat) (B : Nat) (hB : w.heap.size ≤ B) : OwnFrom B (DigJ w V s size base) := by
  rintro pre X Y row ⟨h1, h2⟩ hg hrow
  exact ⟨h1.kept hg (fun r e => ⟨Nat.le_trans hB (hrow r e).1, (hrow r e).2⟩), h2⟩
/-- A word is not one of digits: the results are set. -/
structure DigX (w : World) (r1 r2 : Nat) (s : ByteArray) (size base : Nat) (c : Code) (pre : List (Sp s.size)) (W : World) : Prop where
  c : c = .ret
  q1 : Boxed W r1 89 (.slice none 0 0)
  q2 : Boxed W r2 4 (.bool false)
  bad : (pre.map (fun x => x.1)).all (wordOk (bts s) size base) = false
  b : Below w.heap.size w W
theorem DigX.own (w : World) (r1 r2 : Nat) (s : ByteArray) (size base : Nat) (c : Code) (B : Nat) (hB : w.heap.size ≤ B) : OwnFrom B (DigX w r1 r2 s size base c) := by
  rintro pre X Y row ⟨h0, h1, h2, h3, h4⟩ hg hrow
  have hr := fun r e => (hrow r e).2
  exact ⟨h0, h1.kept hg (boxed_not_row hr h1), h2.kept hg (boxed_not_row hr h2), h3, h4.grown hg h4.size (fun k e => Nat.le_trans hB (hrow k e).1)⟩

theorem below_or {w1 w2 : World} (h : w2 = w1 ∨ w2 = w1.drew) : Below w1.heap.size w1 w2 := by
  rcases h with rfl | rfl
  · exact Below.refl _ _
  · exact (Below.refl _ _).drew

theorem Dig0.row {w : World} {s : ByteArray} {size base : Nat} {X Y : World} {row : Option Nat} (h : Dig0 w s size base X) (hg : X.grownBy Y row)
    (hrow : ∀ B t v, Boxed X B t v → B < w.heap.size + 1 + 1 + 1 + 1 + 1 → t ≠ 5 → some B ≠ row) (hb : Below w.heap.size w Y) : Dig0 w s size base Y := by
  obtain ⟨h1, h2, h3, h4, h5, h8⟩ := h
  exact ⟨h1.kept hg (hrow _ _ _ h1 (by omega) (by decide)), h2.kept hg (hrow _ _ _ h2 (by omega) (by decide)), h3.kept hg (hrow _ _ _ h3 (by omega) (by decide)), h4.kept hg (hrow _ _ _ h4 (by omega) (by decide)), h5.kept hg (hrow _ _ _ h5 (by omega) (by decide)), hb⟩
theorem wordL_snoc {l : List UInt8} {a k : Nat} {c : UInt8} (ha : a ≤ k) (h : l[k]? = some c) : wordL l (a, k + 1) = wordL l (a, k) ++ [c] := by
  have hk := (List.getElem?_eq_some_iff.1 h).1
  unfold wordL
  dsimp only
  rw [List.take_add_one, h, List.drop_append_of_le_length (by rw [List.length_take]; omega)]
  rfl
theorem indexByte_le (l : List UInt8) (c : UInt8) : -1 ≤ Lib.indexByte l c ∧ Lib.indexByte l c < l.length := by
  induction l with
  | nil => simp [Lib.indexByte]
  | cons b l ih =>
    unfold Lib.indexByte
    split
    · refine ⟨by omega, by simp only [List.length_cons]; omega⟩
    · split
      · refine ⟨by omega, by simp only [List.length_cons]; omega⟩
      · refine ⟨by omega, by simp only [List.length_cons]; omega⟩
theorem wordL_le (l : List UInt8) (p : Nat × Nat) : (wordL l p).length ≤ l.length := by unfold wordL; simp; omega
theorem wordsV_le (l : List UInt8) (ps : List (Nat × Nat)) : (wordsV l ps).length ≤ ps.length * l.length := by
  induction ps with
  | nil => simp [wordsV]
  | cons p ps ih =>
    have h1 := wordL_le l p
    have h2 : wordsV l (p :: ps) = (wordL l p).map digB ++ wordsV l ps := rfl
    rw [h2, List.length_append, List.length_map, List.length_cons, Nat.succ_mul]
    omega
theorem wordsV_snoc (l : List UInt8) (ps : List (Nat × Nat)) (p : Nat × Nat) : wordsV l (ps ++ [p]) = wordsV l ps ++ (wordL l p).map digB := by
  unfold wordsV; simp
theorem dig_app {w : World} {V : Nat} {s : ByteArray} {size base : Nat} {l : List UInt8} {wr w4 : World} {v0 v' : Value} {y : UInt8} {tt : TypeId} (B : Nat) (hd : DigAt w V s size base l wr) (bv : Boxed wr V 89 v0) (hv : wr.ownsRow w.heap.size 5 1 v0 l.length (l.map u8v))
    (hown' : w4.ownsRow w.heap.size 5 1 v' (l.length + 1) (l.map u8v ++ [.int .u8 (y.toNat : Int)])) (hgrow : (wr.alloc (.cells #[.int .u8 (y.toNat : Int)] tt)).grownBy w4 v0.ownBlock) (hV : w.heap.size + 1 + 1 + 1 + 1 + 1 ≤ V) :
    Boxed w4 V 89 v0 ∧ DigAt w V s size base (l ++ [y]) (w4.setCell ⟨V, 0, none⟩ v') ∧ KeepsFrom B wr (w4.setCell ⟨V, 0, none⟩ v') ∧ (∀ X a b, Box2 wr X 124 a b → X ≠ V → Box2 (w4.setCell ⟨V, 0, none⟩ v') X 124 a b) := by
  have hsz := hd.d.b.size
  obtain ⟨hb3, hb4, hr4, hk4, hbl4⟩ := bv.appended (by decide) hv hsz (by omega) hown' hgrow
  have hg0 : wr.grownBy (wr.alloc (.cells #[.int .u8 (y.toNat : Int)] tt)) none := World.grownBy_alloc _ _ _
  have hd1 := hd.d.kept hg0 (fun r e => by cases e)
  have hb1 : Below w.heap.size w w4 := by
    refine (hd1.b).grown hgrow hd1.b.size (fun k e => ?_)
    rcases hv.2 with ⟨rfl, _⟩ | ⟨g, cap, cur, rfl, hg, _⟩
    · cases e
    · cases e; exact hg
  have hrow4 : ∀ B t v, Boxed (wr.alloc (.cells #[.int .u8 (y.toNat : Int)] tt)) B t v → t ≠ 5 → some B ≠ v0.ownBlock := fun B t v hb ht => hb.not_row ht (hv.alloc _)
  have hd2 := hd1.row hgrow (fun B t v hb _ ht => hrow4 B t v hb ht) hb1
  have hd3 := hd2.row (grownBy_setCell' w4 V v') (fun B t v hb hlt _ e => by cases e; omega) (hd.d.b.trans hbl4)
  have hy1 := (hd.y.alloc (.cells #[.int .u8 (y.toNat : Int)] tt)).kept hgrow (hrow4 _ _ _ (hd.y.alloc _) (by decide))
  refine ⟨hb3, ⟨hd3, hy1.other (by omega) _, ⟨v', hb4, ?_, trivial⟩⟩, hk4.from _, fun X a b hx hne => ?_⟩
  · rw [List.map_append, List.length_append]; exact hr4
  · have hx0 : Box2 (wr.alloc (.cells #[.int .u8 (y.toNat : Int)] tt)) X 124 a b := (hg0.block X (Array.getElem?_eq_some_iff.1 hx).1 (by simp)).trans hx
    have hx1 : Box2 w4 X 124 a b := (hgrow.block X (Array.getElem?_eq_some_iff.1 hx0).1 (fun e => by
      rcases hv.2 with ⟨rfl, _⟩ | ⟨g, cap, cur, rfl, hg, hgb, _⟩
      · cases e
      · cases e
        have := (hg0.block g (Array.getElem?_eq_some_iff.1 hx).1 (by simp)).symm.trans hx0
        rw [hgb] at this
        cases this)).trans hx0
    exact ((grownBy_setCell' w4 V v').block X (Array.getElem?_eq_some_iff.1 hx1).1 (fun e => hne (by cases e; rfl))).trans hx1
theorem u8_of_int {x : Int} (h0 : 0 ≤ x) (h1 : x < 256) : ((x.toNat.toUInt8).toNat : Int) = x := by
  obtain ⟨n, rfl⟩ := Int.eq_ofNat_of_zero_le h0
  simp
  omega
theorem boxed_put {W : World} {D r : Nat} {t : TypeId} {v : Value} {o : Obj} (h : Boxed W r t v) (hk : W.heap[D]? = some o) (hc : o.isCells = false) (o' : Obj) : Boxed (W.putObj D o') r t v :=
  h.kept (grownBy_putObj' W D o') (fun e => by injection e with e; have h1 : W.heap[r]? = _ := h; rw [e, hk] at h1; cases h1; cases hc)
theorem deferred_set {W : World} {D r : Nat} {t : TypeId} {u v : Value} {ds : Option (List Deferred)} (hk : W.heap[D]? = some (.deferred ds)) (h : Boxed W r t u) : (W.setCell ⟨r, 0, none⟩ v).heap[D]? = some (.deferred ds) :=
  ((grownBy_setCell' W r v).block D (Array.getElem?_eq_some_iff.1 hk).1 (fun e => by injection e with e; have h1 : W.heap[r]? = _ := h; rw [← e, hk] at h1; cases h1)).trans hk
theorem digX_ret {w : World} {s : ByteArray} {size base V : Nat} {l : List UInt8} {pre : List (Sp s.size)} {W wr : World} {B : Nat} (hd : DigAt w V s size base l wr) (hkf : KeepsFrom B W wr) (hbad : (pre.map (fun x => x.1)).all (wordOk (bts s) size base) = false) :
    KeepsFrom B W ((wr.setCell ⟨w.heap.size + 1 + 1 + 1, 0, none⟩ (.slice none 0 0)).setCell ⟨w.heap.size + 1 + 1 + 1 + 1, 0, none⟩ (.bool false)) ∧ DigX w (w.heap.size + 1 + 1 + 1) (w.heap.size + 1 + 1 + 1 + 1) s size base .ret pre ((wr.setCell ⟨w.heap.size + 1 + 1 + 1, 0, none⟩ (.slice none 0 0)).setCell ⟨w.heap.size + 1 + 1 + 1 + 1, 0, none⟩ (.bool false)) :=
  ⟨hkf.trans (((KeepsOthers.setCell _ _ _).trans (KeepsOthers.setCell _ _ _)).from _), rfl, (hd.d.q1.set _).other (by omega) _, (hd.d.q2.other (by omega) _).set _, hbad,
    (hd.d.b.setCell (p := ⟨w.heap.size + 1 + 1 + 1, 0, none⟩) (by simp; omega) _).setCell (p := ⟨w.heap.size + 1 + 1 + 1 + 1, 0, none⟩) (by simp; omega) _⟩
theorem all_snoc {α : Type} {f : α → Bool} {l : List α} {x : α} : (l ++ [x]).all f = (l.all f && f x) := by simp
theorem bad_of_digit {l : List UInt8} {size base xa xb k : Nat} {c : UInt8} (ha : xa ≤ k) (hb : k < xb) (hg : l[k]? = some c) (hc : digOk base c = false) : wordOk l size base (xa, xb) = false := by
  have hm : c ∈ wordL l (xa, xb) := by
    refine List.mem_of_getElem? (i := k - xa) ?_
    unfold wordL
    dsimp only
    rw [List.getElem?_drop, List.getElem?_take, if_pos (by omega), show xa + (k - xa) = k by omega]
    exact hg
  unfold wordOk
  rw [show (wordL l (xa, xb)).all (digOk base) = false by
    rw [List.all_eq_false]
    exact ⟨c, hm, by rw [hc]; simp⟩]
  simp
theorem digV_le (c : UInt8) : -1 ≤ digV c ∧ digV c < 16 := by
  unfold digV
  split
  · omega
  · exact indexByte_le numB.data.toList c

set_option maxHeartbeats 4000000 in
theorem digitValues_ok (s : ByteArray) (size base : Nat) (w : World) (hss : s.size ≤ maxLen) (hz : 1 ≤ size) (hz2 : size ≤ 1000) (hb2 : 2 ≤ base) (hb16 : base ≤ 16) (hv : validL (bts s) = true) (hst : (Lib.trimB s.data.toList 32 == s.toList) = true) :
    Calls Tryd.prog 150 #[.string s, .int .i64 size, .int .i64 base] w (GivesD w (digitsL (bts s) size base)) := by
  have KV := fun (W : World) (pp : Nat) (hp : pp < W.heap.size) (hc : At W pp [.string s]) => Lib.hid (areValid1 pp s W hss hp hc)
  · have hlen := valid_le hv
    have KT := fun W => Lib.hid (Tryd.strings_Trim_one s 32 (by decide) W (by omega))
    rw [hv] at KV
    obtain ⟨t, ht⟩ : ∃ t : ByteArray, t = ⟨(Lib.trimB s.data.toList 32).toArray⟩ := ⟨_, rfl⟩
    rw [← ht] at KT
    have KW := fun (W : World) (b : Nat) (hb : W.cell? ⟨b, 0, none⟩ = some (.string s)) (hl : b < W.heap.size) => Lib.hid (fun w' hw' => words_stopsC b s W (by omega) hb hl w' hw')
    · have HTR := Lib.hid (show (Lib.trimB (bts s) 32 == bts s) = true by simpa [bts, ByteArray.toList_eq] using hst)
      rw [← callsIn_wide (n := 3)]
      refine callsIn_of_wp_marks Tryd.func150 rfl trivial ?_ rfl
      simp only [Tryd.ntmps150, List.size_toArray, List.length_cons, List.length_nil, Nat.reduceAdd, Nat.reduceSub, Array.replicate_succ, Array.replicate_zero, List.push_toArray, List.append_toArray, List.nil_append, List.cons_append]
      gi_wp2
      refine wpIn_wide.2 ?_
      obtain ⟨W0, hW0⟩ : ∃ W0, W0 = ((((w.alloc (.cells #[.string s] 9)).alloc (.cells #[.int .i64 size] 3)).alloc (.cells #[.int .i64 base] 3)).alloc (.cells #[.slice none 0 0] 89)).alloc (.cells #[.bool false] 4) := ⟨_, rfl⟩
      have c0 : W0.cell? ⟨w.heap.size, 0, none⟩ = some (.string s) := by rw [hW0]; exact cellUp (cellUp (cellUp (cellUp (cellAt rfl) (by simp)) (by simp; omega)) (by simp; omega)) (by simp; omega)
      have c0d : W0.drew.cell? ⟨w.heap.size, 0, none⟩ = some (.string s) := c0
      rw [← hW0]
      have hz0 : W0.heap.size = w.heap.size + 1 + 1 + 1 + 1 + 1 := by rw [hW0]; simp
      have HD0 := Lib.hid (show Dig0 w s size base W0 by rw [hW0]; exact Dig0.new w s size base)
      have c0a := fun o => cellUp (o := o) c0d (by simp [hz0]; omega)
      clear hW0
      have KV0 := KV (W0.alloc (.cells #[.string s] 9)).drew (w.heap.size + 1 + 1 + 1 + 1 + 1) (by simp [hz0]) (by rw [← hz0]; exact At.new1 W0 (.string s) 9)
      go_region_held3 (fun w' => w'.cell? ⟨w.heap.size, 0, none⟩ = some (.string s))
        (first | exact c0 | exact c0a _ | exact k2 | exact k0 | go_keep)
        (first
          | (go_at_call 172; (with_reducible refine Calls.mono (KT _).out ?_); rintro e w2 ⟨rfl, hw2⟩; have k2 : w2.cell? ⟨w.heap.size, 0, none⟩ = some (.string s) := (by rcases hw2 with rfl | rfl <;> exact k0); have hb2 := below_or hw2; clear hw2)
          | (go_at_call 99; refine Calls.mono KV0.out ?_; rintro e w1 ⟨rfl, hb1⟩; have k0 := (hb1.cell (p := ⟨w.heap.size, 0, none⟩) (by simp [hz0]; omega)).trans (c0a _)))
      have HD2 := Lib.hid (HD0.out.below ((((Below.refl _ W0).alloc (Nat.le_refl _) (.cells #[.string s] 9)).drew.trans (hb1.mono (by simp))).trans (hb2.mono (Nat.le_trans (by simp) hb1.size))))
      clear hb1 hb2 k0 k2 c0 c0d c0a KV0 KV KT
      obtain ⟨V, hV⟩ : ∃ V, V = w2.heap.size := ⟨_, rfl⟩
      have hwV : w.heap.size ≤ V := by rw [hV]; exact HD2.out.b.size
      have hV5 : w.heap.size + 1 + 1 + 1 + 1 + 1 ≤ V := by rw [hV]; exact HD2.out.q2.lt
      have cx := (HD2.out.x0.alloc (.cells #[.slice none 0 0] 89)).cell
      gi_wp2_with (refine ⟨trivial, ?_⟩; gi_at_call 162; refine CallsIn.mono (callsIn_wide.2 (words_any _ _)) ?_; rintro e w4 ⟨rfl, rfl⟩)
      have bV := (Boxed.new w2 89 (.slice none 0 0)).alloc (.cells #[.string s] 9)
      have bY := Boxed.new (w2.alloc (.cells #[.slice none 0 0] 89)) 9 (.string s)
      have hD4 := HD2.out.below (((Below.refl _ w2).alloc (Nat.le_refl _) (.cells #[.slice none 0 0] 89)).alloc (by simp) (.cells #[.string s] 9))
      have hz4 : ((w2.alloc (.cells #[.slice none 0 0] 89)).alloc (.cells #[.string s] 9)).heap.size = V + 1 + 1 := by rw [hV]; simp
      obtain ⟨W4, hW4⟩ : ∃ W4, W4 = ((w2.alloc (.cells #[.slice none 0 0] 89)).alloc (.cells #[.string s] 9)) := ⟨_, rfl⟩
      simp only [World.size_alloc] at bV bY
      rw [← hV] at bV bY ⊢
      rw [← hW4] at bV bY hD4 hz4 ⊢
      have HST := Lib.hid ((KW W4 (V + 1) bY.cell (by omega)).out)
      clear hW4 hV KW cx
      refine wpIn_rangeFunc_ownH rfl (by omega) (gf := 179) (lb := #[.pointer (some ⟨V + 1, 0, none⟩)]) rfl trivial (enters_of Tryd.func179 (by kernel_rfl) rfl) (HST.out _ (Below.refl _ _)) (fun h k => k.trans h) (fun W l o o' hl _ _ _ => World.cell?_of_block (World.putObj_heap_other (by simp; omega))) (Below.refl _ _) (fun _ => rfl)
        (DigJ w V s size base) (fun c => DigX w (w.heap.size + 1 + 1 + 1) (w.heap.size + 1 + 1 + 1 + 1) s size base c) (DigJ.own w V s size base _ (by omega)) (fun c => DigX.own _ _ _ _ _ _ c _ (by omega))
        ⟨⟨hD4, bY, ⟨_, bV, World.ownsRow_nil _ _ _ _, trivial⟩⟩, rfl⟩
        (fun x a' W => ∃ X, a' = { tmps := #[.string s, .int .i64 size, .int .i64 base, .pointer (some ⟨w.heap.size, 0, none⟩), .pointer (some ⟨w.heap.size + 1, 0, none⟩), .pointer (some ⟨w.heap.size + 1 + 1, 0, none⟩), .pointer (some ⟨w.heap.size + 1 + 1 + 1, 0, none⟩), .pointer (some ⟨w.heap.size + 1 + 1 + 1 + 1, 0, none⟩), .pointer (some ⟨V, 0, none⟩), .pointer (some ⟨X, 0, none⟩), undef, undef, .string s, .slice (some ⟨w.heap.size + 1 + 1 + 1 + 1 + 1, 0, none⟩) 1 1, .bool true, .bool false, .bool false, .string s, .string ⟨(Lib.trimB s.data.toList 32).toArray⟩, .string s, .bool false, .bool false, .string s, .func (.func 179) #[] #[.pointer (some ⟨V + 1, 0, none⟩)], spv x.1, undef, undef, undef, undef, undef, undef, undef, undef, undef, undef, undef, undef, undef, undef, undef, undef, undef, undef, undef, undef, undef, undef, undef, undef, undef, undef, undef, undef, undef, undef, undef, undef, undef, undef, undef, undef, undef, undef, undef, undef, undef, undef, undef, undef, undef, undef, undef, undef, undef, undef, undef, undef, undef, undef], defers := [] } ∧ Box2 W X 124 (.int .i64 (x.1.1 : Int)) (.int .i64 (x.1.2 : Int)) ∧ V + 1 < X)
        (fun x a' _ Y Z row ⟨X, e, hb, hlt⟩ hg hr => ⟨X, e, hb.own hg (fun r e => (hr r e).2), hlt⟩) ?assign ?body ?done ?stop
      case assign =>
        intro l pre x W K hI hK
        have hVl := hI.1.y.lt
        have hKK := hK
        obtain ⟨⟨xa, xb⟩, hx1, hx2⟩ := x
        unfold spv at *
        dsimp only at *
        gi_wp2
        have hI' := hI.1.below ((Below.refl _ W).alloc (Nat.le_refl _) (.cells #[.int .i64 (xa : Int), .int .i64 (xb : Int)] 124))
        exact hKK _ _ ((KeepsOthers.alloc W _).from _) (hI'.y.cell.trans hI.1.y.cell.symm) ⟨hI', hI.2⟩ ⟨W.heap.size, rfl, Box2.new _ _ _ _, hVl⟩
      case body =>
        clear hz4 hD4 bV bY HST
        rintro l pre x a' W hl hlw ⟨hA, hall⟩ ⟨X, rfl, hX, hVX⟩ hlt
        obtain ⟨⟨xa, xb⟩, hx1, hx2⟩ := x
        dsimp only at hx1 hx2 hX
        obtain ⟨PV, hPV⟩ : ∃ PV, PV = wordsV (bts s) (pre.map (fun x => x.1)) := ⟨_, rfl⟩
        rw [← hPV] at hA
        have HA := Lib.hid hA
        have HALL := Lib.hid hall
        have HPV := Lib.hid hPV
        have HPL := Lib.hid (show PV.length ≤ 1000000 by rw [hPV]; have h1 := wordsV_le (bts s) (pre.map (fun x => x.1)); rw [List.length_map, bts_length] at h1; exact Nat.le_trans h1 (Nat.le_trans (Nat.mul_le_mul (show pre.length ≤ 1000 by omega) hlen) (by omega)))
        have HX := Lib.hid hX
        have d0 := hX.cell0
        have d1 := hX.cell1
        have e0 := hA.d.x0.cell
        have e1 := hA.d.x1.cell
        have e2 := hA.d.x2.cell
        have g1 := hA.d.q1.cell
        have g2 := hA.d.q2.cell
        have g3 := hA.d.q1.frozen
        have g4 := hA.d.q2.frozen
        clear hA hall hPV hX hlw
        by_cases h0 : 0 < xa
        · have hmm : (((xb : Int) - (xa : Int)) % (size : Int)) = (((xb - xa) % size : Nat) : Int) := by
            rw [show (xb : Int) - (xa : Int) = ((xb - xa : Nat) : Int) by omega]; rfl
          by_cases hm : (xb - xa) % size = 0
          · have hq : (((xb : Int) - (xa : Int)) % (size : Int) != 0) = false := by rw [hmm, hm]; rfl
            have HOK := Lib.hid (show (decide (xa = 0) || decide ((xb - xa) % size = 0)) = true by simp [hm])
            clear hmm hm
            gi_wp2
            gi_loopw [10] (fun v wr => ∃ k : Nat, v = .int .i64 k ∧ xa ≤ k ∧ k ≤ xb ∧ Hid (DigAt w V s size base (PV ++ (wordL (bts s) (xa, k)).map digB) wr) ∧ Hid (Box2 wr X 124 (.int .i64 (xa : Int)) (.int .i64 (xb : Int))) ∧ Hid ((wordL (bts s) (xa, k)).all (digOk base) = true) ∧ Hid (KeepsFrom W4.heap.size W wr)) (fun v _ => xb - (intOf v).toNat)
            case atStart => exact ⟨xa, rfl, Nat.le_refl _, by omega, Lib.hid (by rw [show wordL (bts s) (xa, xa) = [] by unfold wordL; simp]; simpa using HA.out), HX, Lib.hid (by rw [show wordL (bts s) (xa, xa) = [] by unfold wordL; simp]; rfl), Lib.hid (KeepsFrom.refl _ _)⟩
            case round =>
              obtain ⟨k, rfl, hk1, hk2, hd, hbx, hok, hkf⟩ := hrel
              have hkf' := hkf.out
              have hd' := hd.out
              have d1 := hbx.out.cell1
              have e0 := hd'.d.x0.cell
              have e2 := hd'.d.x2.cell
              have g1 := hd'.d.q1.cell
              have g2 := hd'.d.q2.cell
              have g3 := hd'.d.q1.frozen
              have g4 := hd'.d.q2.frozen
              clear hkf' hd'
              by_cases hlt : k < xb
              · have hks : k < s.size := by omega
                have hcg := bts_get s hks
                have KI := fun W => Lib.hid (Tryd.strings_IndexByte numB (s[k].toNat : Int) W)
                have hu : ((s[k].toNat : Int).toNat.toUInt8) = s[k] := by simp
                rw [hu] at KI
                obtain ⟨ix, hix⟩ : ∃ ix, ix = Lib.indexByte numB.data.toList s[k] := ⟨_, rfl⟩
                rw [← hix] at KI
                unfold numB at KI
                have hix1 : -1 ≤ ix ∧ ix < 16 := by rw [hix]; exact indexByte_le numB.data.toList s[k]
                have HIX := Lib.hid hix
                have HWS := Lib.hid (wordL_snoc hk1 hcg)
                clear hcg hu hix
                by_cases hA : 97 ≤ (s[k].toNat : Int) ∧ (s[k].toNat : Int) ≤ 102
                · obtain ⟨hA1, hA2⟩ := hA
                  have HDV := Lib.hid (show digV s[k] = (s[k].toNat : Int) - 97 + 10 by unfold digV; rw [if_pos (by omega)])
                  have hwa : IntKind.u8.wrap ((s[k].toNat : Int) - 97) = (s[k].toNat : Int) - 97 := by rw [IntKind.wrap_u8]; omega
                  by_cases hok1 : (s[k].toNat : Int) - 97 + 10 < (base : Int)
                  · have hok0 : 0 ≤ (s[k].toNat : Int) - 97 + 10 := by omega
                    obtain ⟨y, hy⟩ : ∃ y, y = digB s[k] := ⟨_, rfl⟩
                    have hy2 : (y.toNat : Int) = (s[k].toNat : Int) - 97 + 10 := by rw [hy]; unfold digB; rw [HDV.out]; exact u8_of_int (by omega) (by omega)
                    have HY := Lib.hid (show digB s[k] = y from hy.symm)
                    have HDO := Lib.hid (show digOk base s[k] = true by unfold digOk; rw [HDV.out]; simp; omega)
                    have hwb : IntKind.u8.wrap ((s[k].toNat : Int) - 97 + 10) = (y.toNat : Int) := by rw [hy2, IntKind.wrap_u8]; omega
                    clear hy hy2
                    obtain ⟨L, hL⟩ : ∃ L, L = PV ++ (wordL (bts s) (xa, k)).map digB := ⟨_, rfl⟩
                    rw [← hL] at hd
                    have hLl : L.length ≤ 2000000 := by
                      have h1 := wordL_le (bts s) (xa, k)
                      have h2 := HPL.out
                      rw [bts_length] at h1
                      rw [hL, List.length_append, List.length_map]; omega
                    have HLL := Lib.hid (show L ++ [y] = PV ++ (wordL (bts s) (xa, k + 1)).map digB by rw [hL, HWS.out, List.map_append, List.map_cons, List.map_nil, HY.out, List.append_assoc])
                    have HALK := Lib.hid (show (wordL (bts s) (xa, k + 1)).all (digOk base) = true by rw [HWS.out, all_snoc, hok.out, HDO.out]; rfl)
                    obtain ⟨v0, bv, hv, _⟩ := hd.out.v
                    have q1 := bv.cell
                    have q2 := bv.frozen
                    obtain ⟨i5, hi, hz0, hz1, hz2⟩ := info_parts info5
                    have HV := Lib.hid hv
                    have HBV := Lib.hid bv
                    obtain ⟨pl, hpl⟩ : ∃ pl, pl = L.length := ⟨_, rfl⟩
                    have HPLL := Lib.hid hpl
                    rw [← hpl] at HV hLl
                    have hws := hd.out.d.b.size
                    clear hv bv hL hpl
                    gi_wp2_with (first
                      | (refine ⟨trivial, ?_⟩; gi_at_call 173; refine CallsIn.mono (callsIn_wide.2 (KI _).out) ?_; rintro e w5 ⟨rfl, h5⟩; subst w5)
                      | (gi_at_builtin; go_loud (refine wpListIn_append_own _ rfl _ _ 89 rfl w.heap.size 5 i5 (.int .u8 0) 1 1 Tryd.underlying89 hi hz0 hz1 hz2 rfl (by decide) _ _ _ rfl (HV.out.alloc _) ⟨wr.heap.size, 0, none⟩ 1 1 [.int .u8 (y.toNat : Int)] rfl rfl ?d1a ?d1b (by unfold maxLen; omega) (by omega) (by simp; omega) ?_)))
                    try (case d1a => (intro j u hj; match j, hj with | 0, hj => (simp at hj; subst hj; simp [Addr.add])))
                    case d1b => first | (intro u hu; simp at hu; rw [hu]; rfl) | rfl
                    intro v' w4 hown' hgrow hnil
                    obtain ⟨g', cap', rfl⟩ := ownsRow_succ hown'
                    rw [HPLL.out] at hown'
                    obtain ⟨hb3, hd4, hkf4, hbx4⟩ := dig_app W4.heap.size hd.out HBV.out (by rw [← HPLL.out]; exact HV.out) hown' hgrow hV5
                    have e3 := hb3.cell
                    have e4 := hb3.frozen
                    have HD4 := Lib.hid hd4
                    have HKF4 := Lib.hid hkf4
                    have HBX4 := Lib.hid hbx4
                    clear hd4 hkf4 hbx4 hown' hgrow hnil hb3
                    try rw [← HPLL.out] at HD4 HKF4 HBX4
                    gi_wp2
                    go_roundw
                    case rel => exact ⟨k + 1, by go_num, by omega, by omega, Lib.hid (by rw [← HLL.out]; exact HD4.out), Lib.hid (HBX4.out _ _ _ hbx.out (by omega)), HALK, Lib.hid (hkf.out.trans HKF4.out)⟩
                    case measure => simp [intOf]; omega
                  · have HBAD := Lib.hid (show wordOk (bts s) size base (xa, xb) = false from bad_of_digit hk1 hlt (bts_get s hks) (by unfold digOk; rw [HDV.out]; simp; omega))
                    gi_wp2_with (refine ⟨trivial, ?_⟩; gi_at_call 173; refine CallsIn.mono (callsIn_wide.2 (KI _).out) ?_; rintro e w5 ⟨rfl, h5⟩; subst w5)
                    exact digX_ret hd.out hkf.out (by rw [List.map_append, List.map_cons, List.map_nil, all_snoc, HBAD.out]; simp)
                · have HDV := Lib.hid (show digV s[k] = ix by unfold digV; rw [if_neg (by omega), HIX.out])
                  by_cases hok1 : 0 ≤ ix ∧ ix < (base : Int)
                  · obtain ⟨hok0, hok2⟩ := hok1
                    obtain ⟨y, hy⟩ : ∃ y, y = digB s[k] := ⟨_, rfl⟩
                    have hy2 : (y.toNat : Int) = ix := by rw [hy]; unfold digB; rw [HDV.out]; exact u8_of_int (by omega) (by omega)
                    have HY := Lib.hid (show digB s[k] = y from hy.symm)
                    have HDO := Lib.hid (show digOk base s[k] = true by unfold digOk; rw [HDV.out]; simp; omega)
                    have hwb : IntKind.u8.wrap ix = (y.toNat : Int) := by rw [hy2, IntKind.wrap_u8]; omega
                    clear hy hy2
                    by_cases h97 : 97 ≤ (s[k].toNat : Int)
                    · have h102 : ¬ (s[k].toNat : Int) ≤ 102 := fun h => hA ⟨h97, h⟩
                      clear hA
                      obtain ⟨L, hL⟩ : ∃ L, L = PV ++ (wordL (bts s) (xa, k)).map digB := ⟨_, rfl⟩
                      rw [← hL] at hd
                      have hLl : L.length ≤ 2000000 := by
                        have h1 := wordL_le (bts s) (xa, k)
                        have h2 := HPL.out
                        rw [bts_length] at h1
                        rw [hL, List.length_append, List.length_map]; omega
                      have HLL := Lib.hid (show L ++ [y] = PV ++ (wordL (bts s) (xa, k + 1)).map digB by rw [hL, HWS.out, List.map_append, List.map_cons, List.map_nil, HY.out, List.append_assoc])
                      have HALK := Lib.hid (show (wordL (bts s) (xa, k + 1)).all (digOk base) = true by rw [HWS.out, all_snoc, hok.out, HDO.out]; rfl)
                      obtain ⟨v0, bv, hv, _⟩ := hd.out.v
                      have q1 := bv.cell
                      have q2 := bv.frozen
                      obtain ⟨i5, hi, hz0, hz1, hz2⟩ := info_parts info5
                      have HV := Lib.hid hv
                      have HBV := Lib.hid bv
                      obtain ⟨pl, hpl⟩ : ∃ pl, pl = L.length := ⟨_, rfl⟩
                      have HPLL := Lib.hid hpl
                      rw [← hpl] at HV hLl
                      have hws := hd.out.d.b.size
                      clear hv bv hL hpl
                      gi_wp2_with (first
                        | (refine ⟨trivial, ?_⟩; gi_at_call 173; refine CallsIn.mono (callsIn_wide.2 (KI _).out) ?_; rintro e w5 ⟨rfl, h5⟩; subst w5)
                        | (gi_at_builtin; go_loud (refine wpListIn_append_own _ rfl _ _ 89 rfl w.heap.size 5 i5 (.int .u8 0) 1 1 Tryd.underlying89 hi hz0 hz1 hz2 rfl (by decide) _ _ _ rfl (HV.out.alloc _) ⟨wr.heap.size, 0, none⟩ 1 1 [.int .u8 (y.toNat : Int)] rfl rfl ?d2a ?d2b (by unfold maxLen; omega) (by omega) (by simp; omega) ?_)))
                      try (case d2a => (intro j u hj; match j, hj with | 0, hj => (simp at hj; subst hj; simp [Addr.add])))
                      case d2b => first | (intro u hu; simp at hu; rw [hu]; rfl) | rfl
                      intro v' w4 hown' hgrow hnil
                      obtain ⟨g', cap', rfl⟩ := ownsRow_succ hown'
                      rw [HPLL.out] at hown'
                      obtain ⟨hb3, hd4, hkf4, hbx4⟩ := dig_app W4.heap.size hd.out HBV.out (by rw [← HPLL.out]; exact HV.out) hown' hgrow hV5
                      have e3 := hb3.cell
                      have e4 := hb3.frozen
                      have HD4 := Lib.hid hd4
                      have HKF4 := Lib.hid hkf4
                      have HBX4 := Lib.hid hbx4
                      clear hd4 hkf4 hbx4 hown' hgrow hnil hb3
                      try rw [← HPLL.out] at HD4 HKF4 HBX4
                      gi_wp2
                      go_roundw
                      case rel => exact ⟨k + 1, by go_num, by omega, by omega, Lib.hid (by rw [← HLL.out]; exact HD4.out), Lib.hid (HBX4.out _ _ _ hbx.out (by omega)), HALK, Lib.hid (hkf.out.trans HKF4.out)⟩
                      case measure => simp [intOf]; omega
                    · clear hA
                      obtain ⟨L, hL⟩ : ∃ L, L = PV ++ (wordL (bts s) (xa, k)).map digB := ⟨_, rfl⟩
                      rw [← hL] at hd
                      have hLl : L.length ≤ 2000000 := by
                        have h1 := wordL_le (bts s) (xa, k)
                        have h2 := HPL.out
                        rw [bts_length] at h1
                        rw [hL, List.length_append, List.length_map]; omega
                      have HLL := Lib.hid (show L ++ [y] = PV ++ (wordL (bts s) (xa, k + 1)).map digB by rw [hL, HWS.out, List.map_append, List.map_cons, List.map_nil, HY.out, List.append_assoc])
                      have HALK := Lib.hid (show (wordL (bts s) (xa, k + 1)).all (digOk base) = true by rw [HWS.out, all_snoc, hok.out, HDO.out]; rfl)
                      obtain ⟨v0, bv, hv, _⟩ := hd.out.v
                      have q1 := bv.cell
                      have q2 := bv.frozen
                      obtain ⟨i5, hi, hz0, hz1, hz2⟩ := info_parts info5
                      have HV := Lib.hid hv
                      have HBV := Lib.hid bv
                      obtain ⟨pl, hpl⟩ : ∃ pl, pl = L.length := ⟨_, rfl⟩
                      have HPLL := Lib.hid hpl
                      rw [← hpl] at HV hLl
                      have hws := hd.out.d.b.size
                      clear hv bv hL hpl
                      gi_wp2_with (first
                        | (refine ⟨trivial, ?_⟩; gi_at_call 173; refine CallsIn.mono (callsIn_wide.2 (KI _).out) ?_; rintro e w5 ⟨rfl, h5⟩; subst w5)
                        | (gi_at_builtin; go_loud (refine wpListIn_append_own _ rfl _ _ 89 rfl w.heap.size 5 i5 (.int .u8 0) 1 1 Tryd.underlying89 hi hz0 hz1 hz2 rfl (by decide) _ _ _ rfl (HV.out.alloc _) ⟨wr.heap.size, 0, none⟩ 1 1 [.int .u8 (y.toNat : Int)] rfl rfl ?d3a ?d3b (by unfold maxLen; omega) (by omega) (by simp; omega) ?_)))
                      try (case d3a => (intro j u hj; match j, hj with | 0, hj => (simp at hj; subst hj; simp [Addr.add])))
                      case d3b => first | (intro u hu; simp at hu; rw [hu]; rfl) | rfl
                      intro v' w4 hown' hgrow hnil
                      obtain ⟨g', cap', rfl⟩ := ownsRow_succ hown'
                      rw [HPLL.out] at hown'
                      obtain ⟨hb3, hd4, hkf4, hbx4⟩ := dig_app W4.heap.size hd.out HBV.out (by rw [← HPLL.out]; exact HV.out) hown' hgrow hV5
                      have e3 := hb3.cell
                      have e4 := hb3.frozen
                      have HD4 := Lib.hid hd4
                      have HKF4 := Lib.hid hkf4
                      have HBX4 := Lib.hid hbx4
                      clear hd4 hkf4 hbx4 hown' hgrow hnil hb3
                      try rw [← HPLL.out] at HD4 HKF4 HBX4
                      gi_wp2
                      go_roundw
                      case rel => exact ⟨k + 1, by go_num, by omega, by omega, Lib.hid (by rw [← HLL.out]; exact HD4.out), Lib.hid (HBX4.out _ _ _ hbx.out (by omega)), HALK, Lib.hid (hkf.out.trans HKF4.out)⟩
                      case measure => simp [intOf]; omega
                  · have HBAD := Lib.hid (show wordOk (bts s) size base (xa, xb) = false from bad_of_digit hk1 hlt (bts_get s hks) (by unfold digOk; rw [HDV.out]; simp; omega))
                    by_cases h97 : 97 ≤ (s[k].toNat : Int)
                    · have h102 : ¬ (s[k].toNat : Int) ≤ 102 := fun h => hA ⟨h97, h⟩
                      by_cases hneg : ix < 0
                      · gi_wp2_with (refine ⟨trivial, ?_⟩; gi_at_call 173; refine CallsIn.mono (callsIn_wide.2 (KI _).out) ?_; rintro e w5 ⟨rfl, h5⟩; subst w5)
                        exact digX_ret hd.out hkf.out (by rw [List.map_append, List.map_cons, List.map_nil, all_snoc, HBAD.out]; simp)
                      · have hge : (base : Int) ≤ ix := by omega
                        gi_wp2_with (refine ⟨trivial, ?_⟩; gi_at_call 173; refine CallsIn.mono (callsIn_wide.2 (KI _).out) ?_; rintro e w5 ⟨rfl, h5⟩; subst w5)
                        exact digX_ret hd.out hkf.out (by rw [List.map_append, List.map_cons, List.map_nil, all_snoc, HBAD.out]; simp)
                    · by_cases hneg : ix < 0
                      · gi_wp2_with (refine ⟨trivial, ?_⟩; gi_at_call 173; refine CallsIn.mono (callsIn_wide.2 (KI _).out) ?_; rintro e w5 ⟨rfl, h5⟩; subst w5)
                        exact digX_ret hd.out hkf.out (by rw [List.map_append, List.map_cons, List.map_nil, all_snoc, HBAD.out]; simp)
                      · have hge : (base : Int) ≤ ix := by omega
                        gi_wp2_with (refine ⟨trivial, ?_⟩; gi_at_call 173; refine CallsIn.mono (callsIn_wide.2 (KI _).out) ?_; rintro e w5 ⟨rfl, h5⟩; subst w5)
                        exact digX_ret hd.out hkf.out (by rw [List.map_append, List.map_cons, List.map_nil, all_snoc, HBAD.out]; simp)
              · obtain rfl : k = xb := by omega
                gi_wp2
                refine ⟨hkf.out, hd.out.y.cell.trans HA.out.y.cell.symm, ?_, ?_⟩
                · rw [List.map_append, List.map_cons, List.map_nil, wordsV_snoc, ← HPV.out]
                  exact hd.out
                · rw [List.map_append, List.map_cons, List.map_nil, all_snoc, HALL.out]
                  unfold wordOk
                  rw [hok.out]
                  exact (Bool.and_true _).trans HOK.out
          · have hq : (((xb : Int) - (xa : Int)) % (size : Int) != 0) = true := by rw [hmm]; simp; omega
            have HBAD := Lib.hid (show wordOk (bts s) size base (xa, xb) = false by unfold wordOk; simp [hm, show ¬ xa = 0 by omega])
            clear hmm hm
            gi_wp2
            exact digX_ret HA.out (KeepsFrom.refl _ _) (by rw [List.map_append, List.map_cons, List.map_nil, all_snoc, HBAD.out]; simp)
        · have HOK := Lib.hid (show (decide (xa = 0) || decide ((xb - xa) % size = 0)) = true by simp [show xa = 0 by omega])
          have h00 : ¬ (0 : Int) < (xa : Int) := by omega
          gi_wp2
          gi_loopw [10] (fun v wr => ∃ k : Nat, v = .int .i64 k ∧ xa ≤ k ∧ k ≤ xb ∧ Hid (DigAt w V s size base (PV ++ (wordL (bts s) (xa, k)).map digB) wr) ∧ Hid (Box2 wr X 124 (.int .i64 (xa : Int)) (.int .i64 (xb : Int))) ∧ Hid ((wordL (bts s) (xa, k)).all (digOk base) = true) ∧ Hid (KeepsFrom W4.heap.size W wr)) (fun v _ => xb - (intOf v).toNat)
          case atStart => exact ⟨xa, rfl, Nat.le_refl _, by omega, Lib.hid (by rw [show wordL (bts s) (xa, xa) = [] by unfold wordL; simp]; simpa using HA.out), HX, Lib.hid (by rw [show wordL (bts s) (xa, xa) = [] by unfold wordL; simp]; rfl), Lib.hid (KeepsFrom.refl _ _)⟩
          case round =>
            obtain ⟨k, rfl, hk1, hk2, hd, hbx, hok, hkf⟩ := hrel
            have hkf' := hkf.out
            have hd' := hd.out
            have d1 := hbx.out.cell1
            have e0 := hd'.d.x0.cell
            have e2 := hd'.d.x2.cell
            have g1 := hd'.d.q1.cell
            have g2 := hd'.d.q2.cell
            have g3 := hd'.d.q1.frozen
            have g4 := hd'.d.q2.frozen
            clear hkf' hd'
            by_cases hlt : k < xb
            · have hks : k < s.size := by omega
              have hcg := bts_get s hks
              have KI := fun W => Lib.hid (Tryd.strings_IndexByte numB (s[k].toNat : Int) W)
              have hu : ((s[k].toNat : Int).toNat.toUInt8) = s[k] := by simp
              rw [hu] at KI
              obtain ⟨ix, hix⟩ : ∃ ix, ix = Lib.indexByte numB.data.toList s[k] := ⟨_, rfl⟩
              rw [← hix] at KI
              unfold numB at KI
              have hix1 : -1 ≤ ix ∧ ix < 16 := by rw [hix]; exact indexByte_le numB.data.toList s[k]
              have HIX := Lib.hid hix
              have HWS := Lib.hid (wordL_snoc hk1 hcg)
              clear hcg hu hix
              by_cases hA : 97 ≤ (s[k].toNat : Int) ∧ (s[k].toNat : Int) ≤ 102
              · obtain ⟨hA1, hA2⟩ := hA
                have HDV := Lib.hid (show digV s[k] = (s[k].toNat : Int) - 97 + 10 by unfold digV; rw [if_pos (by omega)])
                have hwa : IntKind.u8.wrap ((s[k].toNat : Int) - 97) = (s[k].toNat : Int) - 97 := by rw [IntKind.wrap_u8]; omega
                by_cases hok1 : (s[k].toNat : Int) - 97 + 10 < (base : Int)
                · have hok0 : 0 ≤ (s[k].toNat : Int) - 97 + 10 := by omega
                  obtain ⟨y, hy⟩ : ∃ y, y = digB s[k] := ⟨_, rfl⟩
                  have hy2 : (y.toNat : Int) = (s[k].toNat : Int) - 97 + 10 := by rw [hy]; unfold digB; rw [HDV.out]; exact u8_of_int (by omega) (by omega)
                  have HY := Lib.hid (show digB s[k] = y from hy.symm)
                  have HDO := Lib.hid (show digOk base s[k] = true by unfold digOk; rw [HDV.out]; simp; omega)
                  have hwb : IntKind.u8.wrap ((s[k].toNat : Int) - 97 + 10) = (y.toNat : Int) := by rw [hy2, IntKind.wrap_u8]; omega
                  clear hy hy2
                  obtain ⟨L, hL⟩ : ∃ L, L = PV ++ (wordL (bts s) (xa, k)).map digB := ⟨_, rfl⟩
                  rw [← hL] at hd
                  have hLl : L.length ≤ 2000000 := by
                    have h1 := wordL_le (bts s) (xa, k)
                    have h2 := HPL.out
                    rw [bts_length] at h1
                    rw [hL, List.length_append, List.length_map]; omega
                  have HLL := Lib.hid (show L ++ [y] = PV ++ (wordL (bts s) (xa, k + 1)).map digB by rw [hL, HWS.out, List.map_append, List.map_cons, List.map_nil, HY.out, List.append_assoc])
                  have HALK := Lib.hid (show (wordL (bts s) (xa, k + 1)).all (digOk base) = true by rw [HWS.out, all_snoc, hok.out, HDO.out]; rfl)
                  obtain ⟨v0, bv, hv, _⟩ := hd.out.v
                  have q1 := bv.cell
                  have q2 := bv.frozen
                  obtain ⟨i5, hi, hz0, hz1, hz2⟩ := info_parts info5
                  have HV := Lib.hid hv
                  have HBV := Lib.hid bv
                  obtain ⟨pl, hpl⟩ : ∃ pl, pl = L.length := ⟨_, rfl⟩
                  have HPLL := Lib.hid hpl
                  rw [← hpl] at HV hLl
                  have hws := hd.out.d.b.size
                  clear hv bv hL hpl
                  gi_wp2_with (first
                    | (refine ⟨trivial, ?_⟩; gi_at_call 173; refine CallsIn.mono (callsIn_wide.2 (KI _).out) ?_; rintro e w5 ⟨rfl, h5⟩; subst w5)
                    | (gi_at_builtin; go_loud (refine wpListIn_append_own _ rfl _ _ 89 rfl w.heap.size 5 i5 (.int .u8 0) 1 1 Tryd.underlying89 hi hz0 hz1 hz2 rfl (by decide) _ _ _ rfl (HV.out.alloc _) ⟨wr.heap.size, 0, none⟩ 1 1 [.int .u8 (y.toNat : Int)] rfl rfl ?d4a ?d4b (by unfold maxLen; omega) (by omega) (by simp; omega) ?_)))
                  try (case d4a => (intro j u hj; match j, hj with | 0, hj => (simp at hj; subst hj; simp [Addr.add])))
                  case d4b => first | (intro u hu; simp at hu; rw [hu]; rfl) | rfl
                  intro v' w4 hown' hgrow hnil
                  obtain ⟨g', cap', rfl⟩ := ownsRow_succ hown'
                  rw [HPLL.out] at hown'
                  obtain ⟨hb3, hd4, hkf4, hbx4⟩ := dig_app W4.heap.size hd.out HBV.out (by rw [← HPLL.out]; exact HV.out) hown' hgrow hV5
                  have e3 := hb3.cell
                  have e4 := hb3.frozen
                  have HD4 := Lib.hid hd4
                  have HKF4 := Lib.hid hkf4
                  have HBX4 := Lib.hid hbx4
                  clear hd4 hkf4 hbx4 hown' hgrow hnil hb3
                  try rw [← HPLL.out] at HD4 HKF4 HBX4
                  gi_wp2
                  go_roundw
                  case rel => exact ⟨k + 1, by go_num, by omega, by omega, Lib.hid (by rw [← HLL.out]; exact HD4.out), Lib.hid (HBX4.out _ _ _ hbx.out (by omega)), HALK, Lib.hid (hkf.out.trans HKF4.out)⟩
                  case measure => simp [intOf]; omega
                · have HBAD := Lib.hid (show wordOk (bts s) size base (xa, xb) = false from bad_of_digit hk1 hlt (bts_get s hks) (by unfold digOk; rw [HDV.out]; simp; omega))
                  gi_wp2_with (refine ⟨trivial, ?_⟩; gi_at_call 173; refine CallsIn.mono (callsIn_wide.2 (KI _).out) ?_; rintro e w5 ⟨rfl, h5⟩; subst w5)
                  exact digX_ret hd.out hkf.out (by rw [List.map_append, List.map_cons, List.map_nil, all_snoc, HBAD.out]; simp)
              · have HDV := Lib.hid (show digV s[k] = ix by unfold digV; rw [if_neg (by omega), HIX.out])
                by_cases hok1 : 0 ≤ ix ∧ ix < (base : Int)
                · obtain ⟨hok0, hok2⟩ := hok1
                  obtain ⟨y, hy⟩ : ∃ y, y = digB s[k] := ⟨_, rfl⟩
                  have hy2 : (y.toNat : Int) = ix := by rw [hy]; unfold digB; rw [HDV.out]; exact u8_of_int (by omega) (by omega)
                  have HY := Lib.hid (show digB s[k] = y from hy.symm)
                  have HDO := Lib.hid (show digOk base s[k] = true by unfold digOk; rw [HDV.out]; simp; omega)
                  have hwb : IntKind.u8.wrap ix = (y.toNat : Int) := by rw [hy2, IntKind.wrap_u8]; omega
                  clear hy hy2
                  by_cases h97 : 97 ≤ (s[k].toNat : Int)
                  · have h102 : ¬ (s[k].toNat : Int) ≤ 102 := fun h => hA ⟨h97, h⟩
                    clear hA
                    obtain ⟨L, hL⟩ : ∃ L, L = PV ++ (wordL (bts s) (xa, k)).map digB := ⟨_, rfl⟩
                    rw [← hL] at hd
                    have hLl : L.length ≤ 2000000 := by
                      have h1 := wordL_le (bts s) (xa, k)
                      have h2 := HPL.out
                      rw [bts_length] at h1
                      rw [hL, List.length_append, List.length_map]; omega
                    have HLL := Lib.hid (show L ++ [y] = PV ++ (wordL (bts s) (xa, k + 1)).map digB by rw [hL, HWS.out, List.map_append, List.map_cons, List.map_nil, HY.out, List.append_assoc])
                    have HALK := Lib.hid (show (wordL (bts s) (xa, k + 1)).all (digOk base) = true by rw [HWS.out, all_snoc, hok.out, HDO.out]; rfl)
                    obtain ⟨v0, bv, hv, _⟩ := hd.out.v
                    have q1 := bv.cell
                    have q2 := bv.frozen
                    obtain ⟨i5, hi, hz0, hz1, hz2⟩ := info_parts info5
                    have HV := Lib.hid hv
                    have HBV := Lib.hid bv
                    obtain ⟨pl, hpl⟩ : ∃ pl, pl = L.length := ⟨_, rfl⟩
                    have HPLL := Lib.hid hpl
                    rw [← hpl] at HV hLl
                    have hws := hd.out.d.b.size
                    clear hv bv hL hpl
                    gi_wp2_with (first
                      | (refine ⟨trivial, ?_⟩; gi_at_call 173; refine CallsIn.mono (callsIn_wide.2 (KI _).out) ?_; rintro e w5 ⟨rfl, h5⟩; subst w5)
                      | (gi_at_builtin; go_loud (refine wpListIn_append_own _ rfl _ _ 89 rfl w.heap.size 5 i5 (.int .u8 0) 1 1 Tryd.underlying89 hi hz0 hz1 hz2 rfl (by decide) _ _ _ rfl (HV.out.alloc _) ⟨wr.heap.size, 0, none⟩ 1 1 [.int .u8 (y.toNat : Int)] rfl rfl ?d5a ?d5b (by unfold maxLen; omega) (by omega) (by simp; omega) ?_)))
                    try (case d5a => (intro j u hj; match j, hj with | 0, hj => (simp at hj; subst hj; simp [Addr.add])))
                    case d5b => first | (intro u hu; simp at hu; rw [hu]; rfl) | rfl
                    intro v' w4 hown' hgrow hnil
                    obtain ⟨g', cap', rfl⟩ := ownsRow_succ hown'
                    rw [HPLL.out] at hown'
                    obtain ⟨hb3, hd4, hkf4, hbx4⟩ := dig_app W4.heap.size hd.out HBV.out (by rw [← HPLL.out]; exact HV.out) hown' hgrow hV5
                    have e3 := hb3.cell
                    have e4 := hb3.frozen
                    have HD4 := Lib.hid hd4
                    have HKF4 := Lib.hid hkf4
                    have HBX4 := Lib.hid hbx4
                    clear hd4 hkf4 hbx4 hown' hgrow hnil hb3
                    try rw [← HPLL.out] at HD4 HKF4 HBX4
                    gi_wp2
                    go_roundw
                    case rel => exact ⟨k + 1, by go_num, by omega, by omega, Lib.hid (by rw [← HLL.out]; exact HD4.out), Lib.hid (HBX4.out _ _ _ hbx.out (by omega)), HALK, Lib.hid (hkf.out.trans HKF4.out)⟩
                    case measure => simp [intOf]; omega
                  · clear hA
                    obtain ⟨L, hL⟩ : ∃ L, L = PV ++ (wordL (bts s) (xa, k)).map digB := ⟨_, rfl⟩
                    rw [← hL] at hd
                    have hLl : L.length ≤ 2000000 := by
                      have h1 := wordL_le (bts s) (xa, k)
                      have h2 := HPL.out
                      rw [bts_length] at h1
                      rw [hL, List.length_append, List.length_map]; omega
                    have HLL := Lib.hid (show L ++ [y] = PV ++ (wordL (bts s) (xa, k + 1)).map digB by rw [hL, HWS.out, List.map_append, List.map_cons, List.map_nil, HY.out, List.append_assoc])
                    have HALK := Lib.hid (show (wordL (bts s) (xa, k + 1)).all (digOk base) = true by rw [HWS.out, all_snoc, hok.out, HDO.out]; rfl)
                    obtain ⟨v0, bv, hv, _⟩ := hd.out.v
                    have q1 := bv.cell
                    have q2 := bv.frozen
                    obtain ⟨i5, hi, hz0, hz1, hz2⟩ := info_parts info5
                    have HV := Lib.hid hv
                    have HBV := Lib.hid bv
                    obtain ⟨pl, hpl⟩ : ∃ pl, pl = L.length := ⟨_, rfl⟩
                    have HPLL := Lib.hid hpl
                    rw [← hpl] at HV hLl
                    have hws := hd.out.d.b.size
                    clear hv bv hL hpl
                    gi_wp2_with (first
                      | (refine ⟨trivial, ?_⟩; gi_at_call 173; refine CallsIn.mono (callsIn_wide.2 (KI _).out) ?_; rintro e w5 ⟨rfl, h5⟩; subst w5)
                      | (gi_at_builtin; go_loud (refine wpListIn_append_own _ rfl _ _ 89 rfl w.heap.size 5 i5 (.int .u8 0) 1 1 Tryd.underlying89 hi hz0 hz1 hz2 rfl (by decide) _ _ _ rfl (HV.out.alloc _) ⟨wr.heap.size, 0, none⟩ 1 1 [.int .u8 (y.toNat : Int)] rfl rfl ?d6a ?d6b (by unfold maxLen; omega) (by omega) (by simp; omega) ?_)))
                    try (case d6a => (intro j u hj; match j, hj with | 0, hj => (simp at hj; subst hj; simp [Addr.add])))
                    case d6b => first | (intro u hu; simp at hu; rw [hu]; rfl) | rfl
                    intro v' w4 hown' hgrow hnil
                    obtain ⟨g', cap', rfl⟩ := ownsRow_succ hown'
                    rw [HPLL.out] at hown'
                    obtain ⟨hb3, hd4, hkf4, hbx4⟩ := dig_app W4.heap.size hd.out HBV.out (by rw [← HPLL.out]; exact HV.out) hown' hgrow hV5
                    have e3 := hb3.cell
                    have e4 := hb3.frozen
                    have HD4 := Lib.hid hd4
                    have HKF4 := Lib.hid hkf4
                    have HBX4 := Lib.hid hbx4
                    clear hd4 hkf4 hbx4 hown' hgrow hnil hb3
                    try rw [← HPLL.out] at HD4 HKF4 HBX4
                    gi_wp2
                    go_roundw
                    case rel => exact ⟨k + 1, by go_num, by omega, by omega, Lib.hid (by rw [← HLL.out]; exact HD4.out), Lib.hid (HBX4.out _ _ _ hbx.out (by omega)), HALK, Lib.hid (hkf.out.trans HKF4.out)⟩
                    case measure => simp [intOf]; omega
                · have HBAD := Lib.hid (show wordOk (bts s) size base (xa, xb) = false from bad_of_digit hk1 hlt (bts_get s hks) (by unfold digOk; rw [HDV.out]; simp; omega))
                  by_cases h97 : 97 ≤ (s[k].toNat : Int)
                  · have h102 : ¬ (s[k].toNat : Int) ≤ 102 := fun h => hA ⟨h97, h⟩
                    by_cases hneg : ix < 0
                    · gi_wp2_with (refine ⟨trivial, ?_⟩; gi_at_call 173; refine CallsIn.mono (callsIn_wide.2 (KI _).out) ?_; rintro e w5 ⟨rfl, h5⟩; subst w5)
                      exact digX_ret hd.out hkf.out (by rw [List.map_append, List.map_cons, List.map_nil, all_snoc, HBAD.out]; simp)
                    · have hge : (base : Int) ≤ ix := by omega
                      gi_wp2_with (refine ⟨trivial, ?_⟩; gi_at_call 173; refine CallsIn.mono (callsIn_wide.2 (KI _).out) ?_; rintro e w5 ⟨rfl, h5⟩; subst w5)
                      exact digX_ret hd.out hkf.out (by rw [List.map_append, List.map_cons, List.map_nil, all_snoc, HBAD.out]; simp)
                  · by_cases hneg : ix < 0
                    · gi_wp2_with (refine ⟨trivial, ?_⟩; gi_at_call 173; refine CallsIn.mono (callsIn_wide.2 (KI _).out) ?_; rintro e w5 ⟨rfl, h5⟩; subst w5)
                      exact digX_ret hd.out hkf.out (by rw [List.map_append, List.map_cons, List.map_nil, all_snoc, HBAD.out]; simp)
                    · have hge : (base : Int) ≤ ix := by omega
                      gi_wp2_with (refine ⟨trivial, ?_⟩; gi_at_call 173; refine CallsIn.mono (callsIn_wide.2 (KI _).out) ?_; rintro e w5 ⟨rfl, h5⟩; subst w5)
                      exact digX_ret hd.out hkf.out (by rw [List.map_append, List.map_cons, List.map_nil, all_snoc, HBAD.out]; simp)
            · obtain rfl : k = xb := by omega
              gi_wp2
              refine ⟨hkf.out, hd.out.y.cell.trans HA.out.y.cell.symm, ?_, ?_⟩
              · rw [List.map_append, List.map_cons, List.map_nil, wordsV_snoc, ← HPV.out]
                exact hd.out
              · rw [List.map_append, List.map_cons, List.map_nil, all_snoc, HALL.out]
                unfold wordOk
                rw [hok.out]
                exact (Bool.and_true _).trans HOK.out
      case done =>
        rintro D ys W hD hys ⟨hA, hall⟩ hK
        rw [hys] at hA hall
        have HR := Lib.hid (show digitsL (bts s) size base = some (wordsV (bts s) (spans (bts s))) by unfold digitsL; rw [hv, HTR.out, hall]; rfl)
        obtain ⟨L, hL⟩ : ∃ L, L = wordsV (bts s) (spans (bts s)) := ⟨_, rfl⟩
        rw [← hL] at hA HR
        obtain ⟨v0, bv, hvv, _⟩ := hA.v
        have HV := Lib.hid hvv
        have q1 := bv.cell
        have g1 := hA.d.q1.cell
        have g2 := hA.d.q2.cell
        have g3 := hA.d.q1.frozen
        have g4 := hA.d.q2.frozen
        have HD := Lib.hid hA.d
        have HK := Lib.hid hK
        obtain ⟨va, vn, vc, hva⟩ : ∃ va vn vc, v0 = .slice va vn vc := by
          obtain ⟨_, ⟨e, _⟩ | ⟨g, cap, cur, e, _⟩⟩ := hvv
          · exact ⟨_, _, _, e⟩
          · exact ⟨_, _, _, e⟩
        subst hva
        have HBV := Lib.hid bv
        clear hys hA hall hL bv hvv hK hD4 bV bY HST
        gi_wp2
        have k2 := deferred_set (v := .slice va vn vc) HK.out HD.out.q1
        have x1 := HD.out.q1.set (.slice va vn vc)
        have x2 := (HD.out.q2.other (B' := w.heap.size + 1 + 1 + 1) (by omega) (.slice va vn vc))
        have k3 := deferred_set (v := .bool true) k2 x2
        have y1 := boxed_put (x1.other (B' := w.heap.size + 1 + 1 + 1 + 1) (by omega) (.bool true)) k3 rfl (.deferred none)
        have y2 := boxed_put (x2.set (.bool true)) k3 rfl (.deferred none)
        have z1 := y1.cell
        have z2 := y2.cell
        have r1 := (HV.out.kept (grownBy_setCell' W (w.heap.size + 1 + 1 + 1) (.slice va vn vc)) (.inr (fun e => HD.out.q1.not_row (by decide) HV.out e.symm)))
        have r2 := r1.kept (grownBy_setCell' _ (w.heap.size + 1 + 1 + 1 + 1) (.bool true)) (.inr (fun e => x2.not_row (by decide) r1 e.symm))
        have r3 := ownsRow_putObj r2 (.deferred none) k3 rfl
        have hb3 : Below w.heap.size w ((W.setCell ⟨w.heap.size + 1 + 1 + 1, 0, none⟩ (.slice va vn vc)).setCell ⟨w.heap.size + 1 + 1 + 1 + 1, 0, none⟩ (.bool true)) := (HD.out.b.setCell (p := ⟨w.heap.size + 1 + 1 + 1, 0, none⟩) (by simp; omega) _).setCell (p := ⟨w.heap.size + 1 + 1 + 1 + 1, 0, none⟩) (by simp; omega) _
        have hb4 := hb3.trans (belowK_b (w := w) (Nat.le_refl _) _ D _ (.deferred none) (by omega) k3 rfl rfl)
        refine ⟨by simp, .inl ⟨_, _, rfl, run_takeDeferred k3, ?_⟩⟩
        refine ⟨.tuple #[.slice va vn vc, .bool true], by simp [results, Tryd.results150, go_sem, z1, z2], ?_⟩
        refine ⟨_, _, rfl, hb4, ?_⟩
        rw [HR.out]
        exact ⟨rfl, r3⟩
      case stop =>
        rintro D c pre W hD ⟨r, hpre⟩ ⟨rfl, hq1, hq2, hbad, hIb⟩ hK
        have HR := Lib.hid (show digitsL (bts s) size base = none by
          unfold digitsL
          rw [← hpre, List.all_append, hbad]; simp)
        have g1 := hq1.cell
        have g2 := hq2.cell
        have HQ1 := Lib.hid hq1
        have HQ2 := Lib.hid hq2
        have HB := Lib.hid hIb
        have HK := Lib.hid hK
        clear hpre hbad hq1 hq2 hIb hK hD4 bV bY HST
        gi_wp2
        have z1 := (boxed_put HQ1.out HK.out rfl (.deferred none)).cell
        have z2 := (boxed_put HQ2.out HK.out rfl (.deferred none)).cell
        refine ⟨by simp, .inl ⟨_, _, rfl, run_takeDeferred HK.out, ?_⟩⟩
        refine ⟨.tuple #[.slice none 0 0, .bool false], by simp [results, Tryd.results150, go_sem, z1, z2], ?_⟩
        refine ⟨_, _, rfl, HB.out.trans (belowK_b (w := w) (Nat.le_refl _) _ D _ (.deferred none) (by omega) HK.out rfl rfl), ?_⟩
        rw [HR.out]
        exact ⟨rfl, rfl⟩
end Go.Proofs.YtoilgjlbpimcpaaDoor
