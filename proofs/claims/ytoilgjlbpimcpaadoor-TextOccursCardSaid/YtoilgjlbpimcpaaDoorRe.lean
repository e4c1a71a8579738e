/- Change: what is written, as a fold over the occurrences; the boxes. -/
import Derived.Test.YtoilgjlbpimcpaaDoorRc
import Derived.Test.YtoilgjlbpimcpaaDoorRd
import Derived.Test.YtoilgjlbpimcpaaDoorZu
namespace Go.Proofs.YtoilgjlbpimcpaaDoor
open Go.RowKit Go.Shelf Tx
set_option linter.unusedVariables false
set_option maxRecDepth 100000

namespace Tx
/-- One occurrence more: what has been written, and how far the string has been read. -/
def chS (p l w : List UInt8) (a : List UInt8 × Nat) (z : Int) : List UInt8 × Nat := (a.1 ++ ((l.drop a.2).take (z.toNat - a.2) ++ w), z.toNat + p.length)
def chF (p l w : List UInt8) (xs : List Int) : List UInt8 × Nat := xs.foldl (chS p l w) ([], 0)
theorem chF_snoc (p l w : List UInt8) (xs : List Int) (z : Int) : chF p l w (xs ++ [z]) = chS p l w (chF p l w xs) z := by unfold chF; rw [List.foldl_append]; rfl
theorem chZ_fold (p l w : List UInt8) : ∀ (k f : Nat) (z : Int) (B : List UInt8), B ++ chgZ p l w k f z = ((occZ p l k z).foldl (chS p l w) (B, f)).1 ++ l.drop ((occZ p l k z).foldl (chS p l w) (B, f)).2
  | 0, f, z, B => rfl
  | k + 1, f, z, B => by
    by_cases hz : z < 0
    · rw [chgZ_end hz]; unfold occZ; rw [if_pos hz]; rfl
    · rw [chgZ, if_neg hz, occZ_step hz, List.foldl_cons, ← List.append_assoc, chZ_fold p l w k]
      rfl
theorem changed_fold (p l w : List UInt8) : changedL p l w = (chF p l w (occs p l)).1 ++ l.drop (chF p l w (occs p l)).2 := by
  have := chZ_fold p l w (l.length + 1) 0 (fromB p l 0) []
  rw [List.nil_append] at this
  exact this
theorem occZ_len (p l : List UInt8) : ∀ (k : Nat) (z : Int), (occZ p l k z).length ≤ k
  | 0, z => Nat.le_refl _
  | k + 1, z => by
    by_cases hz : z < 0
    · unfold occZ; rw [if_pos hz]; exact Nat.zero_le _
    · rw [occZ_step hz, List.length_cons]; exact Nat.succ_le_succ (occZ_len p l k _)
theorem occs_len (p l : List UInt8) : (occs p l).length ≤ l.length + 1 := occZ_len p l _ _
/-- An occurrence stands behind those ahead of it. -/
theorem occZ_next {p l w : List UInt8} {z : Int} {r : List Int} : ∀ (A : List Int) (k f : Nat) (z0 : Int) (B : List UInt8), (0 ≤ z0 → (f : Int) ≤ z0) → occZ p l k z0 = A ++ z :: r → ((A.foldl (chS p l w) (B, f)).2 : Int) ≤ z
  | [], 0, f, z0, B, hf, h => by cases h
  | [], k + 1, f, z0, B, hf, h => by
    by_cases hz : z0 < 0
    · unfold occZ at h; rw [if_pos hz] at h; cases h
    · rw [occZ_step hz] at h
      have : z0 = z := by simpa using (List.cons.inj h).1
      subst this
      exact hf (by omega)
  | a :: A, 0, f, z0, B, hf, h => by cases h
  | a :: A, k + 1, f, z0, B, hf, h => by
    by_cases hz : z0 < 0
    · unfold occZ at h; rw [if_pos hz] at h; cases h
    · rw [occZ_step hz] at h
      obtain ⟨h1, h2⟩ := List.cons.inj h
      subst h1
      rw [List.foldl_cons]
      refine occZ_next A k _ _ _ (fun h0 => ?_) h2
      have hb := from_bds p l (z0.toNat + p.length)
      rw [Int.natCast_add, Int.toNat_of_nonneg (by omega)] at hb
      show ((z0.toNat + p.length : Nat) : Int) ≤ _
      rw [Int.natCast_add, Int.toNat_of_nonneg (by omega)]
      omega
theorem occs_next {p l w : List UInt8} {z : Int} {A r : List Int} (h : occs p l = A ++ z :: r) : ((chF p l w A).2 : Int) ≤ z := by
  unfold occs at h
  have hb := from_bds p l 0
  exact occZ_next A _ 0 _ [] (fun h0 => h0) h
theorem chF_len (p l w : List UInt8) (xs : List Int) : (chF p l w xs).1.length ≤ xs.length * (l.length + w.length) := by
  have H : ∀ (xs : List Int) (a : List UInt8 × Nat), (xs.foldl (chS p l w) a).1.length ≤ a.1.length + xs.length * (l.length + w.length) := by
    intro xs
    induction xs with
    | nil => intro a; simp
    | cons z xs ih =>
      intro a
      rw [List.foldl_cons]
      refine Nat.le_trans (ih _) ?_
      have h1 : (chS p l w a z).1.length ≤ a.1.length + (l.length + w.length) := by
        unfold chS
        simp only [List.length_append, List.length_take, List.length_drop]
        omega
      rw [List.length_cons, Nat.add_mul, Nat.one_mul]
      omega
  have := H xs ([], 0)
  simpa [chF] using this
theorem chF_le {p l w : List UInt8} (xs : List Int) (h : ∀ x ∈ xs, 0 ≤ x ∧ x + p.length ≤ l.length) : (chF p l w xs).2 ≤ l.length := by
  by_cases h0 : xs = []
  · subst h0; exact Nat.zero_le _
  · obtain ⟨ys, z, rfl⟩ : ∃ ys z, xs = ys ++ [z] := ⟨_, _, (List.dropLast_concat_getLast h0).symm⟩
    rw [chF_snoc]
    have := h z (by simp)
    show z.toNat + p.length ≤ _
    omega
theorem clean_of {l m : List UInt8} (h : cleanL l = true) (hm : ∀ c ∈ m, c ∈ l) : cleanL m = true := by
  unfold cleanL at *
  rw [List.all_eq_true] at *
  exact fun c hc => h c (hm c hc)
theorem clean_two {l m : List UInt8} (h : cleanL l = true) (h2 : cleanL m = true) : cleanL (l ++ m) = true := by
  unfold cleanL at *
  rw [List.all_append, h, h2]; rfl
theorem clean_chZ {p l w : List UInt8} (hl : cleanL l = true) (hw : cleanL w = true) : ∀ (k f : Nat) (z : Int), cleanL (chgZ p l w k f z) = true
  | 0, f, z => clean_of hl (fun c hc => List.mem_of_mem_drop hc)
  | k + 1, f, z => by
    by_cases hz : z < 0
    · rw [chgZ_end hz]; exact clean_of hl (fun c hc => List.mem_of_mem_drop hc)
    · rw [chgZ, if_neg hz]
      exact clean_two (clean_two (clean_of hl (fun c hc => List.mem_of_mem_drop (List.mem_of_mem_take hc))) hw) (clean_chZ hl hw k _ _)
end Tx

theorem Bld.own {B b : Nat} {l : List UInt8} {W W' : World} {row : Option Nat} (h : Bld B b l W) (hg : W.grownBy W' row) (hr : ∀ r, row = some r → ∃ o : Obj, W.heap[r]? = some o ∧ o.isCells = false) : Bld B b l W' := by
  have K : ∀ p, Lib.BuilderAt 106 5 B b p (Lib.byteCells l) W → Lib.BuilderAt 106 5 B b p (Lib.byteCells l) W' := by
    rintro p ⟨hB, v, hbk, hown, hne⟩
    refine ⟨hB, v, (hg.block b (Array.getElem?_eq_some_iff.1 hbk).1 (fun e => ?_)).trans hbk, hown.kept hg ?_, hne⟩
    · obtain ⟨o, ho, hc⟩ := hr b e.symm
      rw [hbk] at ho; cases ho; cases hc
    · rcases hown.2 with ⟨rfl, _⟩ | ⟨g, cap, cur, rfl, _, hgb, _⟩
      · exact .inl rfl
      · refine .inr fun e => ?_
        obtain ⟨o, ho, hc⟩ := hr g (by simpa [Value.ownBlock] using e.symm)
        rw [hgb] at ho; cases ho; cases hc
  exact h.imp (K _) (K _)
theorem Bld.row {B b : Nat} {l : List UInt8} {W : World} (h : Bld B b l W) : ∃ p v, W.heap[b]? = some (.cells #[p, v] 106 (0, 0)) ∧ B ≤ b := by
  rcases h with ⟨hB, v, hbk, _⟩ | ⟨hB, v, hbk, _⟩
  · exact ⟨_, _, hbk, hB⟩
  · exact ⟨_, _, hbk, hB⟩
theorem Bld.alloc {B b : Nat} {l : List UInt8} {W : World} (h : Bld B b l W) (o : Obj) : Bld B b l (W.alloc o) := h.own (World.grownBy_alloc W o none) (fun r e => by cases e)
theorem Bld.new (w W : World) (hB : w.heap.size ≤ W.heap.size) : Bld w.heap.size W.heap.size [] (W.alloc (.cells #[.pointer none, .slice none 0 0] 106)) :=
  .inl ⟨hB, .slice none 0 0, World.alloc_heap_new W _, World.ownsRow_nil _ _ _ _, by simp [Value.ownBlock]⟩
theorem Bld.set {B b C : Nat} {l : List UInt8} {W : World} {x v : Value} (h : Bld B b l W) (hx : Boxed W C 3 x) (hne : b ≠ C) : Bld B b l (W.setCell ⟨C, 0, none⟩ v) := by
  have K : ∀ p, Lib.BuilderAt 106 5 B b p (Lib.byteCells l) W → Lib.BuilderAt 106 5 B b p (Lib.byteCells l) (W.setCell ⟨C, 0, none⟩ v) := by
    rintro p ⟨hB, y, hbk, hown, hn⟩
    have hg := grownBy_setCell' W C v
    refine ⟨hB, y, (hg.block b (Array.getElem?_eq_some_iff.1 hbk).1 (by simpa using hne)).trans hbk, hown.kept hg ?_, hn⟩
    exact .inr (Lib.ownBlock_ne hown (show W.heap[C]? = some (.cells #[x] 3 (0, 0)) from hx) (by decide))
  exact h.imp (K _) (K _)
/-- A box is kept where rows of bytes and one block change. -/
theorem Oth.box {b B : Nat} {t : TypeId} {v : Value} {W W' : World} (h : Oth b W W') (hx : Boxed W B t v) (hne : B ≠ b) (ht : t ≠ 5) : Boxed W' B t v :=
  h B _ hx (by simpa using hne) (fun c fz e => by injection e with _ e2; exact ht e2)
theorem Oth.keeps {B b : Nat} {l : List UInt8} {W W' : World} (h : Oth b W W') (hb : Bld B b l W) (hs : W.heap.size ≤ W'.heap.size) : KeepsOthers W W' :=
  ⟨hs, fun k o hk hc => h k o hk (fun e => by
    obtain ⟨p, v, hr, _⟩ := hb.row
    injection e with e; subst e
    rw [hr] at hk; cases hk; cases hc) (fun c fz e => by subst e; cases hc)⟩

/-- Between two rounds of Change. -/
structure ChB (w : World) (C : Nat) (p s u : ByteArray) (d : Nat) (l : List UInt8) (W : World) : Prop where
  fp : Boxed W w.heap.size 9 (.string p)
  fs : Boxed W (w.heap.size + 1) 9 (.string s)
  fu : Boxed W (w.heap.size + 1 + 1) 9 (.string u)
  fd : Boxed W (C + 1) 3 (.int .i64 (d : Int))
  bl : Bld w.heap.size C l W
  b : Below w.heap.size w W
theorem ChB.kept {w : World} {C : Nat} {p s u : ByteArray} {d : Nat} {l : List UInt8} {X Y : World} {row : Option Nat} (h : ChB w C p s u d l X) (hg : X.grownBy Y row)
    (hrow : ∀ r, row = some r → w.heap.size ≤ r ∧ ∃ o : Obj, X.heap[r]? = some o ∧ o.isCells = false) : ChB w C p s u d l Y := by
  have hr := fun r e => (hrow r e).2
  obtain ⟨h1, h2, h3, h4, h5, h6⟩ := h
  exact ⟨h1.kept hg (boxed_not_row hr h1), h2.kept hg (boxed_not_row hr h2), h3.kept hg (boxed_not_row hr h3), h4.kept hg (boxed_not_row hr h4), h5.own hg hr, h6.grown hg h6.size (fun k e => (hrow k e).1)⟩
/-- Something is written. -/
theorem ChB.wrote {w : World} {C : Nat} {p s u : ByteArray} {d : Nat} {l l' : List UInt8} {W W' : World} (h : ChB w C p s u d l W) (hbl : Bld w.heap.size C l' W') (hb : Below w.heap.size W W') (ho : Oth C W W') (hC : w.heap.size + 1 + 1 < C) : ChB w C p s u d l' W' :=
  ⟨ho.box h.fp (by omega) (by decide), ho.box h.fs (by omega) (by decide), ho.box h.fu (by omega) (by decide), ho.box h.fd (by omega) (by decide), hbl, h.b.trans hb⟩
theorem ChB.done {w : World} {C : Nat} {p s u : ByteArray} {d d' : Nat} {l : List UInt8} {W : World} (h : ChB w C p s u d l W) (hC : w.heap.size + 1 + 1 < C) : ChB w C p s u d' l (W.setCell ⟨C + 1, 0, none⟩ (.int .i64 (d' : Int))) :=
  ⟨boxed_set1 h.fp (by omega) 0 _, boxed_set1 h.fs (by omega) 0 _, boxed_set1 h.fu (by omega) 0 _, h.fd.set _, h.bl.set h.fd (by omega), h.b.setCell (p := ⟨C + 1, 0, none⟩) (by show w.heap.size ≤ C + 1; omega) _⟩
end Go.Proofs.YtoilgjlbpimcpaaDoor
