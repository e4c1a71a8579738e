/- strings.IndexAny, asked for digits, at any bytes: every text is read. -/
import Derived.Test.YtmjifmlibgpjiaaGreatDoorGa
import Derived.Test.YtmjifmlibgpjiaaGreatDoorDn
namespace Go.Proofs.YtmjifmlibgpjiaaGreatDoor
open Go.RowKit Go.Shelf Tx
set_option linter.unusedVariables false
set_option maxRecDepth 100000

/-- An iterator over a string, moved. -/
def setIter (W : World) (b : Nat) (s : ByteArray) (pos : Nat) : World := { W with heap := W.heap.setIfInBounds b (.stringIter s pos) }
theorem setIter_at {W : World} {b : Nat} {o : Obj} (s : ByteArray) (pos : Nat) (h : W.heap[b]? = some o) : (setIter W b s pos).heap[b]? = some (.stringIter s pos) := by
  obtain ⟨hlt, _⟩ := Array.getElem?_eq_some_iff.1 h
  show (W.heap.setIfInBounds b _)[b]? = _
  simp [hlt]
theorem setIter_below {w W : World} {b : Nat} (s : ByteArray) (pos : Nat) (h : Below w.heap.size w W) (hb : w.heap.size ≤ b) : Below w.heap.size w (setIter W b s pos) := by
  refine ⟨h.os, h.tape, h.output, ?_, fun i hi => ?_⟩
  · show w.heap.size ≤ (W.heap.setIfInBounds b _).size
    simpa using h.size
  · show (W.heap.setIfInBounds b _)[i]? = _
    rw [Array.getElem?_setIfInBounds, if_neg (by omega)]
    exact h.block i hi
theorem run_next_at {P : Program} (W : World) (b : Nat) (s : ByteArray) (pos : Nat) (ty : TypeId) (h : W.heap[b]? = some (.stringIter s pos)) (hp : pos < s.size) (c k : Nat) (hd : Utf8.decode s pos = (c, k)) :
    (Instr.next (.pointer (some ⟨b, 0, none⟩)) true ty).run P W = .ok (.tuple #[.bool true, .int .i64 (pos : Int), .int .i32 (c : Int)]) (setIter W b s (pos + k)) := by
  simp only [Instr.next, getObj, setObj, Sem.run_bind, Sem.run, h, Result.andThen, hp, if_true, hd]
  simp [goInt, setIter]
theorem run_next_over {P : Program} (W : World) (b : Nat) (s : ByteArray) (pos : Nat) (ty : TypeId) (h : W.heap[b]? = some (.stringIter s pos)) (hp : ¬ pos < s.size) :
    (Instr.next (.pointer (some ⟨b, 0, none⟩)) true ty).run P W = .ok (.tuple #[.bool false]) W := by
  simp [Instr.next, getObj, Sem.run, h, hp]
theorem noAny_high {l : List UInt8} {i k : Nat} (h : Lib.NoAny l digs i) (hk : ∀ j, i ≤ j → j < i + k → ∀ x, l[j]? = some x → 128 ≤ x.toNat) : Lib.NoAny l digs (i + k) := fun j b hj hb => by
  by_cases c : j < i
  · exact h j b c hb
  · have := hk j (by omega) hj b hb
    cases hc : digs.contains b with
    | false => rfl
    | true =>
      exfalso
      have hm : b ∈ digs := by simpa using hc
      have : (digs.all (fun b => decide (b.toNat < 128))) = true := by decide
      have := List.all_eq_true.1 this b hm
      simp at this; omega
theorem useSet_any (n : Int) (w : World) : Calls Tryz.prog 170 #[.int .i64 n] w fun e w' => e = .returned (.bool (decide (8 < n))) ∧ w = w' := by
  go_enter Tryz.func170, Tryz.ntmps170
  go_wp2
  go_ret
  exact ⟨rfl, rfl⟩
set_option maxHeartbeats 8000000 in
theorem idxOk_short (s : ByteArray) (h8 : s.size ≤ 8) : IdxOk s := fun w => by
  have KU := fun W => Lib.hid (useSet_any (s.size : Int) W)
  rw [decide_eq_false (by omega)] at KU
  clear h8
  go_enter Tryz.func156, Tryz.ntmps156
  go_wp2_with (go_at_call 170; refine Calls.mono (KU _).out ?_; rintro e w1 ⟨rfl, hw⟩; subst w1)
  go_loopg [9, 10] s.size (fun g _ _ wx => ∃ i : Nat, i + g = s.size ∧ Hid (wx.heap[w.heap.size]? = some (.stringIter s i)) ∧ Hid (Below w.heap.size w wx) ∧ Hid (Lib.NoAny (bts s) digs i))
  case atStart => exact ⟨0, by omega, Lib.hid (World.iter_heap _ _ _), Lib.hid (Bl.alloc (Below.refl _ w) _), Lib.hid (Lib.NoAny.zero _ _)⟩
  case round =>
    obtain ⟨i, hig, hit, hbl, hno⟩ := hrel
    cases gk with
    | zero =>
      obtain rfl : i = s.size := by omega
      have hnx := fun ty => run_next_over (P := Tryz.prog) wr w.heap.size s s.size ty hit.out (by omega)
      have HR := Lib.hid (show Lib.indexAny (bts s) digs = -1 from Lib.indexAny_none (by rw [bts_length]; exact hno.out))
      clear hig
      go_wp2
      go_ret
      exact ⟨by rw [HR.out]; rfl, hbl.out⟩
    | succ g =>
      have hi : i < s.size := by omega
      have hxl : (bts s)[i]? = some (s[i]'hi) := bts_get s hi
      by_cases hx : (s[i]'hi).toNat < 128
      · have hnx := fun ty => run_next_at (P := Tryz.prog) wr w.heap.size s i ty hit.out hi _ _ (decode_ascii s i hi hx)
        have KI := fun W => Lib.hid (idxRune_ascii (s[i]'hi) W hx)
        obtain ⟨x, hxx⟩ : ∃ x : UInt8, s[i]'hi = x := ⟨_, rfl⟩
        rw [hxx] at hnx KI hxl
        have hcon := Lib.contains_iff_indexByte digs x
        have hB := Lib.hid (setIter_below s (i + 1) hbl.out (Nat.le_refl _))
        have hI := Lib.hid (setIter_at s (i + 1) hit.out)
        have HX := Lib.hid hxl
        clear hx hxx hxl
        obtain ⟨W1, hW1⟩ : ∃ W1, W1 = setIter wr w.heap.size s (i + 1) := ⟨_, rfl⟩
        rw [← hW1] at hnx hB hI
        clear hW1
        cases hin : digs.contains x with
        | false =>
          rw [hin] at hcon
          have hlt : ¬ ((0 : Int) ≤ Lib.indexByte digs x) := of_decide_eq_false hcon.symm
          have HIN := Lib.hid hin
          clear hcon hin
          go_wp2_with (go_at_call 169; refine Calls.mono (KI _).out ?_; rintro e w3 ⟨rfl, hb3⟩; have B3 := Lib.hid (Bl.step hB.out hb3); have I3 := Lib.hid ((hb3.block w.heap.size (by have := (Array.getElem?_eq_some_iff.1 hI.out).1; exact this)).trans hI.out); clear hb3)
          go_roundg g
          case measure => omega
          case rel => exact ⟨i + 1, by omega, I3, B3, Lib.hid (hno.out.succ HX.out HIN.out)⟩
        | true =>
          rw [hin] at hcon
          have hge : (0 : Int) ≤ Lib.indexByte digs x := of_decide_eq_true hcon.symm
          have HR := Lib.hid (Lib.indexAny_hit hno.out HX.out hin)
          clear hcon hin
          go_wp2_with (go_at_call 169; refine Calls.mono (KI _).out ?_; rintro e w3 ⟨rfl, hb3⟩; have B3 := Lib.hid (Bl.step hB.out hb3); clear hb3)
          go_ret
          exact ⟨by rw [HR.out]; rfl, B3.out⟩
      · obtain ⟨c, k, hck⟩ : ∃ c k, Utf8.decode s i = (c, k) := ⟨_, _, rfl⟩
        have hD := decode_high s i hi (by omega)
        rw [hck] at hD
        obtain ⟨d1, d2, d3, d4, d5⟩ := hD
        dsimp only at d1 d2 d3 d4 d5
        have hnx := fun ty => run_next_at (P := Tryz.prog) wr w.heap.size s i ty hit.out hi c k hck
        have KI := fun W => Lib.hid (idxRune_none (c : Int) W d2 (by omega))
        have hB := Lib.hid (setIter_below s (i + k) hbl.out (Nat.le_refl _))
        have hI := Lib.hid (setIter_at s (i + k) hit.out)
        have HN := Lib.hid (noAny_high (k := k) hno.out (fun j j1 j2 x hj => by
          have hjs : j < s.size := by omega
          rw [bts_get s hjs] at hj
          cases hj
          exact d5 j hjs j1 j2))
        have HD := Lib.hid (show 1 ≤ k ∧ i + k ≤ s.size from ⟨d3, d4⟩)
        obtain ⟨W1, hW1⟩ : ∃ W1, W1 = setIter wr w.heap.size s (i + k) := ⟨_, rfl⟩
        rw [← hW1] at hnx hB hI
        clear hW1 d1 d2 d3 d4 d5 hck hxl hx
        go_wp2_with (go_at_call 169; refine Calls.mono (KI _).out ?_; rintro e w3 ⟨rfl, hb3⟩; have B3 := Lib.hid (Bl.step hB.out hb3); have I3 := Lib.hid ((hb3.block w.heap.size (by have := (Array.getElem?_eq_some_iff.1 hI.out).1; exact this)).trans hI.out); clear hb3)
        go_roundg (s.size - (i + k))
        case measure => have := HD.out; omega
        case rel => exact ⟨i + k, by have := HD.out; omega, I3, B3, HN⟩
theorem idxOk_any (s : ByteArray) (hs : s.size ≤ 1000000) : IdxOk s := by
  by_cases h8 : s.size ≤ 8
  · exact idxOk_short s h8
  · exact idxOk_long s (by omega) hs
theorem sufOk_any (s : ByteArray) (hs : s.size ≤ 1000000) : SufOk s := fun t ⟨k, hk⟩ => idxOk_any t (by
  have := congrArg List.length hk
  rw [bts_length, List.length_drop, bts_length] at this; omega)
end Go.Proofs.YtmjifmlibgpjiaaGreatDoor
