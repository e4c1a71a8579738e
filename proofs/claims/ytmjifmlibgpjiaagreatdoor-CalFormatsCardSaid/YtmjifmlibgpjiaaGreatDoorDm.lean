/- Numbers in a text, read by a closure. -/
import Derived.Test.YtmjifmlibgpjiaaGreatDoorDl
import Derived.Test.YtmjifmlibgpjiaaGreatDoorCe
import Derived.Test.YtmjifmlibgpjiaaGreatDoorShelf
import Derived.Shelf.Strings.SlTrimAscii
namespace Go.Proofs.YtmjifmlibgpjiaaGreatDoor
open Go.RowKit Go.Shelf Tx
set_option linter.unusedVariables false
set_option maxRecDepth 100000

abbrev digB : ByteArray := ⟨#[48, 49, 50, 51, 52, 53, 54, 55, 56, 57]⟩
theorem below_bytesWorld (w : World) (e : TypeId) (t : ByteArray) : Below w.heap.size w (Lib.bytesWorld w e t) := by
  unfold Lib.bytesWorld
  refine ⟨rfl, rfl, rfl, ?_, fun i hi => ?_⟩
  · simp [World.freeze]
  · show ((w.drew.alloc _).heap.modify _ _)[i]? = _
    rw [Array.getElem?_modify, if_neg (by simp; omega)]
    exact (Bl.alloc (Below.refl _ w).drew _).block i hi
/-- What strings.IndexAny is asked here, and answers. -/
def IdxOk (s : ByteArray) : Prop := ∀ W : World, Calls Tryz.prog 156 #[.string s, .string digB] W fun e w' => e = .returned (.int .i64 (Lib.indexAny (bts s) digs)) ∧ Below W.heap.size W w'
theorem dig_ascii : ∀ (j : Nat) b, digB.data.toList[j]? = some b → b.toNat < 128 := fun j b hb => by
  have h : (digB.data.toList.all (fun b => decide (b.toNat < 128))) = true := by decide
  have := List.all_eq_true.1 h b (List.mem_of_getElem? hb); simpa using this
theorem idxOk_ascii (s : ByteArray) (hs : s.size ≤ 1000000) (ha : ∀ (j : Nat) b, s.data.toList[j]? = some b → b.toNat < 128) : IdxOk s := fun W => Tryz.strings_IndexAny_laid s digB W (by omega) (by decide) ha dig_ascii
theorem zero256 : ∀ w, (zeroValue 150).run Tryz.prog w = .ok (.agg (Array.replicate 256 (.bool false))) w := fun w => by kernel_rfl
theorem idxOk_long (s : ByteArray) (h8 : 8 < s.size) (hs : s.size ≤ 1000000) : IdxOk s := fun W => (Any.strings_IndexAny_long Tryz.lays153 zero256 (by kernel_rfl) s digB W (by decide) h8 (by omega) (by decide) dig_ascii).mono fun e w' ⟨h1, h2⟩ => ⟨h1, by rw [h2]; exact Bl.alloc (Bl.alloc (Below.refl _ W) _) _⟩
theorem trimDig (s : ByteArray) (W : World) : Calls Tryz.prog 157 #[.string s, .string digB] W fun e w' => ∃ r : ByteArray, e = .returned (.string r) ∧ Hid (bts r = (bts s).dropWhile isDg) ∧ Below W.heap.size W w' := by
  refine (Any.strings_TrimLeft_laid Tryz.lays161 (by kernel_rfl) s digB W (by decide) dig_ascii).mono ?_
  rintro e w' ⟨rfl, hb⟩
  exact ⟨_, rfl, Lib.hid (bts_mk _), hb⟩
/-- What a call of the closure does: a number, and its box holds the rest. -/
def NumPost (s : ByteArray) (b : Nat) (w : World) (e : Ending) (w' : World) : Prop := ∃ r : ByteArray, e = .returned (.int .i64 (numV (bts s))) ∧ Hid (bts r = numR (bts s)) ∧ BoxC w' b 9 #[.string r] ∧ w.grownBy w' (some b)
theorem grown_of_below {a b : World} (h : Below a.heap.size a b) (row : Option Nat) : a.grownBy b row := ⟨h.os, h.tape, h.output, h.size, fun k hk _ => h.block k hk⟩
theorem grown_trans {a b c : World} {row : Option Nat} (h : a.grownBy b row) (k : b.grownBy c row) : a.grownBy c row := ⟨k.os.trans h.os, k.tape.trans h.tape, k.output.trans h.output, Nat.le_trans h.size k.size, fun i hi hne => (k.block i (Nat.lt_of_lt_of_le hi h.size) hne).trans (h.block i hi hne)⟩
set_option maxHeartbeats 4000000 in
theorem number_next (s : ByteArray) (b : Nat) (w : World) (hs : s.size ≤ 1000000) (hI : IdxOk s) (hb : BoxC w b 9 #[.string s]) :
    Calls Tryz.prog 155 #[.pointer (some ⟨b, 0, none⟩)] w (NumPost s b w) := by
  have c0 : w.cell? ⟨b, 0, none⟩ = some (.string s) := hb.cell (i := 0) rfl
  have KA := fun W => Lib.hid (hI W)
  have HB := Lib.hid hb
  have hlt := hb.lt
  by_cases hn : nTake (bts s) = []
  · have hix := idx_none (bts s) hn
    rw [hix] at KA
    have HV := Lib.hid (show numV (bts s) = -1 by unfold numV; rw [hn]; rfl)
    have HR := Lib.hid (show numR (bts s) = bts s by unfold numR; rw [if_pos hn])
    clear hn hix hI hb
    go_enter Tryz.func155, Tryz.ntmps155
    go_wp2_with (go_at_call 156; refine Calls.mono (KA _).out ?_; rintro e w1 ⟨rfl, hb1⟩; have HB1 := Lib.hid hb1)
    go_ret
    exact ⟨s, by rw [HV.out]; rfl, Lib.hid HR.out.symm, HB.out.below HB1.out hlt, grown_of_below HB1.out _⟩
  · have hix := idx_some (bts s) hn
    rw [hix] at KA
    have hp := nParts (bts s)
    have hlen : s.size = (nHead (bts s)).length + ((nTake (bts s)).length + (nRest (bts s)).length) := by
      have q := congrArg List.length hp
      rw [bts_length, List.length_append, List.length_append] at q
      exact q
    have hd := nDrop (bts s)
    obtain ⟨f, hf⟩ : ∃ f, f = (nHead (bts s)).length := ⟨_, rfl⟩
    rw [← hf] at KA hlen hd
    have HR := Lib.hid (show numR (bts s) = nRest (bts s) by unfold numR; rw [if_neg hn])
    have h0 : ¬ (f : Int) < 0 := by omega
    have hf2 : ¬ (s.size : Int) < (f : Int) := by omega
    have hf3 : (f : Int) ≤ (s.size : Int) := by omega
    have KT := fun W => Lib.hid (trimDig (s.extract f s.size) W)
    have HD := Lib.hid (show bts (s.extract f s.size) = nSkip (bts s) by rw [bts_extract, ← hd, List.take_of_length_le (by rw [List.length_drop, bts_length]; omega)])
    obtain ⟨m, hm⟩ : ∃ m, m = (nTake (bts s)).length := ⟨_, rfl⟩
    have hpos : 1 ≤ m := by rw [hm]; exact List.length_pos_iff.2 hn
    rw [← hm] at hlen
    have HLEN := Lib.hid hlen
    have HM := Lib.hid hm
    have hm1 : min (f + m) s.size - f = m := by omega
    have hm2 : f + m - f = m := by omega
    have hnum : bts (s.extract f (f + m)) = nTake (bts s) := by
      rw [bts_extract, hd, show f + m - f = m by omega, hm]
      have q : nSkip (bts s) = nTake (bts s) ++ nRest (bts s) := by unfold nTake nRest; rw [List.takeWhile_append_dropWhile]
      rw [q, List.take_left]
    obtain ⟨n, hn1, hn2⟩ := atoi_digs (nTake (bts s)) (nTake_all (bts s)) hn
    have HSL := Lib.hid (show m ≤ 18 → ∀ W : World, Calls Tryz.prog 158 #[.string (s.extract f (f + m))] W fun e w' => e = .returned (.tuple #[.int .i64 (n : Int), .nilIface]) ∧ Below W.heap.size W w' from fun h18 W => by
      refine (Tryz.strconv_Atoi (s.extract f (f + m)) n ?_ ?_ W).mono ?_
      · rw [← bts_length, hnum, ← hm]; exact h18
      · show Lib.atoi (bts (s.extract f (f + m))) = _
        rw [hnum]; exact hn2
      · rintro e w' ⟨rfl, t, rfl⟩; exact ⟨rfl, below_bytesWorld _ _ _⟩)
    have g1 : (f : Int) ≤ ((f + m : Nat) : Int) := by omega
    have g2 : ((f + m : Nat) : Int) ≤ (s.size : Int) := by omega
    have g3 : ¬ (s.size : Int) < ((f + m : Nat) : Int) := by omega
    have g4 : ¬ ((f + m : Nat) : Int) < (f : Int) := by omega
    have g5 : ¬ ((f + m : Nat) : Int) < 0 := by omega
    by_cases h11 : 11 < m
    · have HV := Lib.hid (show numV (bts s) = -1 by unfold numV; rw [if_pos (by rw [← hm]; exact h11)])
      have h11' : (11 : Int) < (m : Int) := by omega
      clear hix hp hd hlen hI hb hf hn hn1 hn2 hnum hm HSL hpos
      go_enter Tryz.func155, Tryz.ntmps155
      go_wp2_with (first
        | (go_at_call 156; refine Calls.mono (KA _).out ?_; rintro e w1 ⟨rfl, hb1⟩; have HB1 := Lib.hid hb1; have BX1 := HB.out.below hb1 hlt; have d1 : w1.cell? ⟨b, 0, none⟩ = some (.string s) := BX1.cell (i := 0) rfl; clear hb1 BX1)
        | (go_at_call 157; refine Calls.mono (KT _).out ?_; rintro e w2 ⟨r, rfl, hr, hb2⟩; have HB2 := Lib.hid (Bl.step HB1.out hb2); have BX2 := Lib.hid (HB.out.below HB2.out hlt); have d2 : w2.cell? ⟨b, 0, none⟩ = some (.string s) := BX2.out.cell (i := 0) rfl; have fr2 := BX2.out.frozen 0; have hrs : r.size + f + m = s.size := (by have q := congrArg List.length hr.out; rw [bts_length, HD.out] at q; have q2 : (nRest (bts s)).length = r.size := q.symm; have q3 := HLEN.out; omega); have hz : IntKind.i64.wrap ((s.size : Int) - (r.size : Int)) = ((f + m : Nat) : Int) := (by rw [show (s.size : Int) - (r.size : Int) = ((f + m : Nat) : Int) by omega]; exact IntWalk.i64_in _ (by omega)); have hz2 : wrap64 ((s.size : Int) - (r.size : Int)) = ((f + m : Nat) : Int) := (by rw [show (s.size : Int) - (r.size : Int) = ((f + m : Nat) : Int) by omega]; exact w64 (by omega) (by omega)); clear hb2 hrs))
      go_ret
      exact ⟨r, by rw [HV.out]; rfl, Lib.hid (by rw [HR.out, hr.out, HD.out]; rfl), BX2.out.set 0 _, grown_trans (grown_of_below HB2.out _) (grown_set _ _ _ _)⟩
    · have HV := Lib.hid (show numV (bts s) = (n : Int) by unfold numV; rw [if_neg (by rw [← hm]; exact h11), hn1])
      have h11' : ¬ (11 : Int) < (m : Int) := by omega
      have KN := Lib.hid (HSL.out (by omega))
      clear hix hp hd hlen hI hb hf hn hn1 hn2 hnum hm HSL hpos
      go_enter Tryz.func155, Tryz.ntmps155
      go_wp2_with (first
        | (go_at_call 156; refine Calls.mono (KA _).out ?_; rintro e w1 ⟨rfl, hb1⟩; have HB1 := Lib.hid hb1; have BX1 := HB.out.below hb1 hlt; have d1 : w1.cell? ⟨b, 0, none⟩ = some (.string s) := BX1.cell (i := 0) rfl; clear hb1 BX1)
        | (go_at_call 157; refine Calls.mono (KT _).out ?_; rintro e w2 ⟨r, rfl, hr, hb2⟩; have HB2 := Lib.hid (Bl.step HB1.out hb2); have BX2 := Lib.hid (HB.out.below HB2.out hlt); have d2 : w2.cell? ⟨b, 0, none⟩ = some (.string s) := BX2.out.cell (i := 0) rfl; have fr2 := BX2.out.frozen 0; have hrs : r.size + f + m = s.size := (by have q := congrArg List.length hr.out; rw [bts_length, HD.out] at q; have q2 : (nRest (bts s)).length = r.size := q.symm; have q3 := HLEN.out; omega); have hz : IntKind.i64.wrap ((s.size : Int) - (r.size : Int)) = ((f + m : Nat) : Int) := (by rw [show (s.size : Int) - (r.size : Int) = ((f + m : Nat) : Int) by omega]; exact IntWalk.i64_in _ (by omega)); have hz2 : wrap64 ((s.size : Int) - (r.size : Int)) = ((f + m : Nat) : Int) := (by rw [show (s.size : Int) - (r.size : Int) = ((f + m : Nat) : Int) by omega]; exact w64 (by omega) (by omega)); clear hb2 hrs)
        | (go_at_call 158; refine Calls.mono (KN.out _) ?_; rintro e w3 ⟨rfl, hb3⟩))
      go_ret
      exact ⟨r, by rw [HV.out]; rfl, Lib.hid (by rw [HR.out, hr.out, HD.out]; rfl), (BX2.out.set 0 _).below hb3 (by simp [World.setCell]; exact BX2.out.lt), grown_trans (grown_trans (grown_of_below HB2.out _) (grown_set _ _ _ _)) (grown_of_below hb3 _)⟩
end Go.Proofs.YtmjifmlibgpjiaaGreatDoor
