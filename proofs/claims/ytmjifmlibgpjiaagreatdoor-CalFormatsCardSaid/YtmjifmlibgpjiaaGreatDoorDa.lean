/- Numerals and zeros. -/
import Derived.Test.YtmjifmlibgpjiaaGreatDoorCa
import Derived.Test.YtmjifmlibgpjiaaGreatDoorFa
import Derived.Test.YtmjifmlibgpjiaaGreatDoorShelf
import Derived.Lib.AppendIntMem
import Derived.Lib.LaidTab
namespace Go.Proofs.YtmjifmlibgpjiaaGreatDoor
open Go.RowKit Go.Shelf Go.Sort Tx
set_option linter.unusedVariables false
set_option maxRecDepth 100000

/-- The library's tables lie as its text lays them. -/
structure Env (w : World) : Prop where
  pow : Lib.TabIs Tryz.prog w "internal/strconv.uint64pow10" .u64 Lib.pow10Tab
  spc : Lib.TabIs Tryz.prog w "strings.asciiSpace" .u8 Lib.asciiSpaceTab
theorem Env.below {w w' : World} (h : Env w) (hb : Below w.heap.size w w') : Env w' := ⟨Lib.tabBelow_of_tabIs h.pow w' hb, Lib.tabBelow_of_tabIs h.spc w' hb⟩
theorem Env.alloc {w : World} (h : Env w) (o : Obj) : Env (w.alloc o) := h.below (Bl.alloc (Below.refl _ w) o)
theorem Env.drew {w : World} (h : Env w) : Env w.drew := h.below (Below.refl _ w).drew
theorem below_grow' (w : World) (k : Nat) (os : Array Obj) : Below w.heap.size w (grow (w.drewN k) os) := by
  refine ⟨rfl, rfl, rfl, ?_, fun i hi => ?_⟩
  · simp [grow]
  · show (w.heap ++ os)[i]? = _
    rw [Array.getElem?_append_left hi]
set_option maxHeartbeats 400000 in
theorem itoa_any (n : Nat) (w : World) (hn : n ≤ 9223372036854775807) (hE : Env w) :
    Calls Tryz.prog 121 #[.int .i64 (n : Int)] w fun e w' => ∃ t : ByteArray, e = .returned (.string t) ∧ Hid (bts t = Lib.decDigits n) ∧ Below w.heap.size w w' := by
  refine (Tryz.strconv_Itoa (n : Int) (by omega) (by omega) w hE.pow).mono ?_
  rintro e w' ⟨rfl, k, os, rfl⟩
  exact ⟨_, rfl, Lib.hid (by rw [bts_mk, Lib.itoa_nonneg]), below_grow' w k os⟩
theorem repeat48 (c : Nat) : Lib.repeatL [48] c = List.replicate c 48 := by
  induction c with
  | zero => rfl
  | succ c ih => simp [Lib.repeatL, List.replicate_succ, ih]
theorem zeros_any (c : Nat) (w : World) (hc : c ≤ 1000000) :
    Calls Tryz.prog 122 #[.string ⟨#[48]⟩, .int .i64 (c : Int)] w fun e w' => ∃ t : ByteArray, e = .returned (.string t) ∧ Hid (bts t = List.replicate c 48) ∧ Below w.heap.size w w' := by
  refine (Tryz.strings_Repeat ⟨#[48]⟩ c w (by omega) (by show 1 * c ≤ _; omega)).mono ?_
  rintro e w' ⟨rfl, hb⟩
  exact ⟨_, rfl, Lib.hid (by rw [bts_mk]; exact repeat48 c), hb⟩
end Go.Proofs.YtmjifmlibgpjiaaGreatDoor
