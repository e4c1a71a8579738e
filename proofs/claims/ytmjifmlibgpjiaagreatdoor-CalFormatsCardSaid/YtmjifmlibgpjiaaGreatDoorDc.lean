/- Names of months and weekdays; the years' field. -/
import Derived.Test.YtmjifmlibgpjiaaGreatDoorDb
namespace Go.Proofs.YtmjifmlibgpjiaaGreatDoor
open Go.RowKit Go.Shelf Tx
set_option linter.unusedVariables false
set_option maxRecDepth 100000

namespace Tx
def monL : List (List UInt8) := [[74, 97, 110, 117, 97, 114, 121], [70, 101, 98, 114, 117, 97, 114, 121], [77, 97, 114, 99, 104], [65, 112, 114, 105, 108], [77, 97, 121], [74, 117, 110, 101], [74, 117, 108, 121], [65, 117, 103, 117, 115, 116], [83, 101, 112, 116, 101, 109, 98, 101, 114], [79, 99, 116, 111, 98, 101, 114], [78, 111, 118, 101, 109, 98, 101, 114], [68, 101, 99, 101, 109, 98, 101, 114]]
def dayL : List (List UInt8) := [[77, 111, 110, 100, 97, 121], [84, 117, 101, 115, 100, 97, 121], [87, 101, 100, 110, 101, 115, 100, 97, 121], [84, 104, 117, 114, 115, 100, 97, 121], [70, 114, 105, 100, 97, 121], [83, 97, 116, 117, 114, 100, 97, 121], [83, 117, 110, 100, 97, 121]]
theorem monLen : monL.length = 12 := rfl
theorem dayLen : dayL.length = 7 := rfl
theorem monFields : Lib.fields [74, 97, 110, 117, 97, 114, 121, 32, 70, 101, 98, 114, 117, 97, 114, 121, 32, 77, 97, 114, 99, 104, 32, 65, 112, 114, 105, 108, 32, 77, 97, 121, 32, 74, 117, 110, 101, 32, 74, 117, 108, 121, 32, 65, 117, 103, 117, 115, 116, 32, 83, 101, 112, 116, 101, 109, 98, 101, 114, 32, 79, 99, 116, 111, 98, 101, 114, 32, 78, 111, 118, 101, 109, 98, 101, 114, 32, 68, 101, 99, 101, 109, 98, 101, 114] = monL := by decide +kernel
theorem dayFields : Lib.fields [77, 111, 110, 100, 97, 121, 32, 84, 117, 101, 115, 100, 97, 121, 32, 87, 101, 100, 110, 101, 115, 100, 97, 121, 32, 84, 104, 117, 114, 115, 100, 97, 121, 32, 70, 114, 105, 100, 97, 121, 32, 83, 97, 116, 117, 114, 100, 97, 121, 32, 83, 117, 110, 100, 97, 121] = dayL := by decide +kernel
/-- The name of a month; of a weekday. -/
def monN (m : Nat) : List UInt8 := monL.getD (m - 1) []
def dayN (d : Nat) : List UInt8 := dayL.getD d []
end Tx
/-- A row of strings. -/
def StrsAt (w : World) (p : Nat) (l : List (List UInt8)) : Prop := BoxC w p 9 (l.map fun x => Value.string ⟨x.toArray⟩).toArray
theorem StrsAt.get {w : World} {p : Nat} {l : List (List UInt8)} (h : StrsAt w p l) {i : Nat} {x : List UInt8} (hx : l[i]? = some x) : w.cell? ⟨p, i, none⟩ = some (.string ⟨x.toArray⟩) :=
  BoxC.cell h (by rw [List.getElem?_toArray, List.getElem?_map, hx]; rfl)
theorem ascii_of {l : List UInt8} (h : l.all (fun b => decide (b.toNat < 128)) = true) : ∀ (j : Nat) b, l[j]? = some b → b.toNat < 128 := fun j b hb => by
  have := List.all_eq_true.1 h b (List.mem_of_getElem? hb); simpa using this
set_option maxHeartbeats 1000000 in
theorem monthNames_any (w : World) (hE : Env w) : Calls Tryz.prog 128 #[] w fun e w' => e = .returned (.slice (some ⟨w.heap.size, 0, none⟩) 12 12) ∧ StrsAt w' w.heap.size monL ∧ Below w.heap.size w w' := by
  have KF := fun (W : World) (h : Env W) => Tryz.strings_Fields ⟨#[74, 97, 110, 117, 97, 114, 121, 32, 70, 101, 98, 114, 117, 97, 114, 121, 32, 77, 97, 114, 99, 104, 32, 65, 112, 114, 105, 108, 32, 77, 97, 121, 32, 74, 117, 110, 101, 32, 74, 117, 108, 121, 32, 65, 117, 103, 117, 115, 116, 32, 83, 101, 112, 116, 101, 109, 98, 101, 114, 32, 79, 99, 116, 111, 98, 101, 114, 32, 78, 111, 118, 101, 109, 98, 101, 114, 32, 68, 101, 99, 101, 109, 98, 101, 114]⟩ W (by decide) (ascii_of (by decide +kernel)) h.spc
  rw [show Lib.fields (ByteArray.mk #[74, 97, 110, 117, 97, 114, 121, 32, 70, 101, 98, 114, 117, 97, 114, 121, 32, 77, 97, 114, 99, 104, 32, 65, 112, 114, 105, 108, 32, 77, 97, 121, 32, 74, 117, 110, 101, 32, 74, 117, 108, 121, 32, 65, 117, 103, 117, 115, 116, 32, 83, 101, 112, 116, 101, 109, 98, 101, 114, 32, 79, 99, 116, 111, 98, 101, 114, 32, 78, 111, 118, 101, 109, 98, 101, 114, 32, 68, 101, 99, 101, 109, 98, 101, 114]).data.toList = monL from monFields] at KF
  have KF' := Lib.hid KF
  clear KF
  go_enter Tryz.func128, Tryz.ntmps128
  go_wp2_with (go_at_call 152; refine Calls.mono (KF'.out _ hE) ?_; rintro e w1 ⟨rfl, rfl⟩)
  go_ret
  exact ⟨rfl, BoxC.new _ _ _, Bl.alloc (Below.refl _ w) _⟩
set_option maxHeartbeats 1000000 in
theorem weekdayNames_any (w : World) (hE : Env w) : Calls Tryz.prog 131 #[] w fun e w' => e = .returned (.slice (some ⟨w.heap.size, 0, none⟩) 7 7) ∧ StrsAt w' w.heap.size dayL ∧ Below w.heap.size w w' := by
  have KF := fun (W : World) (h : Env W) => Tryz.strings_Fields ⟨#[77, 111, 110, 100, 97, 121, 32, 84, 117, 101, 115, 100, 97, 121, 32, 87, 101, 100, 110, 101, 115, 100, 97, 121, 32, 84, 104, 117, 114, 115, 100, 97, 121, 32, 70, 114, 105, 100, 97, 121, 32, 83, 97, 116, 117, 114, 100, 97, 121, 32, 83, 117, 110, 100, 97, 121]⟩ W (by decide) (ascii_of (by decide +kernel)) h.spc
  rw [show Lib.fields (ByteArray.mk #[77, 111, 110, 100, 97, 121, 32, 84, 117, 101, 115, 100, 97, 121, 32, 87, 101, 100, 110, 101, 115, 100, 97, 121, 32, 84, 104, 117, 114, 115, 100, 97, 121, 32, 70, 114, 105, 100, 97, 121, 32, 83, 97, 116, 117, 114, 100, 97, 121, 32, 83, 117, 110, 100, 97, 121]).data.toList = dayL from dayFields] at KF
  have KF' := Lib.hid KF
  clear KF
  go_enter Tryz.func131, Tryz.ntmps131
  go_wp2_with (go_at_call 152; refine Calls.mono (KF'.out _ hE) ?_; rintro e w1 ⟨rfl, rfl⟩)
  go_ret
  exact ⟨rfl, BoxC.new _ _ _, Bl.alloc (Below.refl _ w) _⟩
set_option maxHeartbeats 400000 in
theorem brief_any (s : ByteArray) (w : World) (hs : 3 ≤ s.size) (hs2 : s.size ≤ 1000) : Calls Tryz.prog 129 #[.string s] w fun e w' => ∃ t : ByteArray, e = .returned (.string t) ∧ Hid (bts t = (bts s).take 3) ∧ w = w' := by
  have h1 : (3 : Int) ≤ (s.size : Int) := by omega
  have h2 : ¬ (s.size : Int) < 3 := by omega
  go_enter Tryz.func129, Tryz.ntmps129
  go_wp2
  go_ret
  exact ⟨_, rfl, Lib.hid (by rw [bts_extract]; simp), rfl⟩
set_option maxHeartbeats 400000 in
theorem fullYear_any (y m k : Int) (w : World) : Calls Tryz.prog 130 #[.agg #[.int .i64 y, .int .i64 m, .int .i64 k]] w fun e w' => e = .returned (.agg #[.int .i64 y, .int .i64 4]) ∧ (w.alloc (.cells #[.int .i64 y, .int .i64 m, .int .i64 k] 70)).alloc (.cells #[.int .i64 y, .int .i64 4] 99) = w' := by
  go_enter Tryz.func130, Tryz.ntmps130
  go_wp2
  refine bodyPost_ret (v := .agg #[.int .i64 y, .int .i64 4]) (by simp [results, Tryz.results130, go_sem]) rfl ?_
  exact ⟨rfl, rfl⟩
theorem fieldsAt_of {w : World} {p : Nat} (a b c d e f : Nat) (h : BoxC w p 99 #[.int .i64 (a : Int), .int .i64 (b : Int), .int .i64 (c : Int), .int .i64 (d : Int), .int .i64 (e : Int), .int .i64 (f : Int)]) : FieldsAt w p [(a, b), (c, d), (e, f)] := by
  intro j g hj
  match j, hj with
  | 0, hj => simp at hj; subst hj; exact ⟨h.cell rfl, h.cell rfl⟩
  | 1, hj => simp at hj; subst hj; exact ⟨h.cell rfl, h.cell rfl⟩
  | 2, hj => simp at hj; subst hj; exact ⟨h.cell rfl, h.cell rfl⟩
theorem fieldsAt_two {w : World} {p : Nat} (a b c d : Nat) (h : BoxC w p 99 #[.int .i64 (a : Int), .int .i64 (b : Int), .int .i64 (c : Int), .int .i64 (d : Int)]) : FieldsAt w p [(a, b), (c, d)] := by
  intro j g hj
  match j, hj with
  | 0, hj => simp at hj; subst hj; exact ⟨h.cell rfl, h.cell rfl⟩
  | 1, hj => simp at hj; subst hj; exact ⟨h.cell rfl, h.cell rfl⟩
theorem fieldsAt_one {w : World} {p : Nat} (a b : Nat) (h : BoxC w p 99 #[.int .i64 (a : Int), .int .i64 (b : Int)]) : FieldsAt w p [(a, b)] := by
  intro j g hj
  match j, hj with
  | 0, hj => simp at hj; subst hj; exact ⟨h.cell rfl, h.cell rfl⟩
theorem pow19 : (10 : Nat) ^ 19 = 10000000000000000000 := by decide
end Go.Proofs.YtmjifmlibgpjiaaGreatDoor
