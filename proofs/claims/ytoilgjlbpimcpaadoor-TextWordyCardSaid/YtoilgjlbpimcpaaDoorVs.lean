/- What the laws of package text share: the bound on lengths, and the comparison of two answers. -/
import Derived.Test.YtoilgjlbpimcpaaDoorVb
import Derived.Test.YtoilgjlbpimcpaaDoorUd
namespace Go.Proofs.YtoilgjlbpimcpaaDoor
open Go.RowKit Go.Shelf Tx
set_option linter.unusedVariables false
set_option maxRecDepth 100000

theorem givesS_at {w : World} {l : List UInt8} {k : Int} {r : Res} {t0 : ByteArray} (hr : r = (l, k)) (ht0 : bts t0 = l) {e : Ending} {w' : World} (h : GivesS w r e w') : e = .returned (.tuple #[.string t0, .int .i64 k]) ∧ Below w.heap.size w w' := by
  subst hr
  obtain ⟨t, rfl, ht, hb⟩ := h
  rw [show t = t0 by rw [bts_eq ht.out, bts_eq ht0]]
  exact ⟨rfl, hb⟩
theorem givesA_at {w : World} {l : List UInt8} {k : Int} {r : Res} {t0 : ByteArray} (hr : r = (l, k)) (ht0 : bts t0 = l) {e : Ending} {w' : World} (h : GivesA w r e w') : e = .returned (.agg #[.string t0, .int .i64 k]) ∧ Below w.heap.size w w' := by
  subst hr
  obtain ⟨t, rfl, ht, hb⟩ := h
  rw [show t = t0 by rw [bts_eq ht.out, bts_eq ht0]]
  exact ⟨rfl, hb⟩
theorem str_ex (l : List UInt8) : ∃ t : ByteArray, bts t = l := ⟨⟨l.toArray⟩, bts_mk l⟩
/-- An answer, given by its string and its error. -/
theorem res_ex (r : Res) : ∃ (t : ByteArray) (k : Int), r = (bts t, k) := by
  obtain ⟨l, k⟩ := r
  obtain ⟨t, ht⟩ := str_ex l
  exact ⟨t, k, by rw [ht]⟩
set_option maxHeartbeats 400000 in
theorem long_any (s : ByteArray) (w : World) (hs : s.size ≤ maxLen) :
    Calls Tryd.prog 17 #[.string s] w fun e w' => e = .returned (.bool (decide (1200 < s.size))) ∧ w = w' := by
  unfold maxLen at hs
  by_cases h : 1200 < s.size
  · have H := Lib.hid h
    go_enter Tryd.func17, Tryd.ntmps17
    go_wp2
    go_ret
    exact ⟨ret_b (by simp; have := H.out; omega), rfl⟩
  · have H := Lib.hid h
    go_enter Tryd.func17, Tryd.ntmps17
    go_wp2
    go_ret
    exact ⟨ret_b (by simp; have := H.out; omega), rfl⟩
set_option maxHeartbeats 400000 in
theorem str_same (t : ByteArray) (k : Int) (w : World) :
    Calls Tryd.prog 24 #[.string t, .int .i64 k, .agg #[.string t, .int .i64 k]] w fun e w' => e = .returned (.bool true) ∧ Below w.heap.size w w' := by
  go_enter Tryd.func24, Tryd.ntmps24
  go_wp2
  go_ret
  exact ⟨ret_b (by simp), (Below.refl _ w).alloc (Nat.le_refl _) _⟩
end Go.Proofs.YtoilgjlbpimcpaaDoor
