/- TextConverts, as a call. -/
import Derived.Test.YtoilgjlbpimcpaaDoorYg
import Derived.Test.YtoilgjlbpimcpaaDoorYh
namespace Go.Proofs.YtoilgjlbpimcpaaDoor
open Go.RowKit Go.Shelf Tx
set_option linter.unusedVariables false
set_option maxRecDepth 100000

set_option maxHeartbeats 4000000 in
theorem TextConverts_any (s t i o : ByteArray) (w : World) (hss : s.size ≤ maxLen) (hst : t.size ≤ maxLen) (hsi : i.size ≤ maxLen) (hso : o.size ≤ maxLen) :
    Calls Tryd.prog 15 #[.string s, .string t, .string i, .string o] w fun e w' => e = .returned (.bool true) ∧ Below w.heap.size w w' := by
  have KH := fun W => Lib.hid (head_any W)
  have KVs := fun W => Lib.hid (Valid_any s W hss)
  have KVt := fun W => Lib.hid (Valid_any t W hst)
  have KVi := fun W => Lib.hid (Valid_any i W hsi)
  have KVo := fun W => Lib.hid (Valid_any o W hso)
  cases hvs : validL (bts s) with
  | false =>
    rw [hvs] at KVs
    go_enter Tryd.func15, Tryd.ntmps15
    go_wp2_with (first
      | (go_at_call 16; (with_reducible refine Calls.mono (KH _).out ?_); rintro e w1 ⟨rfl, hb0⟩)
      | (go_at_call 31; (with_reducible refine Calls.mono (KVs _).out ?_); rintro e w1 ⟨rfl, hvsb⟩))
    go_ret
    exact ⟨rfl, (by repeat (first | assumption | refine Bl.step ?_ (by assumption)))⟩
  | true =>
    rw [hvs] at KVs
    cases hvt : validL (bts t) with
    | false =>
      rw [hvt] at KVt
      go_enter Tryd.func15, Tryd.ntmps15
      go_wp2_with (first
        | (go_at_call 16; (with_reducible refine Calls.mono (KH _).out ?_); rintro e w1 ⟨rfl, hb0⟩)
        | (go_at_call 31; (with_reducible refine Calls.mono (KVs _).out ?_); rintro e w1 ⟨rfl, hvsb⟩)
        | (go_at_call 31; (with_reducible refine Calls.mono (KVt _).out ?_); rintro e w1 ⟨rfl, hvtb⟩))
      go_ret
      exact ⟨rfl, (by repeat (first | assumption | refine Bl.step ?_ (by assumption)))⟩
    | true =>
      rw [hvt] at KVt
      cases hvi : validL (bts i) with
      | false =>
        rw [hvi] at KVi
        go_enter Tryd.func15, Tryd.ntmps15
        go_wp2_with (first
          | (go_at_call 16; (with_reducible refine Calls.mono (KH _).out ?_); rintro e w1 ⟨rfl, hb0⟩)
          | (go_at_call 31; (with_reducible refine Calls.mono (KVs _).out ?_); rintro e w1 ⟨rfl, hvsb⟩)
          | (go_at_call 31; (with_reducible refine Calls.mono (KVt _).out ?_); rintro e w1 ⟨rfl, hvtb⟩)
          | (go_at_call 31; (with_reducible refine Calls.mono (KVi _).out ?_); rintro e w1 ⟨rfl, hvib⟩))
        go_ret
        exact ⟨rfl, (by repeat (first | assumption | refine Bl.step ?_ (by assumption)))⟩
      | true =>
        rw [hvi] at KVi
        cases hvo : validL (bts o) with
        | false =>
          rw [hvo] at KVo
          go_enter Tryd.func15, Tryd.ntmps15
          go_wp2_with (first
            | (go_at_call 16; (with_reducible refine Calls.mono (KH _).out ?_); rintro e w1 ⟨rfl, hb0⟩)
            | (go_at_call 31; (with_reducible refine Calls.mono (KVs _).out ?_); rintro e w1 ⟨rfl, hvsb⟩)
            | (go_at_call 31; (with_reducible refine Calls.mono (KVt _).out ?_); rintro e w1 ⟨rfl, hvtb⟩)
            | (go_at_call 31; (with_reducible refine Calls.mono (KVi _).out ?_); rintro e w1 ⟨rfl, hvib⟩)
            | (go_at_call 31; (with_reducible refine Calls.mono (KVo _).out ?_); rintro e w1 ⟨rfl, hvob⟩))
          go_ret
          exact ⟨rfl, (by repeat (first | assumption | refine Bl.step ?_ (by assumption)))⟩
        | true =>
          by_cases hl : 2 * s.size ≤ 1000
          · by_cases hl4 : 8 * s.size ≤ 1000
            · exact conv_short s t i o w hss hst hsi hso hvs hvt hvi hvo hl hl4
            · exact conv_mid s t i o w hss hst hsi hso hvs hvt hvi hvo hl hl4
          · exact conv_long s t i o w hss hst hsi hso hvs hvt hvi hvo hl
end Go.Proofs.YtoilgjlbpimcpaaDoor
