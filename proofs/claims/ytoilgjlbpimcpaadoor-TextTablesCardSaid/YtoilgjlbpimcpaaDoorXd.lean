/- TextTables, as a call. -/
import Derived.Test.YtoilgjlbpimcpaaDoorVs
import Derived.Test.YtoilgjlbpimcpaaDoorXb
import Derived.Test.YtoilgjlbpimcpaaDoorXc
namespace Go.Proofs.YtoilgjlbpimcpaaDoor
open Go.RowKit Go.Shelf Tx
set_option linter.unusedVariables false
set_option maxRecDepth 100000

set_option maxHeartbeats 4000000 in
theorem TextTables_any (s u i : ByteArray) (c d : UInt8) (w : World) (hss : s.size ≤ maxLen) (hsu : u.size ≤ maxLen) (hsi : i.size ≤ maxLen) :
    Calls Tryd.prog 9 #[.string s, .string u, .string i, .int .u8 (c.toNat : Int), .int .u8 (d.toNat : Int)] w fun e w' => e = .returned (.bool true) ∧ Below w.heap.size w w' := by
  have KH := fun W => Lib.hid (head_any W)
  have KLs := fun W => Lib.hid (long_any s W hss)
  have KLu := fun W => Lib.hid (long_any u W hsu)
  have KLi := fun W => Lib.hid (long_any i W hsi)
  by_cases hls : 1200 < s.size
  · rw [decide_eq_true hls] at KLs
    go_enter Tryd.func9, Tryd.ntmps9
    go_wp2_with (first
      | (go_at_call 16; refine Calls.mono (KH _).out ?_; rintro e w1 ⟨rfl, hb0⟩)
      | (go_at_call 17; (with_reducible refine Calls.mono (KLs _).out ?_); rintro e w1 ⟨rfl, rfl⟩))
    go_ret
    exact ⟨rfl, hb0⟩
  · rw [decide_eq_false hls] at KLs
    by_cases hlu : 1200 < u.size
    · rw [decide_eq_true hlu] at KLu
      go_enter Tryd.func9, Tryd.ntmps9
      go_wp2_with (first
        | (go_at_call 16; refine Calls.mono (KH _).out ?_; rintro e w1 ⟨rfl, hb0⟩)
        | (go_at_call 17; (with_reducible refine Calls.mono (KLs _).out ?_); rintro e w1 ⟨rfl, rfl⟩)
        | (go_at_call 17; (with_reducible refine Calls.mono (KLu _).out ?_); rintro e w1 ⟨rfl, rfl⟩))
      go_ret
      exact ⟨rfl, hb0⟩
    · rw [decide_eq_false hlu] at KLu
      by_cases hli : 1200 < i.size
      · rw [decide_eq_true hli] at KLi
        go_enter Tryd.func9, Tryd.ntmps9
        go_wp2_with (first
          | (go_at_call 16; refine Calls.mono (KH _).out ?_; rintro e w1 ⟨rfl, hb0⟩)
          | (go_at_call 17; (with_reducible refine Calls.mono (KLs _).out ?_); rintro e w1 ⟨rfl, rfl⟩)
          | (go_at_call 17; (with_reducible refine Calls.mono (KLu _).out ?_); rintro e w1 ⟨rfl, rfl⟩)
          | (go_at_call 17; (with_reducible refine Calls.mono (KLi _).out ?_); rintro e w1 ⟨rfl, rfl⟩))
        go_ret
        exact ⟨rfl, hb0⟩
      · rw [decide_eq_false hli] at KLi
        obtain ⟨t0, k0, hr0⟩ := res_ex (movedR 97 122 65 (bts s))
        have KP0 := fun W => Lib.hid ((Upper_any s W hss).mono (fun e w' h => givesS_at hr0 rfl h))
        have KR0 := fun W => Lib.hid ((RUpper_any s W hss).mono (fun e w' h => givesA_at hr0 rfl h))
        have KC0 := fun W => Lib.hid (str_same t0 k0 W)
        obtain ⟨t1, k1, hr1⟩ := res_ex (movedR 65 90 97 (bts s))
        have KP1 := fun W => Lib.hid ((Lower_any s W hss).mono (fun e w' h => givesS_at hr1 rfl h))
        have KR1 := fun W => Lib.hid ((RLower_any s W hss).mono (fun e w' h => givesA_at hr1 rfl h))
        have KC1 := fun W => Lib.hid (str_same t1 k1 W)
        obtain ⟨t2, k2, hr2⟩ := res_ex (translateR (bts s) (bts u) (bts i) (c.toNat : Int))
        have KP2 := fun W => Lib.hid ((Translate_any s u i (c.toNat : Int) W hss hsu hsi (by have := c.toNat_lt; omega) (by have := c.toNat_lt; omega)).mono (fun e w' h => givesS_at hr2 rfl h))
        have KR2 := fun W => Lib.hid ((RTranslate_any s u i c W hss hsu hsi).mono (fun e w' h => givesA_at hr2 rfl h))
        have KC2 := fun W => Lib.hid (str_same t2 k2 W)
        obtain ⟨t3, k3, hr3⟩ := res_ex (xrangeR c d)
        have KP3 := fun W => Lib.hid ((Xrange_any c d W).mono (fun e w' h => givesS_at hr3 rfl h))
        have KR3 := fun W => Lib.hid ((RXrange_any c d W).mono (fun e w' h => givesA_at hr3 rfl h))
        have KC3 := fun W => Lib.hid (str_same t3 k3 W)
        clear hr0 hr1 hr2 hr3
        go_enter Tryd.func9, Tryd.ntmps9
        go_wp2_with (first
          | (go_at_call 16; refine Calls.mono (KH _).out ?_; rintro e w1 ⟨rfl, hb0⟩)
          | (go_at_call 17; (with_reducible refine Calls.mono (KLs _).out ?_); rintro e w1 ⟨rfl, rfl⟩)
          | (go_at_call 17; (with_reducible refine Calls.mono (KLu _).out ?_); rintro e w1 ⟨rfl, rfl⟩)
          | (go_at_call 17; (with_reducible refine Calls.mono (KLi _).out ?_); rintro e w1 ⟨rfl, rfl⟩)
          | (go_at_call 72; (with_reducible refine Calls.mono (KP0 _).out ?_); rintro e w1 ⟨rfl, hbp0⟩)
          | (go_at_call 76; (with_reducible refine Calls.mono (KR0 _).out ?_); rintro e w1 ⟨rfl, hbr0⟩)
          | (go_at_call 24; (with_reducible refine Calls.mono (KC0 _).out ?_); rintro e w1 ⟨rfl, hbc0⟩)
          | (go_at_call 73; (with_reducible refine Calls.mono (KP1 _).out ?_); rintro e w1 ⟨rfl, hbp1⟩)
          | (go_at_call 77; (with_reducible refine Calls.mono (KR1 _).out ?_); rintro e w1 ⟨rfl, hbr1⟩)
          | (go_at_call 24; (with_reducible refine Calls.mono (KC1 _).out ?_); rintro e w1 ⟨rfl, hbc1⟩)
          | (go_at_call 74; (with_reducible refine Calls.mono (KP2 _).out ?_); rintro e w1 ⟨rfl, hbp2⟩)
          | (go_at_call 78; (with_reducible refine Calls.mono (KR2 _).out ?_); rintro e w1 ⟨rfl, hbr2⟩)
          | (go_at_call 24; (with_reducible refine Calls.mono (KC2 _).out ?_); rintro e w1 ⟨rfl, hbc2⟩)
          | (go_at_call 75; (with_reducible refine Calls.mono (KP3 _).out ?_); rintro e w1 ⟨rfl, hbp3⟩)
          | (go_at_call 79; (with_reducible refine Calls.mono (KR3 _).out ?_); rintro e w1 ⟨rfl, hbr3⟩)
          | (go_at_call 24; (with_reducible refine Calls.mono (KC3 _).out ?_); rintro e w1 ⟨rfl, hbc3⟩))
        go_ret
        exact ⟨rfl, (by repeat (first | assumption | refine Bl.step ?_ (by assumption)))⟩
end Go.Proofs.YtoilgjlbpimcpaaDoor
