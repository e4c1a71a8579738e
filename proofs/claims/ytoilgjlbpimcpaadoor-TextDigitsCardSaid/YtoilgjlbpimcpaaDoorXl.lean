/- TextDigits, as a call. -/
import Derived.Test.YtoilgjlbpimcpaaDoorVs
import Derived.Test.YtoilgjlbpimcpaaDoorXk
import Derived.Test.YtoilgjlbpimcpaaDoorYc
namespace Go.Proofs.YtoilgjlbpimcpaaDoor
open Go.RowKit Go.Shelf Tx
set_option linter.unusedVariables false
set_option maxRecDepth 100000

set_option maxHeartbeats 4000000 in
theorem TextDigits_any (s : ByteArray) (w : World) (hss : s.size ≤ maxLen) :
    Calls Tryd.prog 11 #[.string s] w fun e w' => e = .returned (.bool true) ∧ Below w.heap.size w w' := by
  have KH := fun W => Lib.hid (head_any W)
  have KLs := fun W => Lib.hid (long_any s W hss)
  by_cases hls : 1200 < s.size
  · rw [decide_eq_true hls] at KLs
    go_enter Tryd.func11, Tryd.ntmps11
    go_wp2_with (first
      | (go_at_call 16; refine Calls.mono (KH _).out ?_; rintro e w1 ⟨rfl, hb0⟩)
      | (go_at_call 17; (with_reducible refine Calls.mono (KLs _).out ?_); rintro e w1 ⟨rfl, rfl⟩))
    go_ret
    exact ⟨rfl, hb0⟩
  · rw [decide_eq_false hls] at KLs
    obtain ⟨t0, k0, hr0⟩ := res_ex (c2xR (bts s))
    have KP0 := fun W => Lib.hid ((C2X_any s W hss).mono (fun e w' h => givesS_at hr0 rfl h))
    have KR0 := fun W => Lib.hid ((RC2X_any s W hss).mono (fun e w' h => givesA_at hr0 rfl h))
    have KC0 := fun W => Lib.hid (str_same t0 k0 W)
    obtain ⟨t1, k1, hr1⟩ := res_ex (x2cR (bts s))
    have KP1 := fun W => Lib.hid ((X2C_any s W hss).mono (fun e w' h => givesS_at hr1 rfl h))
    have KR1 := fun W => Lib.hid ((RX2C_any s W (by omega)).mono (fun e w' h => givesA_at hr1 rfl h))
    have KC1 := fun W => Lib.hid (str_same t1 k1 W)
    obtain ⟨t2, k2, hr2⟩ := res_ex (x2bR (bts s))
    have KP2 := fun W => Lib.hid ((X2B_any s W hss).mono (fun e w' h => givesS_at hr2 rfl h))
    have KR2 := fun W => Lib.hid ((RX2B_any s W (by omega)).mono (fun e w' h => givesA_at hr2 rfl h))
    have KC2 := fun W => Lib.hid (str_same t2 k2 W)
    obtain ⟨t3, k3, hr3⟩ := res_ex (b2xR (bts s))
    have KP3 := fun W => Lib.hid ((B2X_any s W hss).mono (fun e w' h => givesS_at hr3 rfl h))
    have KR3 := fun W => Lib.hid ((RB2X_any s W (by omega)).mono (fun e w' h => givesA_at hr3 rfl h))
    have KC3 := fun W => Lib.hid (str_same t3 k3 W)
    clear hr0 hr1 hr2 hr3
    go_enter Tryd.func11, Tryd.ntmps11
    go_wp2_with (first
      | (go_at_call 16; refine Calls.mono (KH _).out ?_; rintro e w1 ⟨rfl, hb0⟩)
      | (go_at_call 17; (with_reducible refine Calls.mono (KLs _).out ?_); rintro e w1 ⟨rfl, rfl⟩)
      | (go_at_call 84; (with_reducible refine Calls.mono (KP0 _).out ?_); rintro e w1 ⟨rfl, hbp0⟩)
      | (go_at_call 88; (with_reducible refine Calls.mono (KR0 _).out ?_); rintro e w1 ⟨rfl, hbr0⟩)
      | (go_at_call 24; (with_reducible refine Calls.mono (KC0 _).out ?_); rintro e w1 ⟨rfl, hbc0⟩)
      | (go_at_call 85; (with_reducible refine Calls.mono (KP1 _).out ?_); rintro e w1 ⟨rfl, hbp1⟩)
      | (go_at_call 89; (with_reducible refine Calls.mono (KR1 _).out ?_); rintro e w1 ⟨rfl, hbr1⟩)
      | (go_at_call 24; (with_reducible refine Calls.mono (KC1 _).out ?_); rintro e w1 ⟨rfl, hbc1⟩)
      | (go_at_call 86; (with_reducible refine Calls.mono (KP2 _).out ?_); rintro e w1 ⟨rfl, hbp2⟩)
      | (go_at_call 90; (with_reducible refine Calls.mono (KR2 _).out ?_); rintro e w1 ⟨rfl, hbr2⟩)
      | (go_at_call 24; (with_reducible refine Calls.mono (KC2 _).out ?_); rintro e w1 ⟨rfl, hbc2⟩)
      | (go_at_call 87; (with_reducible refine Calls.mono (KP3 _).out ?_); rintro e w1 ⟨rfl, hbp3⟩)
      | (go_at_call 91; (with_reducible refine Calls.mono (KR3 _).out ?_); rintro e w1 ⟨rfl, hbr3⟩)
      | (go_at_call 24; (with_reducible refine Calls.mono (KC3 _).out ?_); rintro e w1 ⟨rfl, hbc3⟩))
    go_ret
    exact ⟨rfl, (by repeat (first | assumption | refine Bl.step ?_ (by assumption)))⟩
end Go.Proofs.YtoilgjlbpimcpaaDoor
