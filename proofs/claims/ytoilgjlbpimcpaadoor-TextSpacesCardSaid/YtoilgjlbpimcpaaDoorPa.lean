/- TextSpaces, as a call. -/
import Derived.Test.YtoilgjlbpimcpaaDoorVs
import Derived.Test.YtoilgjlbpimcpaaDoorZj
import Derived.Test.YtoilgjlbpimcpaaDoorZo
import Derived.Test.YtoilgjlbpimcpaaDoorZy
import Derived.Test.YtoilgjlbpimcpaaDoorZz
namespace Go.Proofs.YtoilgjlbpimcpaaDoor
open Go.RowKit Go.Shelf Tx
set_option linter.unusedVariables false
set_option maxRecDepth 100000

set_option maxHeartbeats 4000000 in
theorem TextSpaces_any (p s : ByteArray) (n : Int) (c : UInt8) (w : World) (hsp : p.size ≤ maxLen) (hss : s.size ≤ maxLen) (hn0 : -9223372036854775808 ≤ n) (hn : n ≤ 9223372036854775807) :
    Calls Tryd.prog 8 #[.string p, .string s, .int .i64 n, .int .u8 (c.toNat : Int)] w fun e w' => e = .returned (.bool true) ∧ Below w.heap.size w w' := by
  have KH := fun W => Lib.hid (head_any W)
  have KLp := fun W => Lib.hid (long_any p W hsp)
  have KLs := fun W => Lib.hid (long_any s W hss)
  by_cases hlp : 1200 < p.size
  · rw [decide_eq_true hlp] at KLp
    go_enter Tryd.func8, Tryd.ntmps8
    go_wp2_with (first
      | (go_at_call 16; refine Calls.mono (KH _).out ?_; rintro e w1 ⟨rfl, hb0⟩)
      | (go_at_call 17; (with_reducible refine Calls.mono (KLp _).out ?_); rintro e w1 ⟨rfl, rfl⟩))
    go_ret
    exact ⟨rfl, hb0⟩
  · rw [decide_eq_false hlp] at KLp
    by_cases hls : 1200 < s.size
    · rw [decide_eq_true hls] at KLs
      go_enter Tryd.func8, Tryd.ntmps8
      go_wp2_with (first
        | (go_at_call 16; refine Calls.mono (KH _).out ?_; rintro e w1 ⟨rfl, hb0⟩)
        | (go_at_call 17; (with_reducible refine Calls.mono (KLp _).out ?_); rintro e w1 ⟨rfl, rfl⟩)
        | (go_at_call 17; (with_reducible refine Calls.mono (KLs _).out ?_); rintro e w1 ⟨rfl, rfl⟩))
      go_ret
      exact ⟨rfl, hb0⟩
    · rw [decide_eq_false hls] at KLs
      obtain ⟨t0, k0, hr0⟩ := res_ex (spaceR (bts s) n (c.toNat : Int))
      have KP0 := fun W => Lib.hid ((Space_any s n (c.toNat : Int) W hss hn).mono (fun e w' h => givesS_at hr0 rfl h))
      have KR0 := fun W => Lib.hid ((RSpace_any s n c W hss hn).mono (fun e w' h => givesA_at hr0 rfl h))
      have KC0 := fun W => Lib.hid (str_same t0 k0 W)
      obtain ⟨n1, k1, hr1⟩ : ∃ (nn kk : Int), wordPosR (bts p) (bts s) n = (nn, kk) := ⟨_, _, rfl⟩
      have KP1 := fun W => Lib.hid ((WordPos_any p s n W hsp hss hn).mono (fun e w' h => givesN_at hr1 h))
      have KR1 := fun W => Lib.hid ((RWordPos_any p s n W hsp hss hn).mono (fun e w' h => givesM_at hr1 h))
      have KC1 := fun W => Lib.hid (num_same n1 k1 W)
      clear hr0 hr1
      go_enter Tryd.func8, Tryd.ntmps8
      go_wp2_with (first
        | (go_at_call 16; refine Calls.mono (KH _).out ?_; rintro e w1 ⟨rfl, hb0⟩)
        | (go_at_call 17; (with_reducible refine Calls.mono (KLp _).out ?_); rintro e w1 ⟨rfl, rfl⟩)
        | (go_at_call 17; (with_reducible refine Calls.mono (KLs _).out ?_); rintro e w1 ⟨rfl, rfl⟩)
        | (go_at_call 68; (with_reducible refine Calls.mono (KP0 _).out ?_); rintro e w1 ⟨rfl, hbp0⟩)
        | (go_at_call 70; (with_reducible refine Calls.mono (KR0 _).out ?_); rintro e w1 ⟨rfl, hbr0⟩)
        | (go_at_call 24; (with_reducible refine Calls.mono (KC0 _).out ?_); rintro e w1 ⟨rfl, hbc0⟩)
        | (go_at_call 69; (with_reducible refine Calls.mono (KP1 _).out ?_); rintro e w1 ⟨rfl, hbp1⟩)
        | (go_at_call 71; (with_reducible refine Calls.mono (KR1 _).out ?_); rintro e w1 ⟨rfl, hbr1⟩)
        | (go_at_call 45; (with_reducible refine Calls.mono (KC1 _).out ?_); rintro e w1 ⟨rfl, hbc1⟩))
      go_ret
      exact ⟨rfl, (by repeat (first | assumption | refine Bl.step ?_ (by assumption)))⟩
end Go.Proofs.YtoilgjlbpimcpaaDoor
