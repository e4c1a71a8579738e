/- TextSearches, as a call. -/
import Derived.Test.YtoilgjlbpimcpaaDoorVs
import Derived.Test.YtoilgjlbpimcpaaDoorZj
import Derived.Test.YtoilgjlbpimcpaaDoorZs
import Derived.Test.YtoilgjlbpimcpaaDoorRb
import Derived.Test.YtoilgjlbpimcpaaDoorRf
namespace Go.Proofs.YtoilgjlbpimcpaaDoor
open Go.RowKit Go.Shelf Tx
set_option linter.unusedVariables false
set_option maxRecDepth 100000

set_option maxHeartbeats 4000000 in
theorem TextSearches_any (p s u : ByteArray) (n : Int) (w : World) (hsp : p.size ≤ maxLen) (hss : s.size ≤ maxLen) (hsu : u.size ≤ maxLen) (hn0 : -9223372036854775808 ≤ n) (hn : n ≤ 9223372036854775807) :
    Calls Tryd.prog 5 #[.string p, .string s, .string u, .int .i64 n] w fun e w' => e = .returned (.bool true) ∧ Below w.heap.size w w' := by
  have KH := fun W => Lib.hid (head_any W)
  have KLp := fun W => Lib.hid (long_any p W hsp)
  have KLs := fun W => Lib.hid (long_any s W hss)
  have KLu := fun W => Lib.hid (long_any u W hsu)
  by_cases hlp : 1200 < p.size
  · rw [decide_eq_true hlp] at KLp
    go_enter Tryd.func5, Tryd.ntmps5
    go_wp2_with (first
      | (go_at_call 16; refine Calls.mono (KH _).out ?_; rintro e w1 ⟨rfl, hb0⟩)
      | (go_at_call 17; (with_reducible refine Calls.mono (KLp _).out ?_); rintro e w1 ⟨rfl, rfl⟩))
    go_ret
    exact ⟨rfl, hb0⟩
  · rw [decide_eq_false hlp] at KLp
    by_cases hls : 1200 < s.size
    · rw [decide_eq_true hls] at KLs
      go_enter Tryd.func5, Tryd.ntmps5
      go_wp2_with (first
        | (go_at_call 16; refine Calls.mono (KH _).out ?_; rintro e w1 ⟨rfl, hb0⟩)
        | (go_at_call 17; (with_reducible refine Calls.mono (KLp _).out ?_); rintro e w1 ⟨rfl, rfl⟩)
        | (go_at_call 17; (with_reducible refine Calls.mono (KLs _).out ?_); rintro e w1 ⟨rfl, rfl⟩))
      go_ret
      exact ⟨rfl, hb0⟩
    · rw [decide_eq_false hls] at KLs
      by_cases hlu : 1200 < u.size
      · rw [decide_eq_true hlu] at KLu
        go_enter Tryd.func5, Tryd.ntmps5
        go_wp2_with (first
          | (go_at_call 16; refine Calls.mono (KH _).out ?_; rintro e w1 ⟨rfl, hb0⟩)
          | (go_at_call 17; (with_reducible refine Calls.mono (KLp _).out ?_); rintro e w1 ⟨rfl, rfl⟩)
          | (go_at_call 17; (with_reducible refine Calls.mono (KLs _).out ?_); rintro e w1 ⟨rfl, rfl⟩)
          | (go_at_call 17; (with_reducible refine Calls.mono (KLu _).out ?_); rintro e w1 ⟨rfl, rfl⟩))
        go_ret
        exact ⟨rfl, hb0⟩
      · rw [decide_eq_false hlu] at KLu
        obtain ⟨n0, k0, hr0⟩ : ∃ (nn kk : Int), posR (bts p) (bts s) n = (nn, kk) := ⟨_, _, rfl⟩
        have KP0 := fun W => Lib.hid ((Pos_any p s n W hsp hss hn).mono (fun e w' h => givesN_at hr0 h))
        have KR0 := fun W => Lib.hid ((RPos_any p s n W hsp hss hn).mono (fun e w' h => givesM_at hr0 h))
        have KC0 := fun W => Lib.hid (num_same n0 k0 W)
        obtain ⟨n1, k1, hr1⟩ : ∃ (nn kk : Int), lastPosR (bts p) (bts s) n = (nn, kk) := ⟨_, _, rfl⟩
        have KP1 := fun W => Lib.hid ((LastPos_any p s n W hsp hss hn).mono (fun e w' h => givesN_at hr1 h))
        have KR1 := fun W => Lib.hid ((RLastPos_any p s n W hsp hss hn).mono (fun e w' h => givesM_at hr1 h))
        have KC1 := fun W => Lib.hid (num_same n1 k1 W)
        obtain ⟨n2, k2, hr2⟩ : ∃ (nn kk : Int), countR (bts p) (bts s) = (nn, kk) := ⟨_, _, rfl⟩
        have KP2 := fun W => Lib.hid ((Count_any p s W hsp hss).mono (fun e w' h => givesN_at hr2 h))
        have KR2 := fun W => Lib.hid ((RCount_any p s W hsp hss).mono (fun e w' h => givesM_at hr2 h))
        have KC2 := fun W => Lib.hid (num_same n2 k2 W)
        obtain ⟨t3, k3, hr3⟩ := res_ex (changeR (bts p) (bts s) (bts u))
        have KP3 := fun W => Lib.hid ((Change_any p s u W hsp hss hsu).mono (fun e w' h => givesS_at hr3 rfl h))
        have KR3 := fun W => Lib.hid ((RChange_any p s u W hsp hss hsu).mono (fun e w' h => givesA_at hr3 rfl h))
        have KC3 := fun W => Lib.hid (str_same t3 k3 W)
        clear hr0 hr1 hr2 hr3
        go_enter Tryd.func5, Tryd.ntmps5
        go_wp2_with (first
          | (go_at_call 16; refine Calls.mono (KH _).out ?_; rintro e w1 ⟨rfl, hb0⟩)
          | (go_at_call 17; (with_reducible refine Calls.mono (KLp _).out ?_); rintro e w1 ⟨rfl, rfl⟩)
          | (go_at_call 17; (with_reducible refine Calls.mono (KLs _).out ?_); rintro e w1 ⟨rfl, rfl⟩)
          | (go_at_call 17; (with_reducible refine Calls.mono (KLu _).out ?_); rintro e w1 ⟨rfl, rfl⟩)
          | (go_at_call 41; (with_reducible refine Calls.mono (KP0 _).out ?_); rintro e w1 ⟨rfl, hbp0⟩)
          | (go_at_call 46; (with_reducible refine Calls.mono (KR0 _).out ?_); rintro e w1 ⟨rfl, hbr0⟩)
          | (go_at_call 45; (with_reducible refine Calls.mono (KC0 _).out ?_); rintro e w1 ⟨rfl, hbc0⟩)
          | (go_at_call 42; (with_reducible refine Calls.mono (KP1 _).out ?_); rintro e w1 ⟨rfl, hbp1⟩)
          | (go_at_call 47; (with_reducible refine Calls.mono (KR1 _).out ?_); rintro e w1 ⟨rfl, hbr1⟩)
          | (go_at_call 45; (with_reducible refine Calls.mono (KC1 _).out ?_); rintro e w1 ⟨rfl, hbc1⟩)
          | (go_at_call 43; (with_reducible refine Calls.mono (KP2 _).out ?_); rintro e w1 ⟨rfl, hbp2⟩)
          | (go_at_call 48; (with_reducible refine Calls.mono (KR2 _).out ?_); rintro e w1 ⟨rfl, hbr2⟩)
          | (go_at_call 45; (with_reducible refine Calls.mono (KC2 _).out ?_); rintro e w1 ⟨rfl, hbc2⟩)
          | (go_at_call 44; (with_reducible refine Calls.mono (KP3 _).out ?_); rintro e w1 ⟨rfl, hbp3⟩)
          | (go_at_call 49; (with_reducible refine Calls.mono (KR3 _).out ?_); rintro e w1 ⟨rfl, hbr3⟩)
          | (go_at_call 24; (with_reducible refine Calls.mono (KC3 _).out ?_); rintro e w1 ⟨rfl, hbc3⟩))
        go_ret
        exact ⟨rfl, (by repeat (first | assumption | refine Bl.step ?_ (by assumption)))⟩
end Go.Proofs.YtoilgjlbpimcpaaDoor
