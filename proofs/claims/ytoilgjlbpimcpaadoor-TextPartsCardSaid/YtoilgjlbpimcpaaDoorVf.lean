/- TextParts, as a call. -/
import Derived.Test.YtoilgjlbpimcpaaDoorVs
import Derived.Test.YtoilgjlbpimcpaaDoorVd
import Derived.Test.YtoilgjlbpimcpaaDoorVe
namespace Go.Proofs.YtoilgjlbpimcpaaDoor
open Go.RowKit Go.Shelf Tx
set_option linter.unusedVariables false
set_option maxRecDepth 100000

set_option maxHeartbeats 4000000 in
theorem TextParts_any (p s : ByteArray) (n m : Int) (c : UInt8) (w : World) (hsp : p.size ≤ maxLen) (hss : s.size ≤ maxLen) (hn0 : -9223372036854775808 ≤ n) (hn : n ≤ 9223372036854775807) (hm0 : -9223372036854775808 ≤ m) (hm : m ≤ 9223372036854775807) :
    Calls Tryd.prog 4 #[.string p, .string s, .int .i64 n, .int .i64 m, .int .u8 (c.toNat : Int)] w fun e w' => e = .returned (.bool true) ∧ Below w.heap.size w w' := by
  have KH := fun W => Lib.hid (head_any W)
  have KLp := fun W => Lib.hid (long_any p W hsp)
  have KLs := fun W => Lib.hid (long_any s W hss)
  by_cases hlp : 1200 < p.size
  · rw [decide_eq_true hlp] at KLp
    go_enter Tryd.func4, Tryd.ntmps4
    go_wp2_with (first
      | (go_at_call 16; refine Calls.mono (KH _).out ?_; rintro e w1 ⟨rfl, hb0⟩)
      | (go_at_call 17; (with_reducible refine Calls.mono (KLp _).out ?_); rintro e w1 ⟨rfl, rfl⟩))
    go_ret
    exact ⟨rfl, hb0⟩
  · rw [decide_eq_false hlp] at KLp
    by_cases hls : 1200 < s.size
    · rw [decide_eq_true hls] at KLs
      go_enter Tryd.func4, Tryd.ntmps4
      go_wp2_with (first
        | (go_at_call 16; refine Calls.mono (KH _).out ?_; rintro e w1 ⟨rfl, hb0⟩)
        | (go_at_call 17; (with_reducible refine Calls.mono (KLp _).out ?_); rintro e w1 ⟨rfl, rfl⟩)
        | (go_at_call 17; (with_reducible refine Calls.mono (KLs _).out ?_); rintro e w1 ⟨rfl, rfl⟩))
      go_ret
      exact ⟨rfl, hb0⟩
    · rw [decide_eq_false hls] at KLs
      obtain ⟨t0, k0, hr0⟩ := res_ex (substrR (bts s) n m (c.toNat : Int))
      have KP0 := fun W => Lib.hid ((Substr_any s n m (c.toNat : Int) W hss hn (by have := c.toNat_lt; omega) (by have := c.toNat_lt; omega)).mono (fun e w' h => givesS_at hr0 rfl h))
      have KR0 := fun W => Lib.hid ((RSubstr_any s n m c W hss hn hm).mono (fun e w' h => givesA_at hr0 rfl h))
      have KC0 := fun W => Lib.hid (str_same t0 k0 W)
      obtain ⟨t1, k1, hr1⟩ := res_ex (delStrR (bts s) n m)
      have KP1 := fun W => Lib.hid ((DelStr_any s n m W hss hn).mono (fun e w' h => givesS_at hr1 rfl h))
      have KR1 := fun W => Lib.hid ((RDelStr_any s n m W hss hn hm).mono (fun e w' h => givesA_at hr1 rfl h))
      have KC1 := fun W => Lib.hid (str_same t1 k1 W)
      obtain ⟨t2, k2, hr2⟩ := res_ex (insertR (bts p) (bts s) n m (c.toNat : Int))
      have KP2 := fun W => Lib.hid ((Insert_any p s n m (c.toNat : Int) W hsp hss hn (by have := c.toNat_lt; omega) (by have := c.toNat_lt; omega)).mono (fun e w' h => givesS_at hr2 rfl h))
      have KR2 := fun W => Lib.hid ((RInsert_any p s n m c W hsp hss hn hm).mono (fun e w' h => givesA_at hr2 rfl h))
      have KC2 := fun W => Lib.hid (str_same t2 k2 W)
      obtain ⟨t3, k3, hr3⟩ := res_ex (overlayR (bts p) (bts s) n m (c.toNat : Int))
      have KP3 := fun W => Lib.hid ((Overlay_any p s n m (c.toNat : Int) W hsp hss hn (by have := c.toNat_lt; omega) (by have := c.toNat_lt; omega)).mono (fun e w' h => givesS_at hr3 rfl h))
      have KR3 := fun W => Lib.hid ((ROverlay_any p s n m c W hsp hss hn hm).mono (fun e w' h => givesA_at hr3 rfl h))
      have KC3 := fun W => Lib.hid (str_same t3 k3 W)
      clear hr0 hr1 hr2 hr3
      go_enter Tryd.func4, Tryd.ntmps4
      go_wp2_with (first
        | (go_at_call 16; refine Calls.mono (KH _).out ?_; rintro e w1 ⟨rfl, hb0⟩)
        | (go_at_call 17; (with_reducible refine Calls.mono (KLp _).out ?_); rintro e w1 ⟨rfl, rfl⟩)
        | (go_at_call 17; (with_reducible refine Calls.mono (KLs _).out ?_); rintro e w1 ⟨rfl, rfl⟩)
        | (go_at_call 33; (with_reducible refine Calls.mono (KP0 _).out ?_); rintro e w1 ⟨rfl, hbp0⟩)
        | (go_at_call 37; (with_reducible refine Calls.mono (KR0 _).out ?_); rintro e w1 ⟨rfl, hbr0⟩)
        | (go_at_call 24; (with_reducible refine Calls.mono (KC0 _).out ?_); rintro e w1 ⟨rfl, hbc0⟩)
        | (go_at_call 34; (with_reducible refine Calls.mono (KP1 _).out ?_); rintro e w1 ⟨rfl, hbp1⟩)
        | (go_at_call 38; (with_reducible refine Calls.mono (KR1 _).out ?_); rintro e w1 ⟨rfl, hbr1⟩)
        | (go_at_call 24; (with_reducible refine Calls.mono (KC1 _).out ?_); rintro e w1 ⟨rfl, hbc1⟩)
        | (go_at_call 35; (with_reducible refine Calls.mono (KP2 _).out ?_); rintro e w1 ⟨rfl, hbp2⟩)
        | (go_at_call 39; (with_reducible refine Calls.mono (KR2 _).out ?_); rintro e w1 ⟨rfl, hbr2⟩)
        | (go_at_call 24; (with_reducible refine Calls.mono (KC2 _).out ?_); rintro e w1 ⟨rfl, hbc2⟩)
        | (go_at_call 36; (with_reducible refine Calls.mono (KP3 _).out ?_); rintro e w1 ⟨rfl, hbp3⟩)
        | (go_at_call 40; (with_reducible refine Calls.mono (KR3 _).out ?_); rintro e w1 ⟨rfl, hbr3⟩)
        | (go_at_call 24; (with_reducible refine Calls.mono (KC3 _).out ?_); rintro e w1 ⟨rfl, hbc3⟩))
      go_ret
      exact ⟨rfl, (by repeat (first | assumption | refine Bl.step ?_ (by assumption)))⟩
end Go.Proofs.YtoilgjlbpimcpaaDoor
