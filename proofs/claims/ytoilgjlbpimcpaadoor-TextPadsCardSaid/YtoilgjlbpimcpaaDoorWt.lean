/- TextPads, as a call. -/
import Derived.Test.YtoilgjlbpimcpaaDoorVs
import Derived.Test.YtoilgjlbpimcpaaDoorWs
namespace Go.Proofs.YtoilgjlbpimcpaaDoor
open Go.RowKit Go.Shelf Tx
set_option linter.unusedVariables false
set_option maxRecDepth 100000

set_option maxHeartbeats 4000000 in
theorem TextPads_any (s : ByteArray) (n : Int) (c : UInt8) (side : Int) (w : World) (hss : s.size ≤ maxLen) (hn0 : -9223372036854775808 ≤ n) (hn : n ≤ 9223372036854775807) (hd0 : -9223372036854775808 ≤ side) (hd : side ≤ 9223372036854775807) :
    Calls Tryd.prog 3 #[.string s, .int .i64 n, .int .u8 (c.toNat : Int), .int .i64 side] w fun e w' => e = .returned (.bool true) ∧ Below w.heap.size w w' := by
  have KH := fun W => Lib.hid (head_any W)
  have KLs := fun W => Lib.hid (long_any s W hss)
  by_cases hls : 1200 < s.size
  · rw [decide_eq_true hls] at KLs
    go_enter Tryd.func3, Tryd.ntmps3
    go_wp2_with (first
      | (go_at_call 16; refine Calls.mono (KH _).out ?_; rintro e w1 ⟨rfl, hb0⟩)
      | (go_at_call 17; (with_reducible refine Calls.mono (KLs _).out ?_); rintro e w1 ⟨rfl, rfl⟩))
    go_ret
    exact ⟨rfl, hb0⟩
  · rw [decide_eq_false hls] at KLs
    have KV1 := fun W => Lib.hid (Valid_any s W hss)
    have KV2 := fun W => Lib.hid (RValid_any s W hss)
    obtain ⟨b, hb⟩ : ∃ b, b = validL (bts s) := ⟨_, rfl⟩
    rw [← hb] at KV1 KV2
    clear hb
    obtain ⟨t0, k0, hr0⟩ := res_ex (resR shL (bts s) n (c.toNat : Int))
    have KP0 := fun W => Lib.hid ((Left_any s n (c.toNat : Int) W hss (by have := c.toNat_lt; omega) (by have := c.toNat_lt; omega)).mono (fun e w' h => givesS_at hr0 rfl h))
    have KR0 := fun W => Lib.hid ((RLeft_any s n c W hss hn).mono (fun e w' h => givesA_at hr0 rfl h))
    have KC0 := fun W => Lib.hid (str_same t0 k0 W)
    obtain ⟨t1, k1, hr1⟩ := res_ex (resR shR (bts s) n (c.toNat : Int))
    have KP1 := fun W => Lib.hid ((Right_any s n (c.toNat : Int) W hss (by have := c.toNat_lt; omega) (by have := c.toNat_lt; omega)).mono (fun e w' h => givesS_at hr1 rfl h))
    have KR1 := fun W => Lib.hid ((RRight_any s n c W hss hn).mono (fun e w' h => givesA_at hr1 rfl h))
    have KC1 := fun W => Lib.hid (str_same t1 k1 W)
    obtain ⟨t2, k2, hr2⟩ := res_ex (resR shC (bts s) n (c.toNat : Int))
    have KP2 := fun W => Lib.hid ((Center_any s n (c.toNat : Int) W hss (by have := c.toNat_lt; omega) (by have := c.toNat_lt; omega)).mono (fun e w' h => givesS_at hr2 rfl h))
    have KR2 := fun W => Lib.hid ((RCenter_any s n c W hss hn).mono (fun e w' h => givesA_at hr2 rfl h))
    have KC2 := fun W => Lib.hid (str_same t2 k2 W)
    obtain ⟨t3, k3, hr3⟩ := res_ex (copiesR (bts s) n)
    have KP3 := fun W => Lib.hid ((Copies_any s n W hss hn).mono (fun e w' h => givesS_at hr3 rfl h))
    have KR3 := fun W => Lib.hid ((RCopies_any s n W hss hn).mono (fun e w' h => givesA_at hr3 rfl h))
    have KC3 := fun W => Lib.hid (str_same t3 k3 W)
    obtain ⟨t4, k4, hr4⟩ := res_ex (reverseR (bts s))
    have KP4 := fun W => Lib.hid ((Reverse_any s W hss).mono (fun e w' h => givesS_at hr4 rfl h))
    have KR4 := fun W => Lib.hid ((RReverse_any s W hss).mono (fun e w' h => givesA_at hr4 rfl h))
    have KC4 := fun W => Lib.hid (str_same t4 k4 W)
    obtain ⟨t5, k5, hr5⟩ := res_ex (stripR (bts s) side (c.toNat : Int))
    have KP5 := fun W => Lib.hid ((Strip_any s side c W hss).mono (fun e w' h => givesS_at hr5 rfl h))
    have KR5 := fun W => Lib.hid ((RStrip_any s side c W hss).mono (fun e w' h => givesA_at hr5 rfl h))
    have KC5 := fun W => Lib.hid (str_same t5 k5 W)
    clear hr0 hr1 hr2 hr3 hr4 hr5
    go_enter Tryd.func3, Tryd.ntmps3
    go_wp2_with (first
      | (go_at_call 16; refine Calls.mono (KH _).out ?_; rintro e w1 ⟨rfl, hb0⟩)
      | (go_at_call 17; (with_reducible refine Calls.mono (KLs _).out ?_); rintro e w1 ⟨rfl, rfl⟩)
      | (go_at_call 18; (with_reducible refine Calls.mono (KP0 _).out ?_); rintro e w1 ⟨rfl, hbp0⟩)
      | (go_at_call 25; (with_reducible refine Calls.mono (KR0 _).out ?_); rintro e w1 ⟨rfl, hbr0⟩)
      | (go_at_call 24; (with_reducible refine Calls.mono (KC0 _).out ?_); rintro e w1 ⟨rfl, hbc0⟩)
      | (go_at_call 19; (with_reducible refine Calls.mono (KP1 _).out ?_); rintro e w1 ⟨rfl, hbp1⟩)
      | (go_at_call 26; (with_reducible refine Calls.mono (KR1 _).out ?_); rintro e w1 ⟨rfl, hbr1⟩)
      | (go_at_call 24; (with_reducible refine Calls.mono (KC1 _).out ?_); rintro e w1 ⟨rfl, hbc1⟩)
      | (go_at_call 20; (with_reducible refine Calls.mono (KP2 _).out ?_); rintro e w1 ⟨rfl, hbp2⟩)
      | (go_at_call 27; (with_reducible refine Calls.mono (KR2 _).out ?_); rintro e w1 ⟨rfl, hbr2⟩)
      | (go_at_call 24; (with_reducible refine Calls.mono (KC2 _).out ?_); rintro e w1 ⟨rfl, hbc2⟩)
      | (go_at_call 21; (with_reducible refine Calls.mono (KP3 _).out ?_); rintro e w1 ⟨rfl, hbp3⟩)
      | (go_at_call 28; (with_reducible refine Calls.mono (KR3 _).out ?_); rintro e w1 ⟨rfl, hbr3⟩)
      | (go_at_call 24; (with_reducible refine Calls.mono (KC3 _).out ?_); rintro e w1 ⟨rfl, hbc3⟩)
      | (go_at_call 22; (with_reducible refine Calls.mono (KP4 _).out ?_); rintro e w1 ⟨rfl, hbp4⟩)
      | (go_at_call 29; (with_reducible refine Calls.mono (KR4 _).out ?_); rintro e w1 ⟨rfl, hbr4⟩)
      | (go_at_call 24; (with_reducible refine Calls.mono (KC4 _).out ?_); rintro e w1 ⟨rfl, hbc4⟩)
      | (go_at_call 23; (with_reducible refine Calls.mono (KP5 _).out ?_); rintro e w1 ⟨rfl, hbp5⟩)
      | (go_at_call 30; (with_reducible refine Calls.mono (KR5 _).out ?_); rintro e w1 ⟨rfl, hbr5⟩)
      | (go_at_call 24; (with_reducible refine Calls.mono (KC5 _).out ?_); rintro e w1 ⟨rfl, hbc5⟩)
      | (go_at_call 31; refine Calls.mono (KV1 _).out ?_; rintro e w1 ⟨rfl, hbv⟩)
      | (go_at_call 32; refine Calls.mono (KV2 _).out ?_; rintro e w1 ⟨rfl, rfl⟩))
    go_ret
    exact ⟨rfl, (by repeat (first | assumption | refine Bl.step ?_ (by assumption)))⟩
end Go.Proofs.YtoilgjlbpimcpaaDoor
