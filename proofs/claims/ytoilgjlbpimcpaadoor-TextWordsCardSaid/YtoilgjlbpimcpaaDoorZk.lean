/- TextWords, as a call. -/
import Derived.Test.YtoilgjlbpimcpaaDoorVs
import Derived.Test.YtoilgjlbpimcpaaDoorZi
import Derived.Test.YtoilgjlbpimcpaaDoorZj
namespace Go.Proofs.YtoilgjlbpimcpaaDoor
open Go.RowKit Go.Shelf Tx
set_option linter.unusedVariables false
set_option maxRecDepth 100000

set_option maxHeartbeats 4000000 in
theorem TextWords_any (s : ByteArray) (n m : Int) (w : World) (hss : s.size ≤ maxLen) (hn0 : -9223372036854775808 ≤ n) (hn : n ≤ 9223372036854775807) (hm0 : -9223372036854775808 ≤ m) (hm : m ≤ 9223372036854775807) :
    Calls Tryd.prog 7 #[.string s, .int .i64 n, .int .i64 m] w fun e w' => e = .returned (.bool true) ∧ Below w.heap.size w w' := by
  have KH := fun W => Lib.hid (head_any W)
  have KLs := fun W => Lib.hid (long_any s W hss)
  by_cases hls : 1200 < s.size
  · rw [decide_eq_true hls] at KLs
    go_enter Tryd.func7, Tryd.ntmps7
    go_wp2_with (first
      | (go_at_call 16; refine Calls.mono (KH _).out ?_; rintro e w1 ⟨rfl, hb0⟩)
      | (go_at_call 17; (with_reducible refine Calls.mono (KLs _).out ?_); rintro e w1 ⟨rfl, rfl⟩))
    go_ret
    exact ⟨rfl, hb0⟩
  · rw [decide_eq_false hls] at KLs
    obtain ⟨n0, k0, hr0⟩ : ∃ (nn kk : Int), wordsR (bts s) = (nn, kk) := ⟨_, _, rfl⟩
    have KP0 := fun W => Lib.hid ((Words_any s W hss).mono (fun e w' h => givesN_at hr0 h))
    have KR0 := fun W => Lib.hid ((RWords_any s W hss).mono (fun e w' h => givesM_at hr0 h))
    have KC0 := fun W => Lib.hid (num_same n0 k0 W)
    obtain ⟨t1, k1, hr1⟩ := res_ex (wordR (bts s) n)
    have KP1 := fun W => Lib.hid ((Word_any s n W hss hn).mono (fun e w' h => givesS_at hr1 rfl h))
    have KR1 := fun W => Lib.hid ((RWord_any s n W hss hn).mono (fun e w' h => givesA_at hr1 rfl h))
    have KC1 := fun W => Lib.hid (str_same t1 k1 W)
    obtain ⟨n2, k2, hr2⟩ : ∃ (nn kk : Int), wordIndexR (bts s) n = (nn, kk) := ⟨_, _, rfl⟩
    have KP2 := fun W => Lib.hid ((WordIndex_any s n W hss hn).mono (fun e w' h => givesN_at hr2 h))
    have KR2 := fun W => Lib.hid ((RWordIndex_any s n W hss hn).mono (fun e w' h => givesM_at hr2 h))
    have KC2 := fun W => Lib.hid (num_same n2 k2 W)
    obtain ⟨n3, k3, hr3⟩ : ∃ (nn kk : Int), wordLengthR (bts s) n = (nn, kk) := ⟨_, _, rfl⟩
    have KP3 := fun W => Lib.hid ((WordLength_any s n W hss hn).mono (fun e w' h => givesN_at hr3 h))
    have KR3 := fun W => Lib.hid ((RWordLength_any s n W hss hn).mono (fun e w' h => givesM_at hr3 h))
    have KC3 := fun W => Lib.hid (num_same n3 k3 W)
    obtain ⟨t4, k4, hr4⟩ := res_ex (subwordR (bts s) n m)
    have KP4 := fun W => Lib.hid ((Subword_any s n m W hss hn hm).mono (fun e w' h => givesS_at hr4 rfl h))
    have KR4 := fun W => Lib.hid ((RSubword_any s n m W hss hm).mono (fun e w' h => givesA_at hr4 rfl h))
    have KC4 := fun W => Lib.hid (str_same t4 k4 W)
    obtain ⟨t5, k5, hr5⟩ := res_ex (delWordR (bts s) n m)
    have KP5 := fun W => Lib.hid ((DelWord_any s n m W hss hn hm).mono (fun e w' h => givesS_at hr5 rfl h))
    have KR5 := fun W => Lib.hid ((RDelWord_any s n m W hss hm).mono (fun e w' h => givesA_at hr5 rfl h))
    have KC5 := fun W => Lib.hid (str_same t5 k5 W)
    clear hr0 hr1 hr2 hr3 hr4 hr5
    go_enter Tryd.func7, Tryd.ntmps7
    go_wp2_with (first
      | (go_at_call 16; refine Calls.mono (KH _).out ?_; rintro e w1 ⟨rfl, hb0⟩)
      | (go_at_call 17; (with_reducible refine Calls.mono (KLs _).out ?_); rintro e w1 ⟨rfl, rfl⟩)
      | (go_at_call 56; (with_reducible refine Calls.mono (KP0 _).out ?_); rintro e w1 ⟨rfl, hbp0⟩)
      | (go_at_call 62; (with_reducible refine Calls.mono (KR0 _).out ?_); rintro e w1 ⟨rfl, hbr0⟩)
      | (go_at_call 45; (with_reducible refine Calls.mono (KC0 _).out ?_); rintro e w1 ⟨rfl, hbc0⟩)
      | (go_at_call 57; (with_reducible refine Calls.mono (KP1 _).out ?_); rintro e w1 ⟨rfl, hbp1⟩)
      | (go_at_call 63; (with_reducible refine Calls.mono (KR1 _).out ?_); rintro e w1 ⟨rfl, hbr1⟩)
      | (go_at_call 24; (with_reducible refine Calls.mono (KC1 _).out ?_); rintro e w1 ⟨rfl, hbc1⟩)
      | (go_at_call 58; (with_reducible refine Calls.mono (KP2 _).out ?_); rintro e w1 ⟨rfl, hbp2⟩)
      | (go_at_call 64; (with_reducible refine Calls.mono (KR2 _).out ?_); rintro e w1 ⟨rfl, hbr2⟩)
      | (go_at_call 45; (with_reducible refine Calls.mono (KC2 _).out ?_); rintro e w1 ⟨rfl, hbc2⟩)
      | (go_at_call 59; (with_reducible refine Calls.mono (KP3 _).out ?_); rintro e w1 ⟨rfl, hbp3⟩)
      | (go_at_call 65; (with_reducible refine Calls.mono (KR3 _).out ?_); rintro e w1 ⟨rfl, hbr3⟩)
      | (go_at_call 45; (with_reducible refine Calls.mono (KC3 _).out ?_); rintro e w1 ⟨rfl, hbc3⟩)
      | (go_at_call 60; (with_reducible refine Calls.mono (KP4 _).out ?_); rintro e w1 ⟨rfl, hbp4⟩)
      | (go_at_call 66; (with_reducible refine Calls.mono (KR4 _).out ?_); rintro e w1 ⟨rfl, hbr4⟩)
      | (go_at_call 24; (with_reducible refine Calls.mono (KC4 _).out ?_); rintro e w1 ⟨rfl, hbc4⟩)
      | (go_at_call 61; (with_reducible refine Calls.mono (KP5 _).out ?_); rintro e w1 ⟨rfl, hbp5⟩)
      | (go_at_call 67; (with_reducible refine Calls.mono (KR5 _).out ?_); rintro e w1 ⟨rfl, hbr5⟩)
      | (go_at_call 24; (with_reducible refine Calls.mono (KC5 _).out ?_); rintro e w1 ⟨rfl, hbc5⟩))
    go_ret
    exact ⟨rfl, (by repeat (first | assumption | refine Bl.step ?_ (by assumption)))⟩
end Go.Proofs.YtoilgjlbpimcpaaDoor
