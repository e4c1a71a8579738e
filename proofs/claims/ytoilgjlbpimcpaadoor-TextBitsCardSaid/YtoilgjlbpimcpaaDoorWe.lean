/- TextBits, as a call. -/
import Derived.Test.YtoilgjlbpimcpaaDoorVs
import Derived.Test.YtoilgjlbpimcpaaDoorWb
import Derived.Test.YtoilgjlbpimcpaaDoorWc
import Derived.Test.YtoilgjlbpimcpaaDoorWd
import Derived.Test.YtoilgjlbpimcpaaDoorUh
import Derived.Test.YtoilgjlbpimcpaaDoorUi
namespace Go.Proofs.YtoilgjlbpimcpaaDoor
open Go.RowKit Go.Shelf Tx
set_option linter.unusedVariables false
set_option maxRecDepth 100000

set_option maxHeartbeats 4000000 in
theorem TextBits_any (u v : ByteArray) (p : Int) (w : World) (hsu : u.size ≤ maxLen) (hsv : v.size ≤ maxLen) (hp0 : -9223372036854775808 ≤ p) (hp : p ≤ 9223372036854775807) :
    Calls Tryd.prog 10 #[.string u, .string v, .int .i64 p] w fun e w' => e = .returned (.bool true) ∧ Below w.heap.size w w' := by
  have KH := fun W => Lib.hid (head_any W)
  have KLu := fun W => Lib.hid (long_any u W hsu)
  have KLv := fun W => Lib.hid (long_any v W hsv)
  by_cases hlu : 1200 < u.size
  · rw [decide_eq_true hlu] at KLu
    go_enter Tryd.func10, Tryd.ntmps10
    go_wp2_with (first
      | (go_at_call 16; refine Calls.mono (KH _).out ?_; rintro e w1 ⟨rfl, hb0⟩)
      | (go_at_call 17; (with_reducible refine Calls.mono (KLu _).out ?_); rintro e w1 ⟨rfl, rfl⟩))
    go_ret
    exact ⟨rfl, hb0⟩
  · rw [decide_eq_false hlu] at KLu
    by_cases hlv : 1200 < v.size
    · rw [decide_eq_true hlv] at KLv
      go_enter Tryd.func10, Tryd.ntmps10
      go_wp2_with (first
        | (go_at_call 16; refine Calls.mono (KH _).out ?_; rintro e w1 ⟨rfl, hb0⟩)
        | (go_at_call 17; (with_reducible refine Calls.mono (KLu _).out ?_); rintro e w1 ⟨rfl, rfl⟩)
        | (go_at_call 17; (with_reducible refine Calls.mono (KLv _).out ?_); rintro e w1 ⟨rfl, rfl⟩))
      go_ret
      exact ⟨rfl, hb0⟩
    · rw [decide_eq_false hlv] at KLv
      obtain ⟨t0, k0, hr0⟩ := res_ex (bitsR opAnd (bts u) (bts v) p)
      have KP0 := fun W => Lib.hid ((BitAnd_any u v p W hsu hsv hp).mono (fun e w' h => givesS_at hr0 rfl h))
      have KR0 := fun W => Lib.hid ((RBitsAnd_any u v p W hsu hsv hp).mono (fun e w' h => givesA_at hr0 rfl h))
      have KC0 := fun W => Lib.hid (str_same t0 k0 W)
      obtain ⟨t1, k1, hr1⟩ := res_ex (bitsR opOr (bts u) (bts v) p)
      have KP1 := fun W => Lib.hid ((BitOr_any u v p W hsu hsv hp).mono (fun e w' h => givesS_at hr1 rfl h))
      have KR1 := fun W => Lib.hid ((RBitsOr_any u v p W hsu hsv hp).mono (fun e w' h => givesA_at hr1 rfl h))
      have KC1 := fun W => Lib.hid (str_same t1 k1 W)
      obtain ⟨t2, k2, hr2⟩ := res_ex (bitsR opXor (bts u) (bts v) p)
      have KP2 := fun W => Lib.hid ((BitXor_any u v p W hsu hsv hp).mono (fun e w' h => givesS_at hr2 rfl h))
      have KR2 := fun W => Lib.hid ((RBitsXor_any u v p W hsu hsv hp).mono (fun e w' h => givesA_at hr2 rfl h))
      have KC2 := fun W => Lib.hid (str_same t2 k2 W)
      clear hr0 hr1 hr2
      go_enter Tryd.func10, Tryd.ntmps10
      go_wp2_with (first
        | (go_at_call 16; refine Calls.mono (KH _).out ?_; rintro e w1 ⟨rfl, hb0⟩)
        | (go_at_call 17; (with_reducible refine Calls.mono (KLu _).out ?_); rintro e w1 ⟨rfl, rfl⟩)
        | (go_at_call 17; (with_reducible refine Calls.mono (KLv _).out ?_); rintro e w1 ⟨rfl, rfl⟩)
        | (go_at_call 80; (with_reducible refine Calls.mono (KP0 _).out ?_); rintro e w1 ⟨rfl, hbp0⟩)
        | (go_at_call 83; (with_reducible refine Calls.mono (KR0 _).out ?_); rintro e w1 ⟨rfl, hbr0⟩)
        | (go_at_call 24; (with_reducible refine Calls.mono (KC0 _).out ?_); rintro e w1 ⟨rfl, hbc0⟩)
        | (go_at_call 81; (with_reducible refine Calls.mono (KP1 _).out ?_); rintro e w1 ⟨rfl, hbp1⟩)
        | (go_at_call 83; (with_reducible refine Calls.mono (KR1 _).out ?_); rintro e w1 ⟨rfl, hbr1⟩)
        | (go_at_call 24; (with_reducible refine Calls.mono (KC1 _).out ?_); rintro e w1 ⟨rfl, hbc1⟩)
        | (go_at_call 82; (with_reducible refine Calls.mono (KP2 _).out ?_); rintro e w1 ⟨rfl, hbp2⟩)
        | (go_at_call 83; (with_reducible refine Calls.mono (KR2 _).out ?_); rintro e w1 ⟨rfl, hbr2⟩)
        | (go_at_call 24; (with_reducible refine Calls.mono (KC2 _).out ?_); rintro e w1 ⟨rfl, hbc2⟩))
      go_ret
      exact ⟨rfl, (by repeat (first | assumption | refine Bl.step ?_ (by assumption)))⟩
end Go.Proofs.YtoilgjlbpimcpaaDoor
