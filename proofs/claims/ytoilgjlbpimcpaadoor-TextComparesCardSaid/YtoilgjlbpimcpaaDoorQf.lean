/- TextCompares, as a call. -/
import Derived.Test.YtoilgjlbpimcpaaDoorVs
import Derived.Test.YtoilgjlbpimcpaaDoorZj
import Derived.Test.YtoilgjlbpimcpaaDoorQa
import Derived.Test.YtoilgjlbpimcpaaDoorQb
import Derived.Test.YtoilgjlbpimcpaaDoorQd
import Derived.Test.YtoilgjlbpimcpaaDoorQe
namespace Go.Proofs.YtoilgjlbpimcpaaDoor
open Go.RowKit Go.Shelf Tx
set_option linter.unusedVariables false
set_option maxRecDepth 100000

/-- A box of yes or no and an error. -/
def T2 (B : Nat) (y : Bool) (k : Int) (W : World) : Prop := W.cell? ⟨B, 0, none⟩ = some (.bool y) ∧ W.cell? ⟨B, 1, none⟩ = some (.int .i64 k) ∧ B < W.heap.size
theorem T2.new (w : World) (y : Bool) (k : Int) (t : TypeId) : T2 w.heap.size y k (w.alloc (.cells #[.bool y, .int .i64 k] t)) := ⟨by simp, by simp, by simp⟩
theorem T2.step {B : Nat} {y : Bool} {k : Int} {W W' : World} (h : T2 B y k W) (hb : Below W.heap.size W W') : T2 B y k W' :=
  ⟨(hb.cell (p := ⟨B, 0, none⟩) h.2.2).trans h.1, (hb.cell (p := ⟨B, 1, none⟩) h.2.2).trans h.2.1, Nat.lt_of_lt_of_le h.2.2 hb.size⟩
set_option maxHeartbeats 4000000 in
theorem TextCompares_any (u v : ByteArray) (n : Int) (c : UInt8) (b : Bool) (w : World) (hsu : u.size ≤ maxLen) (hsv : v.size ≤ maxLen) (hn0 : -9223372036854775808 ≤ n) (hn : n ≤ 9223372036854775807) :
    Calls Tryd.prog 6 #[.string u, .string v, .int .i64 n, .int .u8 (c.toNat : Int), .bool b] w fun e w' => e = .returned (.bool true) ∧ Below w.heap.size w w' := by
  have KH := fun W => Lib.hid (head_any W)
  have KLu := fun W => Lib.hid (long_any u W hsu)
  have KLv := fun W => Lib.hid (long_any v W hsv)
  by_cases hlu : 1200 < u.size
  · rw [decide_eq_true hlu] at KLu
    go_enter Tryd.func6, Tryd.ntmps6
    go_wp2_with (first
      | (go_at_call 16; refine Calls.mono (KH _).out ?_; rintro e w1 ⟨rfl, hb0⟩)
      | (go_at_call 17; (with_reducible refine Calls.mono (KLu _).out ?_); rintro e w1 ⟨rfl, rfl⟩))
    go_ret
    exact ⟨rfl, hb0⟩
  · rw [decide_eq_false hlu] at KLu
    by_cases hlv : 1200 < v.size
    · rw [decide_eq_true hlv] at KLv
      go_enter Tryd.func6, Tryd.ntmps6
      go_wp2_with (first
        | (go_at_call 16; refine Calls.mono (KH _).out ?_; rintro e w1 ⟨rfl, hb0⟩)
        | (go_at_call 17; (with_reducible refine Calls.mono (KLu _).out ?_); rintro e w1 ⟨rfl, rfl⟩)
        | (go_at_call 17; (with_reducible refine Calls.mono (KLv _).out ?_); rintro e w1 ⟨rfl, rfl⟩))
      go_ret
      exact ⟨rfl, hb0⟩
    · rw [decide_eq_false hlv] at KLv
      obtain ⟨ya, ka, hra⟩ : ∃ (yy : Bool) (kk : Int), abbrevR (bts u) (bts v) n = (yy, kk) := ⟨_, _, rfl⟩
      have KA1 := fun W => Lib.hid ((Abbrev_any u v n W hsu hsv).mono (fun e w' h => (show e = .returned (.tuple #[.bool ya, .int .i64 ka]) ∧ Below W.heap.size W w' by rw [hra] at h; exact h)))
      have KA2 := fun W => Lib.hid ((RAbbrev_any u v n W hsu hsv).mono (fun e w' h => (show e = .returned (.agg #[.bool ya, .int .i64 ka]) ∧ Below W.heap.size W w' by rw [hra] at h; exact h)))
      clear hra
      obtain ⟨n0, k0, hr0⟩ : ∃ (nn kk : Int), compareR (bts u) (bts v) (c.toNat : Int) = (nn, kk) := ⟨_, _, rfl⟩
      have KP0 := fun W => Lib.hid ((Compare_any u v (c.toNat : Int) W hsu hsv).mono (fun e w' h => givesN_at hr0 h))
      have KR0 := fun W => Lib.hid ((RCompare_any u v c W hsu hsv).mono (fun e w' h => givesM_at hr0 h))
      have KC0 := fun W => Lib.hid (num_same n0 k0 W)
      obtain ⟨n1, k1, hr1⟩ : ∃ (nn kk : Int), verifyR (bts u) (bts v) b n = (nn, kk) := ⟨_, _, rfl⟩
      have KP1 := fun W => Lib.hid ((Verify_any u v b n W hsu hsv hn).mono (fun e w' h => givesN_at hr1 h))
      have KR1 := fun W => Lib.hid ((RVerify_any u v b n W hsu hsv hn).mono (fun e w' h => givesM_at hr1 h))
      have KC1 := fun W => Lib.hid (num_same n1 k1 W)
      clear hr0 hr1
      go_enter Tryd.func6, Tryd.ntmps6
      go_wp2_with (first
        | (go_at_call 16; refine Calls.mono (KH _).out ?_; rintro e w1 ⟨rfl, hb0⟩)
        | (go_at_call 17; (with_reducible refine Calls.mono (KLu _).out ?_); rintro e w1 ⟨rfl, rfl⟩)
        | (go_at_call 17; (with_reducible refine Calls.mono (KLv _).out ?_); rintro e w1 ⟨rfl, rfl⟩)
        | (go_at_call 50; (with_reducible refine Calls.mono (KP0 _).out ?_); rintro e w1 ⟨rfl, hbp0⟩)
        | (go_at_call 54; (with_reducible refine Calls.mono (KR0 _).out ?_); rintro e w1 ⟨rfl, hbr0⟩; have HT2 := Lib.hid ((T2.new _ _ _ _).step hbr0); obtain ⟨y1, y2, y3⟩ := HT2.out)
        | (go_at_call 45; (with_reducible refine Calls.mono (KC0 _).out ?_); rintro e w1 ⟨rfl, hbc0⟩; have HT3 := Lib.hid (HT2.out.step hbc0); clear y1 y2 y3; obtain ⟨y1, y2, y3⟩ := HT3.out)
        | (go_at_call 52; (with_reducible refine Calls.mono (KP1 _).out ?_); rintro e w1 ⟨rfl, hbp1⟩)
        | (go_at_call 55; (with_reducible refine Calls.mono (KR1 _).out ?_); rintro e w1 ⟨rfl, hbr1⟩)
        | (go_at_call 45; (with_reducible refine Calls.mono (KC1 _).out ?_); rintro e w1 ⟨rfl, hbc1⟩)
        | (go_at_call 51; (with_reducible refine Calls.mono (KA1 _).out ?_); rintro e w1 ⟨rfl, hba1⟩)
        | (go_at_call 53; (with_reducible refine Calls.mono (KA2 _).out ?_); rintro e w1 ⟨rfl, hba2⟩))
      go_ret
      exact ⟨rfl, (by repeat (first | assumption | (with_reducible refine Bl.alloc ?_ _) | refine Bl.step ?_ (by assumption)))⟩
end Go.Proofs.YtoilgjlbpimcpaaDoor
