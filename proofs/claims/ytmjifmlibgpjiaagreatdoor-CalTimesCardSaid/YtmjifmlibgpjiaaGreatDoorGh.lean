/- CalTimesBack, as a call. -/
import Derived.Test.YtmjifmlibgpjiaaGreatDoorDt
import Derived.Test.YtmjifmlibgpjiaaGreatDoorGe
import Derived.Test.YtmjifmlibgpjiaaGreatDoorGg
namespace Go.Proofs.YtmjifmlibgpjiaaGreatDoor
open Go.RowKit Go.Shelf Tx Go.Maps
set_option linter.unusedVariables false
set_option maxRecDepth 100000

set_option maxHeartbeats 4000000 in
theorem ctb_P0Q0 (n X v e : Int) (s : ByteArray) (l : List UInt8) (w : World) (hE : Env w) (hs : ¬ (100 : Int) < (s.size : Int))
    (K1 : ∀ W, Env W → Calls Tryz.prog 34 #[.string s, .int .u8 X] W (Gives W #[.int .i64 v, .int .i64 e])) (he : (e == 0) = false) (he2 : ¬ e = 0) (K2 : ∀ W, Env W → Calls Tryz.prog 32 #[.int .i64 n, .int .u8 X] W (Gives W #[.string ⟨#[]⟩, .int .i64 1])) :
    Calls Tryz.prog 11 #[.int .i64 n, .int .u8 X, .string s] w fun e w' => e = .returned (.bool true) ∧ Below w.heap.size w w' := by
  have K1' := fun W (hW : Env W) => Lib.hid (K1 W hW)
  have K2' := fun W (hW : Env W) => Lib.hid (K2 W hW)
  have KZ := fun W (hW : Env W) => Lib.hid (sane_any W hW)
  have HE := Lib.hid hE
  clear hE K1 K2
  have B0 := Lib.hid (Below.refl w.heap.size w)
  go_enter Tryz.func11, Tryz.ntmps11
  go_wp2_with (first
    | (go_at_call 34; refine Calls.mono (K1' _ (HE.out.below B0.out)).out ?_; rintro e w1 ⟨rfl, hb⟩; clear K1'; have B1 := Lib.hid (Bl.step B0.out hb); clear hb)
    | (go_at_call 32; refine Calls.mono (K2' _ (HE.out.below B1.out)).out ?_; rintro e w3 ⟨rfl, hb⟩; clear K2'; have B3 := Lib.hid (Bl.step B1.out hb); clear hb)
    | (go_at_call 23; refine Calls.mono (KZ _ (HE.out.below B3.out)).out ?_; rintro e w6 ⟨rfl, hb⟩; have B6 := Lib.hid (Bl.step B3.out hb); clear hb))
  go_ret
  exact ⟨by first | rfl | simp, B6.out⟩
set_option maxHeartbeats 4000000 in
theorem ctb_P0Q1 (n X v e v3 : Int) (s : ByteArray) (l : List UInt8) (w : World) (hE : Env w) (hs : ¬ (100 : Int) < (s.size : Int))
    (K1 : ∀ W, Env W → Calls Tryz.prog 34 #[.string s, .int .u8 X] W (Gives W #[.int .i64 v, .int .i64 e])) (he : (e == 0) = false) (he2 : ¬ e = 0) (K2 : ∀ W, Env W → Calls Tryz.prog 32 #[.int .i64 n, .int .u8 X] W (GivesSE W l)) (K3 : ∀ (t : ByteArray), bts t = l → ∀ W, Env W → Calls Tryz.prog 34 #[.string t, .int .u8 X] W (Gives W #[.int .i64 n, .int .i64 0])) (K4 : ∀ W, Env W → Calls Tryz.prog 32 #[.int .i64 n, .int .u8 X] W (GivesSE W l)) :
    Calls Tryz.prog 11 #[.int .i64 n, .int .u8 X, .string s] w fun e w' => e = .returned (.bool true) ∧ Below w.heap.size w w' := by
  have K1' := fun W (hW : Env W) => Lib.hid (K1 W hW)
  have K2' := fun W (hW : Env W) => Lib.hid (K2 W hW)
  have K3' := fun t ht W hW => Lib.hid (K3 t ht W hW)
  have K4' := fun W (hW : Env W) => Lib.hid (K4 W hW)
  have KZ := fun W (hW : Env W) => Lib.hid (sane_any W hW)
  have HE := Lib.hid hE
  clear hE K1 K2 K3 K4
  have B0 := Lib.hid (Below.refl w.heap.size w)
  go_enter Tryz.func11, Tryz.ntmps11
  go_wp2_with (first
    | (go_at_call 34; refine Calls.mono (K1' _ (HE.out.below B0.out)).out ?_; rintro e w1 ⟨rfl, hb⟩; clear K1'; have B1 := Lib.hid (Bl.step B0.out hb); clear hb)
    | (go_at_call 32; refine Calls.mono (K2' _ (HE.out.below B1.out)).out ?_; rintro e w3 ⟨t2, rfl, ht2, hb⟩; clear K2'; have K5 := K3' t2 ht2.out; clear K3'; have B3 := Lib.hid (Bl.step B1.out hb); clear hb)
    | (go_at_call 34; refine Calls.mono (K5 _ (HE.out.below B3.out)).out ?_; rintro e w4 ⟨rfl, hb⟩; clear K5; have B4 := Lib.hid (Bl.step B3.out hb); clear hb)
    | (go_at_call 32; refine Calls.mono (K4' _ (HE.out.below B4.out)).out ?_; rintro e w5 ⟨t4, rfl, ht4, hb⟩; clear K4'; obtain rfl : t4 = t2 := bts_inj (ht4.out.trans ht2.out.symm); clear ht4; have B5 := Lib.hid (Bl.step B4.out hb); clear hb)
    | (go_at_call 23; refine Calls.mono (KZ _ (HE.out.below B5.out)).out ?_; rintro e w6 ⟨rfl, hb⟩; have B6 := Lib.hid (Bl.step B5.out hb); clear hb))
  go_ret
  exact ⟨by first | rfl | simp, B6.out⟩
set_option maxHeartbeats 4000000 in
theorem ctb_P0Q2 (n X v e v3 : Int) (s : ByteArray) (l : List UInt8) (w : World) (hE : Env w) (hs : ¬ (100 : Int) < (s.size : Int))
    (K1 : ∀ W, Env W → Calls Tryz.prog 34 #[.string s, .int .u8 X] W (Gives W #[.int .i64 v, .int .i64 e])) (he : (e == 0) = false) (he2 : ¬ e = 0) (K2 : ∀ W, Env W → Calls Tryz.prog 32 #[.int .i64 n, .int .u8 X] W (GivesSE W l)) (K3 : ∀ (t : ByteArray), bts t = l → ∀ W, Env W → Calls Tryz.prog 34 #[.string t, .int .u8 X] W (Gives W #[.int .i64 v3, .int .i64 0])) (K4 : ∀ W, Env W → Calls Tryz.prog 32 #[.int .i64 v3, .int .u8 X] W (GivesSE W l)) (hv : v3 ≤ n) (x1 : ¬ X = 70) (x2 : ¬ X = 76) (x3 : (X == 70) = false) (x4 : (X == 76) = false) :
    Calls Tryz.prog 11 #[.int .i64 n, .int .u8 X, .string s] w fun e w' => e = .returned (.bool true) ∧ Below w.heap.size w w' := by
  have K1' := fun W (hW : Env W) => Lib.hid (K1 W hW)
  have K2' := fun W (hW : Env W) => Lib.hid (K2 W hW)
  have K3' := fun t ht W hW => Lib.hid (K3 t ht W hW)
  have K4' := fun W (hW : Env W) => Lib.hid (K4 W hW)
  have KZ := fun W (hW : Env W) => Lib.hid (sane_any W hW)
  have HE := Lib.hid hE
  clear hE K1 K2 K3 K4
  have B0 := Lib.hid (Below.refl w.heap.size w)
  go_enter Tryz.func11, Tryz.ntmps11
  go_wp2_with (first
    | (go_at_call 34; refine Calls.mono (K1' _ (HE.out.below B0.out)).out ?_; rintro e w1 ⟨rfl, hb⟩; clear K1'; have B1 := Lib.hid (Bl.step B0.out hb); clear hb)
    | (go_at_call 32; refine Calls.mono (K2' _ (HE.out.below B1.out)).out ?_; rintro e w3 ⟨t2, rfl, ht2, hb⟩; clear K2'; have K5 := K3' t2 ht2.out; clear K3'; have B3 := Lib.hid (Bl.step B1.out hb); clear hb)
    | (go_at_call 34; refine Calls.mono (K5 _ (HE.out.below B3.out)).out ?_; rintro e w4 ⟨rfl, hb⟩; clear K5; have B4 := Lib.hid (Bl.step B3.out hb); clear hb)
    | (go_at_call 32; refine Calls.mono (K4' _ (HE.out.below B4.out)).out ?_; rintro e w5 ⟨t4, rfl, ht4, hb⟩; clear K4'; obtain rfl : t4 = t2 := bts_inj (ht4.out.trans ht2.out.symm); clear ht4; have B5 := Lib.hid (Bl.step B4.out hb); clear hb)
    | (go_at_call 23; refine Calls.mono (KZ _ (HE.out.below B5.out)).out ?_; rintro e w6 ⟨rfl, hb⟩; have B6 := Lib.hid (Bl.step B5.out hb); clear hb))
  all_goals
    go_ret
    exact ⟨by first | (simp; done) | (simp; exact .inr ⟨x1, x2⟩), B6.out⟩
set_option maxHeartbeats 4000000 in
theorem ctb_P1Q0 (n X v e : Int) (s : ByteArray) (l : List UInt8) (w : World) (hE : Env w) (hs : ¬ (100 : Int) < (s.size : Int))
    (K1 : ∀ W, Env W → Calls Tryz.prog 34 #[.string s, .int .u8 X] W (Gives W #[.int .i64 v, .int .i64 0])) (KT : ∀ W, Env W → Calls Tryz.prog 32 #[.int .i64 v, .int .u8 X] W (GivesSE W (bts s))) (K2 : ∀ W, Env W → Calls Tryz.prog 32 #[.int .i64 n, .int .u8 X] W (Gives W #[.string ⟨#[]⟩, .int .i64 1])) :
    Calls Tryz.prog 11 #[.int .i64 n, .int .u8 X, .string s] w fun e w' => e = .returned (.bool true) ∧ Below w.heap.size w w' := by
  have K1' := fun W (hW : Env W) => Lib.hid (K1 W hW)
  have KT' := fun W (hW : Env W) => Lib.hid (KT W hW)
  have K2' := fun W (hW : Env W) => Lib.hid (K2 W hW)
  have KZ := fun W (hW : Env W) => Lib.hid (sane_any W hW)
  have HE := Lib.hid hE
  clear hE K1 KT K2
  have B0 := Lib.hid (Below.refl w.heap.size w)
  go_enter Tryz.func11, Tryz.ntmps11
  go_wp2_with (first
    | (go_at_call 34; refine Calls.mono (K1' _ (HE.out.below B0.out)).out ?_; rintro e w1 ⟨rfl, hb⟩; clear K1'; have B1 := Lib.hid (Bl.step B0.out hb); clear hb)
    | (go_at_call 32; refine Calls.mono (KT' _ (HE.out.below B1.out)).out ?_; rintro e w2 ⟨t, rfl, ht, hb⟩; clear KT'; obtain rfl : t = s := bts_inj ht.out; clear ht; have B2 := Lib.hid (Bl.step B1.out hb); clear hb)
    | (go_at_call 32; refine Calls.mono (K2' _ (HE.out.below B2.out)).out ?_; rintro e w3 ⟨rfl, hb⟩; clear K2'; have B3 := Lib.hid (Bl.step B2.out hb); clear hb)
    | (go_at_call 23; refine Calls.mono (KZ _ (HE.out.below B3.out)).out ?_; rintro e w6 ⟨rfl, hb⟩; have B6 := Lib.hid (Bl.step B3.out hb); clear hb))
  go_ret
  exact ⟨by first | rfl | simp, B6.out⟩
set_option maxHeartbeats 4000000 in
theorem ctb_P1Q1 (n X v e v3 : Int) (s : ByteArray) (l : List UInt8) (w : World) (hE : Env w) (hs : ¬ (100 : Int) < (s.size : Int))
    (K1 : ∀ W, Env W → Calls Tryz.prog 34 #[.string s, .int .u8 X] W (Gives W #[.int .i64 v, .int .i64 0])) (KT : ∀ W, Env W → Calls Tryz.prog 32 #[.int .i64 v, .int .u8 X] W (GivesSE W (bts s))) (K2 : ∀ W, Env W → Calls Tryz.prog 32 #[.int .i64 n, .int .u8 X] W (GivesSE W l)) (K3 : ∀ (t : ByteArray), bts t = l → ∀ W, Env W → Calls Tryz.prog 34 #[.string t, .int .u8 X] W (Gives W #[.int .i64 n, .int .i64 0])) (K4 : ∀ W, Env W → Calls Tryz.prog 32 #[.int .i64 n, .int .u8 X] W (GivesSE W l)) :
    Calls Tryz.prog 11 #[.int .i64 n, .int .u8 X, .string s] w fun e w' => e = .returned (.bool true) ∧ Below w.heap.size w w' := by
  have K1' := fun W (hW : Env W) => Lib.hid (K1 W hW)
  have KT' := fun W (hW : Env W) => Lib.hid (KT W hW)
  have K2' := fun W (hW : Env W) => Lib.hid (K2 W hW)
  have K3' := fun t ht W hW => Lib.hid (K3 t ht W hW)
  have K4' := fun W (hW : Env W) => Lib.hid (K4 W hW)
  have KZ := fun W (hW : Env W) => Lib.hid (sane_any W hW)
  have HE := Lib.hid hE
  clear hE K1 KT K2 K3 K4
  have B0 := Lib.hid (Below.refl w.heap.size w)
  go_enter Tryz.func11, Tryz.ntmps11
  go_wp2_with (first
    | (go_at_call 34; refine Calls.mono (K1' _ (HE.out.below B0.out)).out ?_; rintro e w1 ⟨rfl, hb⟩; clear K1'; have B1 := Lib.hid (Bl.step B0.out hb); clear hb)
    | (go_at_call 32; refine Calls.mono (KT' _ (HE.out.below B1.out)).out ?_; rintro e w2 ⟨t, rfl, ht, hb⟩; clear KT'; obtain rfl : t = s := bts_inj ht.out; clear ht; have B2 := Lib.hid (Bl.step B1.out hb); clear hb)
    | (go_at_call 32; refine Calls.mono (K2' _ (HE.out.below B2.out)).out ?_; rintro e w3 ⟨t2, rfl, ht2, hb⟩; clear K2'; have K5 := K3' t2 ht2.out; clear K3'; have B3 := Lib.hid (Bl.step B2.out hb); clear hb)
    | (go_at_call 34; refine Calls.mono (K5 _ (HE.out.below B3.out)).out ?_; rintro e w4 ⟨rfl, hb⟩; clear K5; have B4 := Lib.hid (Bl.step B3.out hb); clear hb)
    | (go_at_call 32; refine Calls.mono (K4' _ (HE.out.below B4.out)).out ?_; rintro e w5 ⟨t4, rfl, ht4, hb⟩; clear K4'; obtain rfl : t4 = t2 := bts_inj (ht4.out.trans ht2.out.symm); clear ht4; have B5 := Lib.hid (Bl.step B4.out hb); clear hb)
    | (go_at_call 23; refine Calls.mono (KZ _ (HE.out.below B5.out)).out ?_; rintro e w6 ⟨rfl, hb⟩; have B6 := Lib.hid (Bl.step B5.out hb); clear hb))
  go_ret
  exact ⟨by first | rfl | simp, B6.out⟩
set_option maxHeartbeats 4000000 in
theorem ctb_P1Q2 (n X v e v3 : Int) (s : ByteArray) (l : List UInt8) (w : World) (hE : Env w) (hs : ¬ (100 : Int) < (s.size : Int))
    (K1 : ∀ W, Env W → Calls Tryz.prog 34 #[.string s, .int .u8 X] W (Gives W #[.int .i64 v, .int .i64 0])) (KT : ∀ W, Env W → Calls Tryz.prog 32 #[.int .i64 v, .int .u8 X] W (GivesSE W (bts s))) (K2 : ∀ W, Env W → Calls Tryz.prog 32 #[.int .i64 n, .int .u8 X] W (GivesSE W l)) (K3 : ∀ (t : ByteArray), bts t = l → ∀ W, Env W → Calls Tryz.prog 34 #[.string t, .int .u8 X] W (Gives W #[.int .i64 v3, .int .i64 0])) (K4 : ∀ W, Env W → Calls Tryz.prog 32 #[.int .i64 v3, .int .u8 X] W (GivesSE W l)) (hv : v3 ≤ n) (x1 : ¬ X = 70) (x2 : ¬ X = 76) (x3 : (X == 70) = false) (x4 : (X == 76) = false) :
    Calls Tryz.prog 11 #[.int .i64 n, .int .u8 X, .string s] w fun e w' => e = .returned (.bool true) ∧ Below w.heap.size w w' := by
  have K1' := fun W (hW : Env W) => Lib.hid (K1 W hW)
  have KT' := fun W (hW : Env W) => Lib.hid (KT W hW)
  have K2' := fun W (hW : Env W) => Lib.hid (K2 W hW)
  have K3' := fun t ht W hW => Lib.hid (K3 t ht W hW)
  have K4' := fun W (hW : Env W) => Lib.hid (K4 W hW)
  have KZ := fun W (hW : Env W) => Lib.hid (sane_any W hW)
  have HE := Lib.hid hE
  clear hE K1 KT K2 K3 K4
  have B0 := Lib.hid (Below.refl w.heap.size w)
  go_enter Tryz.func11, Tryz.ntmps11
  go_wp2_with (first
    | (go_at_call 34; refine Calls.mono (K1' _ (HE.out.below B0.out)).out ?_; rintro e w1 ⟨rfl, hb⟩; clear K1'; have B1 := Lib.hid (Bl.step B0.out hb); clear hb)
    | (go_at_call 32; refine Calls.mono (KT' _ (HE.out.below B1.out)).out ?_; rintro e w2 ⟨t, rfl, ht, hb⟩; clear KT'; obtain rfl : t = s := bts_inj ht.out; clear ht; have B2 := Lib.hid (Bl.step B1.out hb); clear hb)
    | (go_at_call 32; refine Calls.mono (K2' _ (HE.out.below B2.out)).out ?_; rintro e w3 ⟨t2, rfl, ht2, hb⟩; clear K2'; have K5 := K3' t2 ht2.out; clear K3'; have B3 := Lib.hid (Bl.step B2.out hb); clear hb)
    | (go_at_call 34; refine Calls.mono (K5 _ (HE.out.below B3.out)).out ?_; rintro e w4 ⟨rfl, hb⟩; clear K5; have B4 := Lib.hid (Bl.step B3.out hb); clear hb)
    | (go_at_call 32; refine Calls.mono (K4' _ (HE.out.below B4.out)).out ?_; rintro e w5 ⟨t4, rfl, ht4, hb⟩; clear K4'; obtain rfl : t4 = t2 := bts_inj (ht4.out.trans ht2.out.symm); clear ht4; have B5 := Lib.hid (Bl.step B4.out hb); clear hb)
    | (go_at_call 23; refine Calls.mono (KZ _ (HE.out.below B5.out)).out ?_; rintro e w6 ⟨rfl, hb⟩; have B6 := Lib.hid (Bl.step B5.out hb); clear hb))
  all_goals
    go_ret
    exact ⟨by first | (simp; done) | (simp; exact .inr ⟨x1, x2⟩), B6.out⟩
theorem ctb_long (n X : Int) (s : ByteArray) (w : World) (hE : Env w) (hs : (100 : Int) < (s.size : Int)) : Calls Tryz.prog 11 #[.int .i64 n, .int .u8 X, .string s] w fun e w' => e = .returned (.bool true) ∧ Below w.heap.size w w' := by
  have KZ := fun W (hW : Env W) => Lib.hid (sane_any W hW)
  have HE := Lib.hid hE
  clear hE
  go_enter Tryz.func11, Tryz.ntmps11
  go_wp2_with (go_at_call 23; refine Calls.mono (KZ _ HE.out).out ?_; rintro e w6 ⟨rfl, hb⟩; have B6 := Lib.hid hb; clear hb)
  go_ret
  exact ⟨by first | rfl | simp, B6.out⟩
theorem ctb (X : Int) (R : List UInt8 → Option Nat) (f : Nat → List UInt8) (n : Int) (s : ByteArray) (w : World) (hE : Env w) (hs : ¬ (100 : Int) < (s.size : Int))
    (KR : ∀ (s : ByteArray) W, s.size ≤ 1000000 → Env W → Calls Tryz.prog 34 #[.string s, .int .u8 X] W (Gives W #[.int .i64 (tmV (R (bts s)) f (bts s)).1, .int .i64 (tmV (R (bts s)) f (bts s)).2]))
    (KT : ∀ (c : Nat) W, c ≤ 86399999999 → Env W → Calls Tryz.prog 32 #[.int .i64 (c : Int), .int .u8 X] W (GivesSE W (f c)))
    (KB : ∀ (c : Int) W, ¬ (0 ≤ c ∧ c ≤ 86399999999) → Calls Tryz.prog 32 #[.int .i64 c, .int .u8 X] W (Gives W #[.string ⟨#[]⟩, .int .i64 1]))
    (hle : ∀ l c, R l = some c → c ≤ 86399999999) (hlen : ∀ c, c ≤ 86399999999 → (f c).length ≤ 1000000)
    (hrd : ∀ c, c ≤ 86399999999 → ∃ c', R (f c) = some c' ∧ f c' = f c ∧ c' ≤ c ∧ (c' = c ∨ (¬ X = 70 ∧ ¬ X = 76))) :
    Calls Tryz.prog 11 #[.int .i64 n, .int .u8 X, .string s] w fun e w' => e = .returned (.bool true) ∧ Below w.heap.size w w' := by
  have hs' : s.size ≤ 1000000 := by omega
  have P : (∃ v e : Int, (∀ W, Env W → Calls Tryz.prog 34 #[.string s, .int .u8 X] W (Gives W #[.int .i64 v, .int .i64 e])) ∧ (e == 0) = false ∧ ¬ e = 0) ∨ (∃ v : Int, (∀ W, Env W → Calls Tryz.prog 34 #[.string s, .int .u8 X] W (Gives W #[.int .i64 v, .int .i64 0])) ∧ (∀ W, Env W → Calls Tryz.prog 32 #[.int .i64 v, .int .u8 X] W (GivesSE W (bts s)))) := by
    cases hR : R (bts s) with
    | none => exact .inl ⟨0, 2, fun W hW => by have h := KR s W hs' hW; rw [hR] at h; exact h, by decide, by decide⟩
    | some c =>
      by_cases hf : bts s = f c
      · refine .inr ⟨(c : Int), fun W hW => ?_, fun W hW => ?_⟩
        · have h := KR s W hs' hW
          rw [hR, show tmV (some c) f (bts s) = ((c : Int), 0) by unfold tmV; exact if_pos hf] at h
          exact h
        · rw [hf]; exact KT c W (hle _ _ hR) hW
      · refine .inl ⟨0, 2, fun W hW => ?_, by decide, by decide⟩
        have h := KR s W hs' hW
        rw [hR, show tmV (some c) f (bts s) = (0, 2) by unfold tmV; exact if_neg hf] at h
        exact h
  by_cases hn : 0 ≤ n ∧ n ≤ 86399999999
  · obtain ⟨c, rfl⟩ : ∃ c : Nat, n = (c : Int) := ⟨n.toNat, by omega⟩
    have hc : c ≤ 86399999999 := by omega
    obtain ⟨c', h1, h2, h3, h4⟩ := hrd c hc
    have K2 := fun W (hW : Env W) => KT c W hc hW
    have K3 : ∀ (t : ByteArray), bts t = f c → ∀ W, Env W → Calls Tryz.prog 34 #[.string t, .int .u8 X] W (Gives W #[.int .i64 (c' : Int), .int .i64 0]) := fun t ht W hW => by
      have h := KR t W (by rw [← bts_length, ht]; exact hlen c hc) hW
      rw [ht, h1, show tmV (some c') f (f c) = ((c' : Int), 0) by unfold tmV; exact if_pos h2.symm] at h
      exact h
    have K4 : ∀ W, Env W → Calls Tryz.prog 32 #[.int .i64 (c' : Int), .int .u8 X] W (GivesSE W (f c)) := fun W hW => by rw [← h2]; exact KT c' W (by omega) hW
    rcases h4 with rfl | ⟨x1, x2⟩
    · rcases P with ⟨v, e, K1, he, he2⟩ | ⟨v, K1, KT'⟩
      · exact ctb_P0Q1 c' X v e 0 s (f c') w hE hs K1 he he2 K2 K3 K4
      · exact ctb_P1Q1 c' X v 0 0 s (f c') w hE hs K1 KT' K2 K3 K4
    · rcases P with ⟨v, e, K1, he, he2⟩ | ⟨v, K1, KT'⟩
      · exact ctb_P0Q2 c X v e c' s (f c) w hE hs K1 he he2 K2 K3 K4 (by omega) x1 x2 (beq_eq_false_iff_ne.2 x1) (beq_eq_false_iff_ne.2 x2)
      · exact ctb_P1Q2 c X v 0 c' s (f c) w hE hs K1 KT' K2 K3 K4 (by omega) x1 x2 (beq_eq_false_iff_ne.2 x1) (beq_eq_false_iff_ne.2 x2)
  · have K2 := fun W (_ : Env W) => KB n W hn
    rcases P with ⟨v, e, K1, he, he2⟩ | ⟨v, K1, KT'⟩
    · exact ctb_P0Q0 n X v e s [] w hE hs K1 he he2 K2
    · exact ctb_P1Q0 n X v 0 s [] w hE hs K1 KT' K2
theorem civ_len (c : Nat) (hc : c ≤ 86399999999) : (civL c).length ≤ 1000000 := by
  have h1 : (padd (1 + (hourF c + 11) % 12) 1).length ≤ 11 := by rw [padd_low]; exact dd11 (by omega)
  have h2 := p2len (n := minF c) (by unfold minF; omega)
  rw [civL_eq]
  simp only [List.length_append, List.length_cons]
  split
  · simp; omega
  · simp; omega
theorem long_len (c : Nat) (hc : c ≤ 86399999999) : (longT c).length ≤ 1000000 := by
  have h := hms_len c hc
  have h2 := dd11 (n := c % 1000000) (by omega)
  unfold longT
  simp only [List.length_append, List.length_cons, List.length_nil, padd_len]
  omega
theorem ctb_C (n : Int) (s : ByteArray) (w : World) (hE : Env w) (hs : ¬ (100 : Int) < (s.size : Int)) : Calls Tryz.prog 11 #[.int .i64 n, .int .u8 67, .string s] w fun e w' => e = .returned (.bool true) ∧ Below w.heap.size w w' :=
  ctb 67 (civR) (fun c => civL c) n s w hE hs (fun s W h hW => ReadTime_C_any s W h hW) (fun c W h hW => Time_C c W h hW) (fun c W h => Time_bad c 67 W h) (fun _ _ h => civR_le h) (fun c hc => civ_len c hc) (fun c hc => ⟨c / 60000000 * 60000000, rC c hc, fC c, Nat.div_mul_le_self _ _, .inr ⟨by decide, by decide⟩⟩)
theorem ctb_F (n : Int) (s : ByteArray) (w : World) (hE : Env w) (hs : ¬ (100 : Int) < (s.size : Int)) : Calls Tryz.prog 11 #[.int .i64 n, .int .u8 70, .string s] w fun e w' => e = .returned (.bool true) ∧ Below w.heap.size w w' :=
  ctb 70 (cntR [1]) (fun c => Lib.decDigits (c / 1)) n s w hE hs (fun s W h hW => ReadTime_F_any s W h hW) (fun c W h hW => Time_F c W h hW) (fun c W h => Time_bad c 70 W h) (fun _ _ h => cntR_le h) (fun c hc => by have := dd11 (n := c / 1) (by omega); omega) (fun c hc => ⟨c, rF c hc, rfl, Nat.le_refl _, .inl rfl⟩)
theorem ctb_H (n : Int) (s : ByteArray) (w : World) (hE : Env w) (hs : ¬ (100 : Int) < (s.size : Int)) : Calls Tryz.prog 11 #[.int .i64 n, .int .u8 72, .string s] w fun e w' => e = .returned (.bool true) ∧ Below w.heap.size w w' :=
  ctb 72 (cntR [3600000000]) (fun c => Lib.decDigits (c / 3600000000)) n s w hE hs (fun s W h hW => ReadTime_H_any s W h hW) (fun c W h hW => Time_H c W h hW) (fun c W h => Time_bad c 72 W h) (fun _ _ h => cntR_le h) (fun c hc => by have := dd11 (n := c / 3600000000) (by omega); omega) (fun c hc => ⟨c / 3600000000 * 3600000000, rH c hc, fU c 3600000000 (by decide), Nat.div_mul_le_self _ _, .inr ⟨by decide, by decide⟩⟩)
theorem ctb_L (n : Int) (s : ByteArray) (w : World) (hE : Env w) (hs : ¬ (100 : Int) < (s.size : Int)) : Calls Tryz.prog 11 #[.int .i64 n, .int .u8 76, .string s] w fun e w' => e = .returned (.bool true) ∧ Below w.heap.size w w' :=
  ctb 76 (cntR [3600000000, 60000000, 1000000, 1]) (fun c => longT c) n s w hE hs (fun s W h hW => ReadTime_L_any s W h hW) (fun c W h hW => Time_L c W h hW) (fun c W h => Time_bad c 76 W h) (fun _ _ h => cntR_le h) (fun c hc => long_len c hc) (fun c hc => ⟨c, rL c hc, rfl, Nat.le_refl _, .inl rfl⟩)
theorem ctb_M (n : Int) (s : ByteArray) (w : World) (hE : Env w) (hs : ¬ (100 : Int) < (s.size : Int)) : Calls Tryz.prog 11 #[.int .i64 n, .int .u8 77, .string s] w fun e w' => e = .returned (.bool true) ∧ Below w.heap.size w w' :=
  ctb 77 (cntR [60000000]) (fun c => Lib.decDigits (c / 60000000)) n s w hE hs (fun s W h hW => ReadTime_M_any s W h hW) (fun c W h hW => Time_M c W h hW) (fun c W h => Time_bad c 77 W h) (fun _ _ h => cntR_le h) (fun c hc => by have := dd11 (n := c / 60000000) (by omega); omega) (fun c hc => ⟨c / 60000000 * 60000000, rM c hc, fU c 60000000 (by decide), Nat.div_mul_le_self _ _, .inr ⟨by decide, by decide⟩⟩)
theorem ctb_N (n : Int) (s : ByteArray) (w : World) (hE : Env w) (hs : ¬ (100 : Int) < (s.size : Int)) : Calls Tryz.prog 11 #[.int .i64 n, .int .u8 78, .string s] w fun e w' => e = .returned (.bool true) ∧ Below w.heap.size w w' :=
  ctb 78 (cntR [3600000000, 60000000, 1000000]) (fun c => hmsL c) n s w hE hs (fun s W h hW => ReadTime_N_any s W h hW) (fun c W h hW => Time_N c W h hW) (fun c W h => Time_bad c 78 W h) (fun _ _ h => cntR_le h) (fun c hc => by have := hms_len c hc; omega) (fun c hc => ⟨c / 1000000 * 1000000, rN c hc, fN c, Nat.div_mul_le_self _ _, .inr ⟨by decide, by decide⟩⟩)
theorem ctb_S (n : Int) (s : ByteArray) (w : World) (hE : Env w) (hs : ¬ (100 : Int) < (s.size : Int)) : Calls Tryz.prog 11 #[.int .i64 n, .int .u8 83, .string s] w fun e w' => e = .returned (.bool true) ∧ Below w.heap.size w w' :=
  ctb 83 (cntR [1000000]) (fun c => Lib.decDigits (c / 1000000)) n s w hE hs (fun s W h hW => ReadTime_S_any s W h hW) (fun c W h hW => Time_S c W h hW) (fun c W h => Time_bad c 83 W h) (fun _ _ h => cntR_le h) (fun c hc => by have := dd11 (n := c / 1000000) (by omega); omega) (fun c hc => ⟨c / 1000000 * 1000000, rS c hc, fU c 1000000 (by decide), Nat.div_mul_le_self _ _, .inr ⟨by decide, by decide⟩⟩)
theorem opt_none (x : UInt8) (h : ¬ (x = 67 ∨ x = 70 ∨ x = 72 ∨ x = 76 ∨ x = 77 ∨ x = 78 ∨ x = 83)) : (∀ s, (timRL s).lookup x = none) ∧ ∀ c, (cloFL c).lookup x = none := by
  simp only [not_or] at h
  obtain ⟨h1, h2, h3, h4, h5, h6, h7⟩ := h
  refine ⟨fun s => ?_, fun c => ?_⟩
  · unfold timRL
    simp [List.lookup_cons, beq_eq_false_iff_ne.2 h1, beq_eq_false_iff_ne.2 h2, beq_eq_false_iff_ne.2 h3, beq_eq_false_iff_ne.2 h4, beq_eq_false_iff_ne.2 h5, beq_eq_false_iff_ne.2 h6, beq_eq_false_iff_ne.2 h7]
  · unfold cloFL
    simp [List.lookup_cons, beq_eq_false_iff_ne.2 h1, beq_eq_false_iff_ne.2 h2, beq_eq_false_iff_ne.2 h3, beq_eq_false_iff_ne.2 h4, beq_eq_false_iff_ne.2 h5, beq_eq_false_iff_ne.2 h6, beq_eq_false_iff_ne.2 h7]
theorem CalTimesBack_any (n : Int) (x : UInt8) (s : ByteArray) (w : World) (hE : Env w) : Calls Tryz.prog 11 #[.int .i64 n, .int .u8 (x.toNat : Int), .string s] w fun e w' => e = .returned (.bool true) ∧ Below w.heap.size w w' := by
  by_cases hs : (100 : Int) < (s.size : Int)
  · exact ctb_long n _ s w hE hs
  · by_cases hx : x = 67 ∨ x = 70 ∨ x = 72 ∨ x = 76 ∨ x = 77 ∨ x = 78 ∨ x = 83
    · rcases hx with rfl | rfl | rfl | rfl | rfl | rfl | rfl
      · exact ctb_C n s w hE hs
      · exact ctb_F n s w hE hs
      · exact ctb_H n s w hE hs
      · exact ctb_L n s w hE hs
      · exact ctb_M n s w hE hs
      · exact ctb_N n s w hE hs
      · exact ctb_S n s w hE hs
    · obtain ⟨q1, q2⟩ := opt_none x hx
      refine ctb_P0Q0 n _ 0 1 s [] w hE hs (fun W _ => ReadTime_none s x W (q1 s)) (by decide) (by decide) (fun W _ => ?_)
      by_cases hn : 0 ≤ n ∧ n ≤ 86399999999
      · obtain ⟨c, rfl⟩ : ∃ c : Nat, n = (c : Int) := ⟨n.toNat, by omega⟩
        exact Time_none c x W (by omega) (q2 c)
      · exact Time_bad n _ W hn
end Go.Proofs.YtmjifmlibgpjiaaGreatDoor
