/- The other program's Verify. -/
import Derived.Test.YtoilgjlbpimcpaaDoorZq
import Derived.Test.YtoilgjlbpimcpaaDoorTl
namespace Go.Proofs.YtoilgjlbpimcpaaDoor
open Go.RowKit Go.Shelf Tx
set_option linter.unusedVariables false
set_option maxRecDepth 100000

namespace Tx
/-- The first place from one on whose byte is in the set, or is not. -/
def verF (l m : List UInt8) (b : Bool) : Nat → Nat → Int
  | 0, _ => 0
  | k + 1, i => match l[i]? with
    | none => 0
    | some c => if decide (c ∈ m) == b then (i : Int) + 1 else verF l m b k (i + 1)
def verifyR (l m : List UInt8) (b : Bool) (n : Int) : Int × Int := guardN (validL l && validL m && decide (1 ≤ n)) (verF l m b (l.length - (n - 1).toNat) (n - 1).toNat, 0)
theorem verF_some {l m : List UInt8} {b : Bool} {k i : Nat} {c : UInt8} (h : l[i]? = some c) : verF l m b (k + 1) i = if decide (c ∈ m) == b then (i : Int) + 1 else verF l m b k (i + 1) := by rw [verF, h]
end Tx
set_option maxHeartbeats 4000000 in
theorem RVerify_any (s u : ByteArray) (b : Bool) (n : Int) (w : World) (hss : s.size ≤ maxLen) (hsu : u.size ≤ maxLen) (hn : n ≤ 9223372036854775807) :
    Calls Tryd.prog 55 #[.string s, .string u, .bool b, .int .i64 n] w (GivesM w (verifyR (bts s) (bts u) b n)) := by
  have KVs := fun (W : World) => Lib.hid (RValid_any s W hss)
  have KVu := fun (W : World) => Lib.hid (RValid_any u W hsu)
  have KAn := fun (W : World) => Lib.hid (Rwhole0_any n 1 W)
  cases hv0 : validL (bts s) with
  | false =>
    rw [hv0] at KVs
    have HR := Lib.hid (show verifyR (bts s) (bts u) b n = (0, 1) by unfold verifyR guardN; simp only [hv0, Bool.and_false, Bool.false_and, Bool.true_and, Bool.and_true]; rfl)
    clear hv0
    go_enter Tryd.func55, Tryd.ntmps55
    go_wp2_with (first
      | (go_at_call 32; (with_reducible refine Calls.mono (KVs _).out ?_); rintro e w1 ⟨rfl, rfl⟩))
    refine bodyPost_ret (v := .agg #[.int .i64 0, .int .i64 1]) (by simp [results, Tryd.results55, go_sem]) rfl ?_
    exact givesM HR.out ((Below.refl _ w).alloc (Nat.le_refl _) _)
  | true =>
    rw [hv0] at KVs
    cases hv1 : validL (bts u) with
    | false =>
      rw [hv1] at KVu
      have HR := Lib.hid (show verifyR (bts s) (bts u) b n = (0, 1) by unfold verifyR guardN; simp only [hv0, hv1, Bool.and_false, Bool.false_and, Bool.true_and, Bool.and_true]; rfl)
      clear hv0 hv1
      go_enter Tryd.func55, Tryd.ntmps55
      go_wp2_with (first
        | (go_at_call 32; (with_reducible refine Calls.mono (KVs _).out ?_); rintro e w1 ⟨rfl, rfl⟩)
        | (go_at_call 32; (with_reducible refine Calls.mono (KVu _).out ?_); rintro e w1 ⟨rfl, rfl⟩))
      refine bodyPost_ret (v := .agg #[.int .i64 0, .int .i64 1]) (by simp [results, Tryd.results55, go_sem]) rfl ?_
      exact givesM HR.out ((Below.refl _ w).alloc (Nat.le_refl _) _)
    | true =>
      rw [hv1] at KVu
      cases hv2 : decide (1 ≤ n) with
      | false =>
        rw [hv2] at KAn
        have HR := Lib.hid (show verifyR (bts s) (bts u) b n = (0, 1) by unfold verifyR guardN; simp only [hv0, hv1, hv2, Bool.and_false, Bool.false_and, Bool.true_and, Bool.and_true]; rfl)
        clear hv0 hv1 hv2
        go_enter Tryd.func55, Tryd.ntmps55
        go_wp2_with (first
          | (go_at_call 32; (with_reducible refine Calls.mono (KVs _).out ?_); rintro e w1 ⟨rfl, rfl⟩)
          | (go_at_call 32; (with_reducible refine Calls.mono (KVu _).out ?_); rintro e w1 ⟨rfl, rfl⟩)
          | (go_at_call 106; (with_reducible refine Calls.mono (KAn _).out ?_); rintro e w1 ⟨rfl, rfl⟩))
        refine bodyPost_ret (v := .agg #[.int .i64 0, .int .i64 1]) (by simp [results, Tryd.results55, go_sem]) rfl ?_
        exact givesM HR.out ((Below.refl _ w).alloc (Nat.le_refl _) _)
      | true =>
        rw [hv2] at KAn
        have hlen := valid_le hv0
        have hlen2 := valid_le hv1
        have hn1 := of_decide_eq_true hv2
        obtain ⟨a, ha⟩ : ∃ a : Nat, n = (a : Int) + 1 := ⟨(n - 1).toNat, by omega⟩
        subst ha
        have HR := Lib.hid (show verifyR (bts s) (bts u) b ((a : Int) + 1) = (verF (bts s) (bts u) b (s.size - a) a, 0) by unfold verifyR guardN; rw [hv0, hv1, hv2, show (a : Int) + 1 - 1 = (a : Int) by omega, Int.toNat_natCast, bts_length]; rfl)
        have hwa : (a : Int) + 1 - 1 = (a : Int) := by omega
        have hwa2 : IntKind.i64.wrap (a : Int) = (a : Int) := IntWalk.i64_in _ (by omega)
        have hwa3 : IntKind.i64.wrap ((a : Int) + 1 - 1) = (a : Int) := by rw [hwa]; exact hwa2
        clear hv0 hv1 hv2 hn hn1
        by_cases hbig : s.size ≤ a
        · have HZ := Lib.hid (HR.out.trans (by rw [show s.size - a = 0 by omega]; rfl : (verF (bts s) (bts u) b (s.size - a) a, (0 : Int)) = (0, 0)))
          have hbi : ¬ (a : Int) < (s.size : Int) := by omega
          go_enter Tryd.func55, Tryd.ntmps55
          go_wp2_with (first
            | (go_at_call 32; (with_reducible refine Calls.mono (KVs _).out ?_); rintro e w1 ⟨rfl, rfl⟩)
            | (go_at_call 32; (with_reducible refine Calls.mono (KVu _).out ?_); rintro e w1 ⟨rfl, rfl⟩)
            | (go_at_call 106; (with_reducible refine Calls.mono (KAn _).out ?_); rintro e w1 ⟨rfl, rfl⟩))
          go_loop [9] (fun x => x = .int .i64 a) (fun x => 0)
          case atStart => rfl
          case round =>
            subst hrel
            go_wp2
            refine bodyPost_ret (v := .agg #[.int .i64 0, .int .i64 0]) (by simp [results, Tryd.results55, go_sem]) rfl ?_
            exact givesM HZ.out ((Below.refl _ w).alloc (Nat.le_refl _) _)
        · go_enter Tryd.func55, Tryd.ntmps55
          go_wp2_with (first
            | (go_at_call 32; (with_reducible refine Calls.mono (KVs _).out ?_); rintro e w1 ⟨rfl, rfl⟩)
            | (go_at_call 32; (with_reducible refine Calls.mono (KVu _).out ?_); rintro e w1 ⟨rfl, rfl⟩)
            | (go_at_call 106; (with_reducible refine Calls.mono (KAn _).out ?_); rintro e w1 ⟨rfl, rfl⟩))
          go_loop [9] (fun x => ∃ i : Nat, x = .int .i64 i ∧ a ≤ i ∧ i ≤ s.size ∧ Hid (verF (bts s) (bts u) b (s.size - a) a = verF (bts s) (bts u) b (s.size - i) i)) (fun x => s.size - (intOf x).toNat)
          case atStart => exact ⟨a, rfl, Nat.le_refl _, by omega, Lib.hid rfl⟩
          case round =>
            obtain ⟨i, rfl, hai, hi, hq⟩ := hrel
            by_cases hlt : i < s.size
            · have HG := Lib.hid (bts_get s hlt)
              have KH0 := fun W => Rhas_any u s[i] W (by omega)
              have HST := Lib.hid (verF_some (m := bts u) (b := b) (k := s.size - (i + 1)) HG.out)
              have hk : s.size - i = s.size - (i + 1) + 1 := by omega
              have HK := Lib.hid hk
              have hwi : IntKind.i64.wrap ((i : Int) + 1) = (i : Int) + 1 := IntWalk.i64_in _ (by omega)
              clear hk
              obtain ⟨h, hh⟩ : ∃ h, h = decide (s[i] ∈ bts u) := ⟨_, rfl⟩
              rw [← hh] at KH0
              have HH := Lib.hid hh
              have KH := fun W => Lib.hid (KH0 W)
              clear KH0 hh
              by_cases he : h = b
              · have HZ := Lib.hid (HR.out.trans (by rw [hq.out, HK.out, HST.out, ← HH.out, he]; simp : (verF (bts s) (bts u) b (s.size - a) a, (0 : Int)) = ((i : Int) + 1, 0)))
                subst he
                clear HH
                go_wp2_with (first
                  | (go_at_call 129; (with_reducible refine Calls.mono (KH _).out ?_); rintro e w1 ⟨rfl, rfl⟩))
                refine bodyPost_ret (v := .agg #[.int .i64 ((i : Int) + 1), .int .i64 0]) (by simp [results, Tryd.results55, go_sem]) rfl ?_
                exact givesM HZ.out ((Below.refl _ w).alloc (Nat.le_refl _) _)
              · have HN := Lib.hid (show verF (bts s) (bts u) b (s.size - a) a = verF (bts s) (bts u) b (s.size - (i + 1)) (i + 1) by
                  rw [hq.out, HK.out, HST.out, ← HH.out, if_neg (by simpa using he)])
                have hef : (h == b) = false := by simpa using he
                clear HH
                go_wp2_with (first
                  | (go_at_call 129; (with_reducible refine Calls.mono (KH _).out ?_); rintro e w1 ⟨rfl, rfl⟩))
                go_round
                case rel => exact ⟨i + 1, by go_num, by omega, by omega, HN⟩
                case measure => simp [intOf]; omega
            · obtain rfl : i = s.size := by omega
              have HZ := Lib.hid (HR.out.trans (by rw [hq.out, Nat.sub_self]; rfl : (verF (bts s) (bts u) b (s.size - a) a, (0 : Int)) = (0, 0)))
              go_wp2
              refine bodyPost_ret (v := .agg #[.int .i64 0, .int .i64 0]) (by simp [results, Tryd.results55, go_sem]) rfl ?_
              exact givesM HZ.out ((Below.refl _ w).alloc (Nat.le_refl _) _)
end Go.Proofs.YtoilgjlbpimcpaaDoor
