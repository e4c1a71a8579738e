/- Occurrences that do not overlap; the other program's Count. -/
import Derived.Test.YtoilgjlbpimcpaaDoorZr
namespace Go.Proofs.YtoilgjlbpimcpaaDoor
open Go.RowKit Go.Shelf Tx
set_option linter.unusedVariables false
set_option maxRecDepth 100000

namespace Tx
/-- The occurrences from this one on. -/
def occZ (p l : List UInt8) : Nat → Int → List Int
  | 0, _ => []
  | k + 1, z => if z < 0 then [] else z :: occZ p l k (fromB p l (z + p.length))
def occs (p l : List UInt8) : List Int := occZ p l (l.length + 1) (fromB p l 0)
theorem from_bd {p l : List UInt8} : ∀ (k : Nat) (a : Nat), (l.length : Int) - p.length + 1 - a = k → (fromB p l (a : Int) = -1 ∨ ((a : Int) ≤ fromB p l (a : Int) ∧ fromB p l (a : Int) + p.length ≤ l.length ∧ p ≠ []))
  | 0, a, h => .inl (from_stop (by omega))
  | k + 1, a, h => by
    by_cases hp : p = []
    · exact .inl (from_nil hp)
    · rw [from_step hp (by omega)]
      by_cases hb : atB l p a = true
      · rw [if_pos hb]; exact .inr ⟨Int.le_refl _, by omega, hp⟩
      · rw [if_neg hb]
        rcases from_bd (p := p) (l := l) k (a + 1) (by omega) with e | ⟨h1, h2, h3⟩
        · exact .inl e
        · exact .inr ⟨by omega, h2, h3⟩
theorem from_bds (p l : List UInt8) (a : Nat) : fromB p l (a : Int) = -1 ∨ ((a : Int) ≤ fromB p l (a : Int) ∧ fromB p l (a : Int) + p.length ≤ l.length ∧ p ≠ []) := by
  by_cases h : (l.length : Int) - p.length + 1 - a < 0
  · exact .inl (from_stop (by omega))
  · exact from_bd ((l.length : Int) - p.length + 1 - a).toNat a (by omega)
def countR (p l : List UInt8) : Int × Int := guardN (validL p && validL l) (((occs p l).length : Int), 0)
theorem occZ_step {p l : List UInt8} {k : Nat} {z : Int} (h : ¬ z < 0) : occZ p l (k + 1) z = z :: occZ p l k (fromB p l (z + p.length)) := by rw [occZ, if_neg h]
theorem pos_len {p : List UInt8} (h : p ≠ []) : 0 < p.length := by cases p with | nil => exact absurd rfl h | cons _ _ => simp
end Tx
set_option maxHeartbeats 4000000 in
theorem RCount_any (p s : ByteArray) (w : World) (hsp : p.size ≤ maxLen) (hss : s.size ≤ maxLen) :
    Calls Tryd.prog 48 #[.string p, .string s] w (GivesM w (countR (bts p) (bts s))) := by
  have KVp := fun (W : World) => Lib.hid (RValid_any p W hsp)
  have KVs := fun (W : World) => Lib.hid (RValid_any s W hss)
  cases hv0 : validL (bts p) with
  | false =>
    rw [hv0] at KVp
    have HR := Lib.hid (show countR (bts p) (bts s) = (0, 1) by unfold countR guardN; simp only [hv0, Bool.and_false, Bool.false_and, Bool.true_and, Bool.and_true]; rfl)
    clear hv0
    go_enter Tryd.func48, Tryd.ntmps48
    go_wp2_with (first
      | (go_at_call 32; (with_reducible refine Calls.mono (KVp _).out ?_); rintro e w1 ⟨rfl, rfl⟩))
    refine bodyPost_ret (v := .agg #[.int .i64 0, .int .i64 1]) (by simp [results, Tryd.results48, go_sem]) rfl ?_
    exact givesM HR.out ((Below.refl _ w).alloc (Nat.le_refl _) _)
  | true =>
    rw [hv0] at KVp
    cases hv1 : validL (bts s) with
    | false =>
      rw [hv1] at KVs
      have HR := Lib.hid (show countR (bts p) (bts s) = (0, 1) by unfold countR guardN; simp only [hv0, hv1, Bool.and_false, Bool.false_and, Bool.true_and, Bool.and_true]; rfl)
      clear hv0 hv1
      go_enter Tryd.func48, Tryd.ntmps48
      go_wp2_with (first
        | (go_at_call 32; (with_reducible refine Calls.mono (KVp _).out ?_); rintro e w1 ⟨rfl, rfl⟩)
        | (go_at_call 32; (with_reducible refine Calls.mono (KVs _).out ?_); rintro e w1 ⟨rfl, rfl⟩))
      refine bodyPost_ret (v := .agg #[.int .i64 0, .int .i64 1]) (by simp [results, Tryd.results48, go_sem]) rfl ?_
      exact givesM HR.out ((Below.refl _ w).alloc (Nat.le_refl _) _)
    | true =>
      rw [hv1] at KVs
      have hlen := valid_le hv0
      have hlen2 := valid_le hv1
      have HR := Lib.hid (show countR (bts p) (bts s) = (((occs (bts p) (bts s)).length : Int), 0) by unfold countR guardN; rw [hv0, hv1]; rfl)
      have K00 := fun W => Rfind_any p s 0 W (by omega) (by omega) (by omega)
      have hb0 := from_bds (bts p) (bts s) 0
      obtain ⟨z0, hz0⟩ : ∃ z0, z0 = fromB (bts p) (bts s) ((0 : Nat) : Int) := ⟨_, rfl⟩
      rw [← hz0] at K00 hb0
      rw [bts_length, bts_length] at hb0
      have HOC := Lib.hid (show occs (bts p) (bts s) = [] ++ occZ (bts p) (bts s) (s.size + 1) z0 by rw [hz0]; unfold occs; rw [bts_length]; rfl)
      have K0 := fun W => Lib.hid (show Calls Tryd.prog 123 #[.string p, .string s, .int .i64 0] W fun e w' => e = .returned (.int .i64 z0) ∧ W = w' from K00 W)
      have HB0 := Lib.hid hb0
      clear hv0 hv1 hz0 K00 hb0
      go_enter Tryd.func48, Tryd.ntmps48
      go_wp2_with (first
        | (go_at_call 32; (with_reducible refine Calls.mono (KVp _).out ?_); rintro e w1 ⟨rfl, rfl⟩)
        | (go_at_call 32; (with_reducible refine Calls.mono (KVs _).out ?_); rintro e w1 ⟨rfl, rfl⟩)
        | (go_at_call 123; (with_reducible refine Calls.mono (K0 _).out ?_); rintro e w1 ⟨rfl, rfl⟩))
      go_loop [5, 6] (fun n x => ∃ (k : Nat) (z : Int) (L : List Int), n = .int .i64 (L.length : Int) ∧ x = .int .i64 z ∧ L.length + k = s.size + 1 ∧ Hid (occs (bts p) (bts s) = L ++ occZ (bts p) (bts s) k z) ∧ (z = -1 ∨ (0 ≤ z ∧ z + p.size ≤ s.size ∧ 0 < p.size ∧ (s.size : Int) + 1 ≤ z + k))) (fun n _ => s.size + 2 - (intOf n).toNat)
      case atStart => exact ⟨s.size + 1, z0, [], rfl, rfl, by simp, HOC, by
          rcases HB0.out with h | ⟨h1, h2, h3⟩
          · exact .inl h
          · exact .inr ⟨by omega, h2, by have := pos_len h3; rwa [bts_length] at this, by omega⟩⟩
      case round =>
        obtain ⟨k, z, L, rfl, rfl, hk, hoc, hz⟩ := hrel
        by_cases hz0 : (0 : Int) ≤ z
        · rcases hz with rfl | ⟨_, h2, h3, h4⟩
          · omega
          obtain ⟨a, rfl⟩ := Int.eq_ofNat_of_zero_le hz0
          obtain ⟨k, rfl⟩ : ∃ k', k = k' + 1 := ⟨k - 1, by omega⟩
          have K10 := fun W => Rfind_any p s (a + p.size) W (by omega) (by omega) (by omega)
          have hb1 := from_bds (bts p) (bts s) (a + p.size)
          obtain ⟨z1, hz1⟩ : ∃ z1, z1 = fromB (bts p) (bts s) ((a + p.size : Nat) : Int) := ⟨_, rfl⟩
          rw [← hz1] at K10 hb1
          rw [bts_length, bts_length] at hb1
          have HOC2 := Lib.hid (show occs (bts p) (bts s) = (L ++ [(a : Int)]) ++ occZ (bts p) (bts s) k z1 by
            rw [hoc.out, hz1, occZ_step (by omega), bts_length, Int.natCast_add]
            simp)
          have K1 := fun W => Lib.hid (show Calls Tryd.prog 123 #[.string p, .string s, .int .i64 ((a : Int) + (p.size : Int))] W fun e w' => e = .returned (.int .i64 z1) ∧ W = w' by have := K10 W; rw [Int.natCast_add] at this; exact this)
          have hwn : IntKind.i64.wrap ((L.length : Int) + 1) = (L.length : Int) + 1 := IntWalk.i64_in _ (by omega)
          have hwa : IntKind.i64.wrap ((a : Int) + (p.size : Int)) = (a : Int) + (p.size : Int) := IntWalk.i64_in _ (by omega)
          have HB1 := Lib.hid hb1
          clear hz1 K10 hb1
          go_wp2_with (go_at_call 123; (with_reducible refine Calls.mono (K1 _).out ?_); rintro e w1 ⟨rfl, rfl⟩)
          go_round
          case rel => exact ⟨k, z1, L ++ [(a : Int)], by simp, rfl, by simp; omega, HOC2, by
              rcases HB1.out with h | ⟨h5, h6, h7⟩
              · exact .inl h
              · exact .inr ⟨by omega, h6, h3, by omega⟩⟩
          case measure => simp [intOf]; omega
        · have HE := Lib.hid (show (occs (bts p) (bts s)).length = L.length by
            rw [hoc.out]
            have : occZ (bts p) (bts s) k z = [] := by
              cases k with
              | zero => rfl
              | succ k => unfold occZ; rw [if_pos (by omega)]
            rw [this, List.append_nil])
          go_wp2
          refine bodyPost_ret (v := .agg #[.int .i64 (L.length : Int), .int .i64 0]) (by simp [results, Tryd.results48, go_sem]) rfl ?_
          exact givesM (HR.out.trans (by rw [HE.out])) ((Below.refl _ w).alloc (Nat.le_refl _) _)
end Go.Proofs.YtoilgjlbpimcpaaDoor
