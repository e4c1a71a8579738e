/- The other program's find, Pos, LastPos. -/
import Derived.Test.YtoilgjlbpimcpaaDoorZq
import Derived.Test.YtoilgjlbpimcpaaDoorTl
namespace Go.Proofs.YtoilgjlbpimcpaaDoor
open Go.RowKit Go.Shelf Tx
set_option linter.unusedVariables false
set_option maxRecDepth 100000

namespace Tx
theorem occ_at {p l : List UInt8} {i : Nat} (h : i + p.length ≤ l.length) : occB p l (i : Int) = atB l p i := by
  unfold occB atB
  rw [Int.toNat_natCast, decide_eq_true h, Bool.true_and]
  exact Bool.eq_iff_iff.2 (by simp)
theorem run_up (a : Nat) (k : Nat) : run (a : Int) 1 (k + 1) = (a : Int) :: run ((a : Int) + 1) 1 k := by
  unfold run
  rw [List.range_succ_eq_map, List.map_cons, List.map_map]
  have e : (List.range k).map ((fun (i : Nat) => (a : Int) + 1 * (i : Int)) ∘ Nat.succ) = (List.range k).map (fun (i : Nat) => (a : Int) + 1 + 1 * (i : Int)) := by
    apply List.map_congr_left
    intro i _
    show (a : Int) + 1 * ((i + 1 : Nat) : Int) = (a : Int) + 1 + 1 * (i : Int)
    omega
  rw [e]
  simp
/-- From a place on. -/
def fromB (p l : List UInt8) (i : Int) : Int := firstIn p l (run i 1 ((l.length : Int) - p.length + 1 - i).toNat)
theorem from_stop {p l : List UInt8} {i : Int} (h : (l.length : Int) - p.length < i) : fromB p l i = -1 := by
  unfold fromB
  rw [show ((l.length : Int) - p.length + 1 - i).toNat = 0 by omega]
  unfold firstIn run
  split <;> rfl
theorem from_nil {p l : List UInt8} {i : Int} (h : p = []) : fromB p l i = -1 := by unfold fromB firstIn; rw [if_pos h]
theorem from_step {p l : List UInt8} {i : Nat} (hp : p ≠ []) (h : (i : Int) ≤ (l.length : Int) - p.length) : fromB p l (i : Int) = if atB l p i then (i : Int) else fromB p l ((i + 1 : Nat) : Int) := by
  unfold fromB firstIn
  rw [if_neg hp, if_neg hp, show ((l.length : Int) - p.length + 1 - (i : Int)).toNat = ((l.length : Int) - p.length + 1 - ((i + 1 : Nat) : Int)).toNat + 1 by omega, run_up, List.find?_cons, occ_at (by omega)]
  by_cases hb : atB l p i = true
  · rw [hb]; rfl
  · rw [Bool.not_eq_true] at hb
    rw [hb]
    simp only [Bool.false_eq_true, if_false]
    rw [show (i : Int) + 1 = ((i + 1 : Nat) : Int) by omega]
end Tx
set_option maxHeartbeats 2000000 in
theorem Rfind_any (p s : ByteArray) (a : Nat) (w : World) (hp : p.size ≤ 1000000) (hs : s.size ≤ 1000000) (ha : a ≤ 9223372036854775806) :
    Calls Tryd.prog 123 #[.string p, .string s, .int .i64 a] w fun e w' => e = .returned (.int .i64 (fromB (bts p) (bts s) (a : Int))) ∧ w = w' := by
  have hwd : IntKind.i64.wrap ((s.size : Int) - (p.size : Int)) = (s.size : Int) - (p.size : Int) := IntWalk.i64_in _ (by omega)
  by_cases hp0 : p.size = 0
  · have hpn : bts p = [] := List.eq_nil_of_length_eq_zero (by rw [bts_length]; exact hp0)
    have HR := Lib.hid (from_nil (l := bts s) (i := (a : Int)) hpn)
    have hpi : (p.size : Int) = 0 := by omega
    have hpb : ¬ (0 : Int) < (p.size : Int) := by omega
    clear hpn hp0 ha
    by_cases hlt : (a : Int) ≤ (s.size : Int)
    · go_enter Tryd.func123, Tryd.ntmps123
      go_wp2
      go_loop [7] (fun i => i = .int .i64 a) (fun i => 0)
      case atStart => rfl
      case round =>
        subst hrel
        go_wp2
        go_ret
        exact ⟨ret_i HR.out.symm, rfl⟩
    · go_enter Tryd.func123, Tryd.ntmps123
      go_wp2
      go_loop [7] (fun i => i = .int .i64 a) (fun i => 0)
      case atStart => rfl
      case round =>
        subst hrel
        go_wp2
        go_ret
        exact ⟨ret_i HR.out.symm, rfl⟩
  · have HPN := Lib.hid (show bts p ≠ [] by intro e; have := congrArg List.length e; rw [bts_length] at this; exact hp0 this)
    have hpb : (0 : Int) < (p.size : Int) := by omega
    clear hp0
    by_cases hbig : (s.size : Int) - (p.size : Int) < (a : Int)
    · have HR := Lib.hid (from_stop (p := bts p) (l := bts s) (i := (a : Int)) (by rw [bts_length, bts_length]; exact hbig))
      have hb2 : ¬ (a : Int) ≤ (s.size : Int) - (p.size : Int) := by omega
      clear ha
      go_enter Tryd.func123, Tryd.ntmps123
      go_wp2
      go_loop [7] (fun i => i = .int .i64 a) (fun i => 0)
      case atStart => rfl
      case round =>
        subst hrel
        go_wp2
        go_ret
        exact ⟨ret_i HR.out.symm, rfl⟩
    · clear ha
      go_enter Tryd.func123, Tryd.ntmps123
      go_wp2
      go_loop [7] (fun x => ∃ i : Nat, x = .int .i64 i ∧ i ≤ s.size + 1 ∧ Hid (fromB (bts p) (bts s) (a : Int) = fromB (bts p) (bts s) (i : Int))) (fun x => s.size + 2 - (intOf x).toNat)
      case atStart => exact ⟨a, rfl, by omega, Lib.hid rfl⟩
      case round =>
        obtain ⟨i, rfl, hi, hq⟩ := hrel
        by_cases hlt : (i : Int) ≤ (s.size : Int) - (p.size : Int)
        · have HST := Lib.hid (from_step (p := bts p) (l := bts s) (i := i) HPN.out (by rw [bts_length, bts_length]; exact hlt))
          have KA := fun W => Lib.hid (Rat_any p s i W hp hs (by omega))
          cases hb : atB (bts s) (bts p) i with
          | true =>
            rw [hb] at KA
            have HR := Lib.hid (show fromB (bts p) (bts s) (a : Int) = (i : Int) by rw [hq.out, HST.out, hb]; rfl)
            clear hb
            go_wp2_with (go_at_call 124; (with_reducible refine Calls.mono (KA _).out ?_); rintro e w1 ⟨rfl, rfl⟩)
            go_ret
            exact ⟨ret_i HR.out.symm, rfl⟩
          | false =>
            rw [hb] at KA
            have HN := Lib.hid (show fromB (bts p) (bts s) (a : Int) = fromB (bts p) (bts s) ((i + 1 : Nat) : Int) by rw [hq.out, HST.out, hb]; rfl)
            clear hb
            go_wp2_with (go_at_call 124; (with_reducible refine Calls.mono (KA _).out ?_); rintro e w1 ⟨rfl, rfl⟩)
            go_round
            case rel => exact ⟨i + 1, by go_num, by omega, HN⟩
            case measure => simp [intOf]; omega
        · have HR := Lib.hid (show fromB (bts p) (bts s) (a : Int) = -1 by rw [hq.out, from_stop (by rw [bts_length, bts_length]; omega)])
          go_wp2
          go_ret
          exact ⟨ret_i HR.out.symm, rfl⟩
set_option maxHeartbeats 2000000 in
theorem RPos_any (p s : ByteArray) (n : Int) (w : World) (hsp : p.size ≤ maxLen) (hss : s.size ≤ maxLen) (hn : n ≤ 9223372036854775807) :
    Calls Tryd.prog 46 #[.string p, .string s, .int .i64 n] w (GivesM w (posR (bts p) (bts s) n)) := by
  have KVp := fun (W : World) => Lib.hid (RValid_any p W hsp)
  have KVs := fun (W : World) => Lib.hid (RValid_any s W hss)
  have KAn := fun (W : World) => Lib.hid (Rwhole0_any n 1 W)
  cases hv0 : validL (bts p) with
  | false =>
    rw [hv0] at KVp
    have HR := Lib.hid (show posR (bts p) (bts s) n = (0, 1) by unfold posR guardN; simp only [hv0, Bool.and_false, Bool.false_and, Bool.true_and, Bool.and_true]; rfl)
    clear hv0
    go_enter Tryd.func46, Tryd.ntmps46
    go_wp2_with (first
      | (go_at_call 32; (with_reducible refine Calls.mono (KVp _).out ?_); rintro e w1 ⟨rfl, rfl⟩))
    refine bodyPost_ret (v := .agg #[.int .i64 0, .int .i64 1]) (by simp [results, Tryd.results46, go_sem]) rfl ?_
    exact givesM HR.out ((Below.refl _ w).alloc (Nat.le_refl _) _)
  | true =>
    rw [hv0] at KVp
    cases hv1 : validL (bts s) with
    | false =>
      rw [hv1] at KVs
      have HR := Lib.hid (show posR (bts p) (bts s) n = (0, 1) by unfold posR guardN; simp only [hv0, hv1, Bool.and_false, Bool.false_and, Bool.true_and, Bool.and_true]; rfl)
      clear hv0 hv1
      go_enter Tryd.func46, Tryd.ntmps46
      go_wp2_with (first
        | (go_at_call 32; (with_reducible refine Calls.mono (KVp _).out ?_); rintro e w1 ⟨rfl, rfl⟩)
        | (go_at_call 32; (with_reducible refine Calls.mono (KVs _).out ?_); rintro e w1 ⟨rfl, rfl⟩))
      refine bodyPost_ret (v := .agg #[.int .i64 0, .int .i64 1]) (by simp [results, Tryd.results46, go_sem]) rfl ?_
      exact givesM HR.out ((Below.refl _ w).alloc (Nat.le_refl _) _)
    | true =>
      rw [hv1] at KVs
      cases hv2 : decide (1 ≤ n) with
      | false =>
        rw [hv2] at KAn
        have HR := Lib.hid (show posR (bts p) (bts s) n = (0, 1) by unfold posR guardN; simp only [hv0, hv1, hv2, Bool.and_false, Bool.false_and, Bool.true_and, Bool.and_true]; rfl)
        clear hv0 hv1 hv2
        go_enter Tryd.func46, Tryd.ntmps46
        go_wp2_with (first
          | (go_at_call 32; (with_reducible refine Calls.mono (KVp _).out ?_); rintro e w1 ⟨rfl, rfl⟩)
          | (go_at_call 32; (with_reducible refine Calls.mono (KVs _).out ?_); rintro e w1 ⟨rfl, rfl⟩)
          | (go_at_call 106; (with_reducible refine Calls.mono (KAn _).out ?_); rintro e w1 ⟨rfl, rfl⟩))
        refine bodyPost_ret (v := .agg #[.int .i64 0, .int .i64 1]) (by simp [results, Tryd.results46, go_sem]) rfl ?_
        exact givesM HR.out ((Below.refl _ w).alloc (Nat.le_refl _) _)
      | true =>
        rw [hv2] at KAn
        have hlen := valid_le hv0
        have hlen2 := valid_le hv1
        have hn1 := of_decide_eq_true hv2
        obtain ⟨a, ha⟩ : ∃ a : Nat, n = (a : Int) + 1 := ⟨(n - 1).toNat, by omega⟩
        subst ha
        have HR := Lib.hid (show posR (bts p) (bts s) ((a : Int) + 1) = (fromB (bts p) (bts s) (a : Int) + 1, 0) by unfold posR guardN; rw [hv0, hv1, hv2]; unfold posB fromB; rw [show (a : Int) + 1 - 1 = (a : Int) by omega]; rfl)
        have KF := fun W => Lib.hid (Rfind_any p s a W (by omega) (by omega) (by omega))
        have hbd := firstIn_ge (bts p) (bts s) (run (a : Int) 1 (((bts s).length : Int) - (bts p).length + 1 - (a : Int)).toNat) (fun x hx => by obtain ⟨i, hi, rfl⟩ := mem_run hx; rw [bts_length, bts_length] at hi; omega)
        change -1 ≤ fromB (bts p) (bts s) (a : Int) ∧ fromB (bts p) (bts s) (a : Int) ≤ 1000000 at hbd
        obtain ⟨z, hz⟩ : ∃ z, z = fromB (bts p) (bts s) (a : Int) := ⟨_, rfl⟩
        rw [← hz] at KF HR hbd
        have hwz : IntKind.i64.wrap (z + 1) = z + 1 := IntWalk.i64_in _ (by omega)
        have hwa : (a : Int) + 1 - 1 = (a : Int) := by omega
        have hwa2 : IntKind.i64.wrap (a : Int) = (a : Int) := IntWalk.i64_in _ (by omega)
        have hwa3 : IntKind.i64.wrap ((a : Int) + 1 - 1) = (a : Int) := by rw [hwa]; exact hwa2
        clear hv0 hv1 hv2 hz hn hn1
        go_enter Tryd.func46, Tryd.ntmps46
        go_wp2_with (first
          | (go_at_call 32; (with_reducible refine Calls.mono (KVp _).out ?_); rintro e w1 ⟨rfl, rfl⟩)
          | (go_at_call 32; (with_reducible refine Calls.mono (KVs _).out ?_); rintro e w1 ⟨rfl, rfl⟩)
          | (go_at_call 106; (with_reducible refine Calls.mono (KAn _).out ?_); rintro e w1 ⟨rfl, rfl⟩)
          | (go_at_call 123; (with_reducible refine Calls.mono (KF _).out ?_); rintro e w1 ⟨rfl, rfl⟩))
        refine bodyPost_ret (v := .agg #[.int .i64 (z + 1), .int .i64 0]) (by simp [results, Tryd.results46, go_sem]) rfl ?_
        exact givesM HR.out ((Below.refl _ w).alloc (Nat.le_refl _) _)
end Go.Proofs.YtoilgjlbpimcpaaDoor
