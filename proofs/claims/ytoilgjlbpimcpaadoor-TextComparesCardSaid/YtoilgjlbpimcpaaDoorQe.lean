/- The other program's Compare. -/
import Derived.Test.YtoilgjlbpimcpaaDoorQc
import Derived.Test.YtoilgjlbpimcpaaDoorZf
import Derived.BigQuiet
namespace Go.Proofs.YtoilgjlbpimcpaaDoor
open Go.RowKit Go.Shelf Tx
set_option linter.unusedVariables false
set_option maxRecDepth 100000

theorem br_shape {w : World} {B : Nat} {v : Value} {l : List UInt8} (h : Br w B v l) : ∃ ao cap, v = .slice ao l.length cap := by
  rcases h with ⟨rfl, rfl⟩ | ⟨g, cap, rfl, _⟩
  · exact ⟨none, 0, rfl⟩
  · exact ⟨_, _, rfl⟩
theorem br_cells {w : World} {B : Nat} {v : Value} {l : List UInt8} (h : Br w B v l) (h0 : l ≠ []) : ∃ g cap, v = .slice (some ⟨g, 0, none⟩) l.length cap ∧ g < w.heap.size ∧ ∀ (i : Nat) (x : UInt8), l[i]? = some x → w.cell? ⟨g, i, none⟩ = some (.int .u8 (x.toNat : Int)) := by
  rcases h with ⟨_, h⟩ | ⟨g, cap, h1, _, h3, _, _, _, h7⟩
  · exact absurd h h0
  · exact ⟨g, cap, h1, h3, h7⟩
theorem Tx.cmpF_drop {P : List Bool} {k : Nat} {b : Bool} (h : P[k]? = some b) : cmpF (P.drop k) k = if b then (k : Int) + 1 else cmpF (P.drop (k + 1)) (k + 1) := by
  have hk := (List.getElem?_eq_some_iff.1 h).1
  rw [List.drop_eq_getElem_cons hk, cmpF, (List.getElem?_eq_some_iff.1 h).2]
set_option maxHeartbeats 4000000 in
theorem RCompare_any (u v : ByteArray) (c : UInt8) (w : World) (hsu : u.size ≤ maxLen) (hsv : v.size ≤ maxLen) :
    Calls Tryd.prog 54 #[.string u, .string v, .int .u8 (c.toNat : Int)] w (GivesM w (compareR (bts u) (bts v) (c.toNat : Int))) := by
  have KVu := fun (W : World) => Lib.hid (RValid_any u W hsu)
  have KVv := fun (W : World) => Lib.hid (RValid_any v W hsv)
  have KPc := fun (W : World) => Lib.hid (RPad_any (c.toNat : Int) W)
  cases hv0 : validL (bts u) with
  | false =>
    rw [hv0] at KVu
    have HR := Lib.hid (show compareR (bts u) (bts v) (c.toNat : Int) = (0, 1) by unfold compareR guardN; simp only [hv0, Bool.and_false, Bool.false_and, Bool.true_and, Bool.and_true]; rfl)
    clear hv0
    go_enter Tryd.func54, Tryd.ntmps54
    go_wp2_with (first
      | (go_at_call 32; (with_reducible refine Calls.mono (KVu _).out ?_); rintro e w1 ⟨rfl, rfl⟩))
    refine bodyPost_ret (v := .agg #[.int .i64 0, .int .i64 1]) (by simp [results, Tryd.results54, go_sem]) rfl ?_
    exact givesM HR.out ((Below.refl _ w).alloc (Nat.le_refl _) _)
  | true =>
    rw [hv0] at KVu
    cases hv1 : validL (bts v) with
    | false =>
      rw [hv1] at KVv
      have HR := Lib.hid (show compareR (bts u) (bts v) (c.toNat : Int) = (0, 1) by unfold compareR guardN; simp only [hv0, hv1, Bool.and_false, Bool.false_and, Bool.true_and, Bool.and_true]; rfl)
      clear hv0 hv1
      go_enter Tryd.func54, Tryd.ntmps54
      go_wp2_with (first
        | (go_at_call 32; (with_reducible refine Calls.mono (KVu _).out ?_); rintro e w1 ⟨rfl, rfl⟩)
        | (go_at_call 32; (with_reducible refine Calls.mono (KVv _).out ?_); rintro e w1 ⟨rfl, rfl⟩))
      refine bodyPost_ret (v := .agg #[.int .i64 0, .int .i64 1]) (by simp [results, Tryd.results54, go_sem]) rfl ?_
      exact givesM HR.out ((Below.refl _ w).alloc (Nat.le_refl _) _)
    | true =>
      rw [hv1] at KVv
      cases hv2 : padI (c.toNat : Int) with
      | false =>
        rw [hv2] at KPc
        have HR := Lib.hid (show compareR (bts u) (bts v) (c.toNat : Int) = (0, 1) by unfold compareR guardN; simp only [hv0, hv1, hv2, Bool.and_false, Bool.false_and, Bool.true_and, Bool.and_true]; rfl)
        clear hv0 hv1 hv2
        go_enter Tryd.func54, Tryd.ntmps54
        go_wp2_with (first
          | (go_at_call 32; (with_reducible refine Calls.mono (KVu _).out ?_); rintro e w1 ⟨rfl, rfl⟩)
          | (go_at_call 32; (with_reducible refine Calls.mono (KVv _).out ?_); rintro e w1 ⟨rfl, rfl⟩)
          | (go_at_call 107; (with_reducible refine Calls.mono (KPc _).out ?_); rintro e w1 ⟨rfl, rfl⟩))
        refine bodyPost_ret (v := .agg #[.int .i64 0, .int .i64 1]) (by simp [results, Tryd.results54, go_sem]) rfl ?_
        exact givesM HR.out ((Below.refl _ w).alloc (Nat.le_refl _) _)
      | true =>
        rw [hv2] at KPc
        have hlen := valid_le hv0
        have hlen2 := valid_le hv1
        obtain ⟨N, hN⟩ : ∃ N, N = max u.size v.size := ⟨_, rfl⟩
        have hN1 : N ≤ 1000 := by omega
        have hNi : max (u.size : Int) (v.size : Int) = (N : Int) := by omega
        obtain ⟨A, hA⟩ : ∃ A, A = fitL (bts u) N c := ⟨_, rfl⟩
        obtain ⟨B, hB⟩ : ∃ B, B = fitL (bts v) N c := ⟨_, rfl⟩
        have hAl : A.length = N := by rw [hA, fitL_length]
        have hBl : B.length = N := by rw [hB, fitL_length]
        have KU := fun W => Lib.hid (Rfit_any u N c W (by omega) (by omega))
        have KV := fun W => Lib.hid (Rfit_any v N c W (by omega) (by omega))
        rw [rfit_eq _ (by omega), ← hA] at KU
        rw [rfit_eq _ (by omega), ← hB] at KV
        obtain ⟨P, hP⟩ : ∃ P, P = difL (bts u) (bts v) (pb (c.toNat : Int)) := ⟨_, rfl⟩
        have hPe : P = List.zipWith (fun a b => a != b) A B := by rw [hP, hA, hB, show pb (c.toNat : Int) = c by simp [pb]]; unfold difL; rw [bts_length, bts_length, hN]
        have hPl : P.length = N := by rw [hPe, List.length_zipWith, hAl, hBl]; omega
        have HR0 := Lib.hid (show compareR (bts u) (bts v) (c.toNat : Int) = (cmpF P 0, 0) by unfold compareR guardN; rw [hv0, hv1, hv2, hP]; rfl)
        have HPG := Lib.hid (show ∀ (k : Nat) (a b : UInt8), A[k]? = some a → B[k]? = some b → P[k]? = some (a != b) from fun k a b ha hb => by rw [hPe, List.getElem?_zipWith, ha, hb])
        have HPL := Lib.hid hPl
        have HAL := Lib.hid hAl
        have HBL := Lib.hid hBl
        have hmix : Tryd.prog.follows .mixedOrders = true := by kernel_rfl
        clear hv0 hv1 hv2 hP hPe hPl hA hB hAl hBl hN hlen hlen2
        by_cases hN0 : N = 0
        · have HR := Lib.hid (show compareR (bts u) (bts v) (c.toNat : Int) = (0, 0) by rw [HR0.out, List.eq_nil_of_length_eq_zero (HPL.out.trans hN0)]; rfl)
          subst hN0
          go_enter Tryd.func54, Tryd.ntmps54
          go_wp2_with (first
            | (go_at_call 32; (with_reducible refine Calls.mono (KVu _).out ?_); rintro e w1 ⟨rfl, rfl⟩)
            | (go_at_call 32; (with_reducible refine Calls.mono (KVv _).out ?_); rintro e w1 ⟨rfl, rfl⟩)
            | (go_at_call 107; (with_reducible refine Calls.mono (KPc _).out ?_); rintro e w1 ⟨rfl, rfl⟩)
            | (go_at_call 109; first | ((with_reducible refine Calls.mono (KU _).out ?_); clear KU; rintro e w4 ⟨v4, rfl, hr4, hb4⟩; have HB4 := Lib.hid ((nbB_new 49 w).step hb4); have HR4 := Lib.hid (hr4.out); obtain ⟨a4, cap4, rfl⟩ := br_shape HR4.out; rw [HAL.out]; clear hr4 hb4) | ((with_reducible refine Calls.mono (KV _).out ?_); rintro e w5 ⟨v5, rfl, hr5, hb5⟩; have HB5 := Lib.hid (HB4.out.step hb5); have HR45 := Lib.hid (HR4.out.below hb5); have HR5 := Lib.hid (hr5.out); obtain ⟨p1, p2, f1, f2⟩ := HB5.out.facts; obtain ⟨a5, cap5, rfl⟩ := br_shape HR5.out; rw [HBL.out]; clear hr5 hb5)))
          go_loopw [9] (fun x wr => x = .int .i64 0 ∧ Hid (wr = w5)) (fun _ _ => 0)
          case atStart => refine ⟨rfl, Lib.hid ?_⟩ <;> first | trivial | rfl
          case round =>
            obtain ⟨rfl, hw⟩ := hrel
            obtain rfl := hw.out
            go_wp2
            refine bodyPost_ret (v := .agg #[.int .i64 0, .int .i64 0]) (by simp [results, Tryd.results54, go_sem, p1, p2]) rfl ?_
            exact givesM HR.out (HB5.out.fin _ _)
        · go_enter Tryd.func54, Tryd.ntmps54
          go_wp2_with (first
            | (go_at_call 32; (with_reducible refine Calls.mono (KVu _).out ?_); rintro e w1 ⟨rfl, rfl⟩)
            | (go_at_call 32; (with_reducible refine Calls.mono (KVv _).out ?_); rintro e w1 ⟨rfl, rfl⟩)
            | (go_at_call 107; (with_reducible refine Calls.mono (KPc _).out ?_); rintro e w1 ⟨rfl, rfl⟩)
            | (go_at_call 109; first | ((with_reducible refine Calls.mono (KU _).out ?_); clear KU; rintro e w4 ⟨v4, rfl, hr4, hb4⟩; have HB4 := Lib.hid ((nbB_new 49 w).step hb4); have HR4 := Lib.hid (hr4.out); obtain ⟨g4, cap4, hv4, hg4, hc4⟩ := br_cells HR4.out (by intro e; have := HAL.out; rw [e] at this; simp at this; omega); rw [HAL.out] at hv4; subst hv4; have HC4 := Lib.hid hc4; have HG4 := Lib.hid hg4; clear hc4 hg4; clear hr4 hb4) | ((with_reducible refine Calls.mono (KV _).out ?_); rintro e w5 ⟨v5, rfl, hr5, hb5⟩; have HB5 := Lib.hid (HB4.out.step hb5); have HR45 := Lib.hid (HR4.out.below hb5); have HR5 := Lib.hid (hr5.out); obtain ⟨g5, cap5, hv5, hg5, hc5⟩ := br_cells HR5.out (by intro e; have := HBL.out; rw [e] at this; simp at this; omega); rw [HBL.out] at hv5; subst hv5; have HC5 := Lib.hid hc5; have HC45 := Lib.hid (show ∀ (i : Nat) (y : UInt8), A[i]? = some y → w5.cell? ⟨g4, i, none⟩ = some (.int .u8 (y.toNat : Int)) from fun i y hy => (hb5.cell (p := ⟨g4, i, none⟩) HG4.out).trans (HC4.out i y hy)); clear hc5 hg5; clear hr5 hb5)))
          go_loopw [9] (fun x wr => ∃ k nd : Nat, x = .int .i64 k ∧ k ≤ N ∧ Hid (cmpF P 0 = cmpF (P.drop k) k) ∧ wr = w5.drewN nd) (fun x _ => N - (intOf x).toNat)
          case atStart => exact ⟨0, 0, rfl, Nat.zero_le _, Lib.hid rfl, rfl⟩
          case round =>
            obtain ⟨k, nd, rfl, hk, hq, rfl⟩ := hrel
            by_cases hlt : k < N
            · obtain ⟨a, ha⟩ : ∃ a, A[k]? = some a := ⟨_, List.getElem?_eq_getElem (by rw [HAL.out]; exact hlt)⟩
              obtain ⟨b, hb⟩ : ∃ b, B[k]? = some b := ⟨_, List.getElem?_eq_getElem (by rw [HBL.out]; exact hlt)⟩
              have m1 := HC45.out k a ha
              have m2 := HC5.out k b hb
              have HST := Lib.hid (cmpF_drop (HPG.out k a b ha hb))
              have hwk : IntKind.i64.wrap ((k : Int) + 1) = (k : Int) + 1 := IntWalk.i64_in _ (by omega)
              clear ha hb
              by_cases he : a = b
              · have HN := Lib.hid (show cmpF P 0 = cmpF (P.drop (k + 1)) (k + 1) by rw [hq.out, HST.out, he]; simp)
                have hd : ((a.toNat : Int) != (b.toNat : Int)) = false := by rw [he]; simp
                clear he
                go_wp2
                go_quiet (fail)
                go_wp2
                go_roundw
                case rel => exact ⟨k + 1, _, by go_num, by omega, HN, rfl⟩
                case measure => simp [intOf]; omega
              · have HR := Lib.hid (show compareR (bts u) (bts v) (c.toNat : Int) = ((k : Int) + 1, 0) by rw [HR0.out, hq.out, HST.out]; simp [he])
                have hd : ((a.toNat : Int) != (b.toNat : Int)) = true := by
                  rw [bne_iff_ne]; intro e; exact he (UInt8.toNat_inj.1 (by omega))
                clear he
                go_wp2
                go_quiet (fail)
                have HB6 := Lib.hid (HB5.out.step (below_drewN (Below.refl _ _) (nd + nq)))
                obtain ⟨p1, p2, f1, f2⟩ := HB6.out.facts
                go_wp2
                refine bodyPost_ret (v := .agg #[.int .i64 ((k : Int) + 1), .int .i64 0]) (by simp [results, Tryd.results54, go_sem, p1, p2]) rfl ?_
                exact givesM HR.out (HB6.out.fin _ _)
            · obtain rfl : k = N := by omega
              have HR := Lib.hid (show compareR (bts u) (bts v) (c.toNat : Int) = (0, 0) by rw [HR0.out, hq.out, List.drop_of_length_le (by rw [HPL.out]; exact Nat.le_refl _)]; rfl)
              have HB6 := Lib.hid (HB5.out.step (below_drewN (Below.refl _ _) nd))
              obtain ⟨p1, p2, f1, f2⟩ := HB6.out.facts
              go_wp2
              refine bodyPost_ret (v := .agg #[.int .i64 0, .int .i64 0]) (by simp [results, Tryd.results54, go_sem, p1, p2]) rfl ?_
              exact givesM HR.out (HB6.out.fin _ _)
end Go.Proofs.YtoilgjlbpimcpaaDoor
