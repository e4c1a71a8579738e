/- Overlay. -/
import Derived.Test.YtoilgjlbpimcpaaDoorTg
namespace Go.Proofs.YtoilgjlbpimcpaaDoor
open Go.RowKit Tx
set_option linter.unusedVariables false
set_option maxRecDepth 100000

set_option maxHeartbeats 4000000 in
theorem Overlay_any (p s : ByteArray) (n m x : Int) (w : World) (hsp : p.size ≤ maxLen) (hss : s.size ≤ maxLen) (hn : n ≤ 9223372036854775807) (hx0 : 0 ≤ x) (hx1 : x < 256) :
    Calls Tryd.prog 36 #[.string p, .string s, .int .i64 n, .int .i64 m, .int .u8 x] w (GivesS w (overlayR (bts p) (bts s) n m x)) := by
  have KVps := fun (W : World) (pp : Nat) (hp : pp < W.heap.size) (hc : At W pp [.string p, .string s]) => Lib.hid (areValid2 pp p s W hsp hss hp hc)
  have KPx := fun (W : World) (pp : Nat) (hc : W.cell? ⟨pp, 0, none⟩ = some (.int .u8 x)) => Lib.hid (arePads1 pp x W hc)
  have KAn := fun (W : World) (pp : Nat) (hc : W.cell? ⟨pp, 0, none⟩ = some (.int .i64 n)) => Lib.hid (areAtLeast1 pp 1 n W hc)
  have KMm := fun (W : World) => Lib.hid (isMissingOr_any 0 m W)
  cases hv0 : validL (bts p) && validL (bts s) with
  | false =>
    rw [hv0] at KVps
    have HR := Lib.hid (show overlayR (bts p) (bts s) n m x = ([], 1) by unfold overlayR guardR; simp only [hv0, Bool.and_false, Bool.false_and, Bool.true_and, Bool.and_true]; rfl)
    clear hv0
    go_enter Tryd.func36, Tryd.ntmps36
    go_wp2_with (first
      | (go_at_call 99; refine Calls.mono (KVps _ _ (by simp) (At.new2 _ _ _ _)).out ?_; rintro e w1 ⟨rfl, hb1⟩; have B1 : Below w.heap.size w w1 := Bl.step (by repeat (first | assumption | exact Below.refl _ _ | refine Bl.alloc ?_ _ | refine Bl.drew ?_)) hb1))
    go_ret2
    exact givesS HR.out rfl (by repeat (first | assumption | exact Below.refl _ _ | refine Bl.alloc ?_ _ | refine Bl.drew ?_))
  | true =>
    rw [hv0] at KVps
    cases hv1 : padI x with
    | false =>
      rw [hv1] at KPx
      have HR := Lib.hid (show overlayR (bts p) (bts s) n m x = ([], 1) by unfold overlayR guardR; simp only [hv0, hv1, Bool.and_false, Bool.false_and, Bool.true_and, Bool.and_true]; rfl)
      clear hv0 hv1
      go_enter Tryd.func36, Tryd.ntmps36
      go_wp2_with (first
        | (go_at_call 99; refine Calls.mono (KVps _ _ (by simp) (At.new2 _ _ _ _)).out ?_; rintro e w1 ⟨rfl, hb1⟩; have B1 : Below w.heap.size w w1 := Bl.step (by repeat (first | assumption | exact Below.refl _ _ | refine Bl.alloc ?_ _ | refine Bl.drew ?_)) hb1)
        | (go_at_call 105; refine Calls.mono (KPx _ _ (cellAt (by simp))).out ?_; rintro e w2 ⟨rfl, rfl⟩))
      go_ret2
      exact givesS HR.out rfl (by repeat (first | assumption | exact Below.refl _ _ | refine Bl.alloc ?_ _ | refine Bl.drew ?_))
    | true =>
      rw [hv1] at KPx
      cases hv2 : decide (1 ≤ n) with
      | false =>
        rw [hv2] at KAn
        have HR := Lib.hid (show overlayR (bts p) (bts s) n m x = ([], 1) by unfold overlayR guardR; simp only [hv0, hv1, hv2, Bool.and_false, Bool.false_and, Bool.true_and, Bool.and_true]; rfl)
        clear hv0 hv1 hv2
        go_enter Tryd.func36, Tryd.ntmps36
        go_wp2_with (first
          | (go_at_call 99; refine Calls.mono (KVps _ _ (by simp) (At.new2 _ _ _ _)).out ?_; rintro e w1 ⟨rfl, hb1⟩; have B1 : Below w.heap.size w w1 := Bl.step (by repeat (first | assumption | exact Below.refl _ _ | refine Bl.alloc ?_ _ | refine Bl.drew ?_)) hb1)
          | (go_at_call 105; refine Calls.mono (KPx _ _ (cellAt (by simp))).out ?_; rintro e w2 ⟨rfl, rfl⟩)
          | (go_at_call 100; refine Calls.mono (KAn _ _ (cellAt (by simp))).out ?_; rintro e w2 ⟨rfl, rfl⟩))
        go_ret2
        exact givesS HR.out rfl (by repeat (first | assumption | exact Below.refl _ _ | refine Bl.alloc ?_ _ | refine Bl.drew ?_))
      | true =>
        rw [hv2] at KAn
        cases hv3 : (decide (m = -1) || decide (0 ≤ m)) with
        | false =>
          rw [hv3] at KMm
          have HR := Lib.hid (show overlayR (bts p) (bts s) n m x = ([], 1) by unfold overlayR guardR; simp only [hv0, hv1, hv2, hv3, Bool.and_false, Bool.false_and, Bool.true_and, Bool.and_true]; rfl)
          clear hv0 hv1 hv2 hv3
          go_enter Tryd.func36, Tryd.ntmps36
          go_wp2_with (first
            | (go_at_call 99; refine Calls.mono (KVps _ _ (by simp) (At.new2 _ _ _ _)).out ?_; rintro e w1 ⟨rfl, hb1⟩; have B1 : Below w.heap.size w w1 := Bl.step (by repeat (first | assumption | exact Below.refl _ _ | refine Bl.alloc ?_ _ | refine Bl.drew ?_)) hb1)
            | (go_at_call 105; refine Calls.mono (KPx _ _ (cellAt (by simp))).out ?_; rintro e w2 ⟨rfl, rfl⟩)
            | (go_at_call 100; refine Calls.mono (KAn _ _ (cellAt (by simp))).out ?_; rintro e w2 ⟨rfl, rfl⟩)
            | (go_at_call 112; refine Calls.mono (KMm _).out ?_; rintro e w3 ⟨rfl, hb3⟩; have B3 : Below w.heap.size w w3 := Bl.step (by repeat (first | assumption | exact Below.refl _ _ | refine Bl.alloc ?_ _ | refine Bl.drew ?_)) hb3))
          go_ret2
          exact givesS HR.out rfl (by repeat (first | assumption | exact Below.refl _ _ | refine Bl.alloc ?_ _ | refine Bl.drew ?_))
        | true =>
          rw [hv3] at KMm
          have hlen := valid_le (Bool.and_eq_true_iff.1 hv0).1
          have hlen2 := valid_le (Bool.and_eq_true_iff.1 hv0).2
          have h1 := of_decide_eq_true hv2
          obtain ⟨k, rfl⟩ : ∃ k : Nat, n = (k : Int) + 1 := ⟨(n - 1).toNat, by omega⟩
          have hk : ((k : Int) + 1 - 1).toNat = k := by omega
          by_cases hm : m = -1
          · subst hm
            by_cases hl : 1000 < ((k : Int) : Int) + (p.size : Int)
            · have HR := Lib.hid (show overlayR (bts p) (bts s) ((k : Int) + 1) (-1) x = ([], 3) by unfold overlayR guardR; rw [hv0, hv1, hv2, hv3, hk]; simp only [Bool.and_self, if_true, bts_length]; unfold overlayB; rw [if_pos (by omega)])
              have KT := fun (W : World) (pp : Nat) (hc : At W pp [.int .i64 (k : Int), .int .i64 (p.size : Int)]) => Lib.hid (isTooLong2 pp (k : Int) (p.size : Int) W (by omega) (by omega) hc)
              rw [decide_eq_true hl] at KT
              clear hv0 hv1 hv2 hv3 hk
              go_enter Tryd.func36, Tryd.ntmps36
              go_wp2_with (first
                | (go_at_call 99; refine Calls.mono (KVps _ _ (by simp) (At.new2 _ _ _ _)).out ?_; rintro e w1 ⟨rfl, hb1⟩; have B1 : Below w.heap.size w w1 := Bl.step (by repeat (first | assumption | exact Below.refl _ _ | refine Bl.alloc ?_ _ | refine Bl.drew ?_)) hb1)
                | (go_at_call 105; refine Calls.mono (KPx _ _ (cellAt (by simp))).out ?_; rintro e w2 ⟨rfl, rfl⟩)
                | (go_at_call 100; refine Calls.mono (KAn _ _ (cellAt (by simp))).out ?_; rintro e w2 ⟨rfl, rfl⟩)
                | (go_at_call 112; refine Calls.mono (KMm _).out ?_; rintro e w3 ⟨rfl, hb3⟩; have B3 : Below w.heap.size w w3 := Bl.step (by repeat (first | assumption | exact Below.refl _ _ | refine Bl.alloc ?_ _ | refine Bl.drew ?_)) hb3)
                | (go_at_call 101; refine Calls.mono (KT _ _ (at2 (by simp))).out ?_; rintro e w5 ⟨rfl, rfl⟩))
              go_ret2
              exact givesS HR.out rfl (by repeat (first | assumption | exact Below.refl _ _ | refine Bl.alloc ?_ _ | refine Bl.drew ?_))
            · have HR := Lib.hid (show overlayR (bts p) (bts s) ((k : Int) + 1) (-1) x = (fitL (bts s) k (pb x) ++ fitL (bts p) p.size (pb x) ++ (bts s).drop (k + p.size), 0) by unfold overlayR guardR; rw [hv0, hv1, hv2, hv3, hk]; simp only [Bool.and_self, if_true, bts_length]; unfold overlayB; rw [if_neg (by omega)])
              have KT := fun (W : World) (pp : Nat) (hc : At W pp [.int .i64 (k : Int), .int .i64 (p.size : Int)]) => Lib.hid (isTooLong2 pp (k : Int) (p.size : Int) W (by omega) (by omega) hc)
              rw [decide_eq_false hl] at KT
              have KF1 := fun W => Lib.hid (fitted_any s k x W (by omega) (by omega) hx0 hx1)
              have KF2 := fun W => Lib.hid (fitted_any p p.size x W (by omega) (by omega) hx0 hx1)
              have KAF := fun W => Lib.hid (after_any s (k + p.size) W hss)
              rw [show ((k + p.size : Nat) : Int) = (k : Int) + (p.size : Int) by omega] at KAF
              clear hv0 hv1 hv2 hv3 hk
              go_enter Tryd.func36, Tryd.ntmps36
              go_wp2_with (first
                | (go_at_call 99; refine Calls.mono (KVps _ _ (by simp) (At.new2 _ _ _ _)).out ?_; rintro e w1 ⟨rfl, hb1⟩; have B1 : Below w.heap.size w w1 := Bl.step (by repeat (first | assumption | exact Below.refl _ _ | refine Bl.alloc ?_ _ | refine Bl.drew ?_)) hb1)
                | (go_at_call 105; refine Calls.mono (KPx _ _ (cellAt (by simp))).out ?_; rintro e w2 ⟨rfl, rfl⟩)
                | (go_at_call 100; refine Calls.mono (KAn _ _ (cellAt (by simp))).out ?_; rintro e w2 ⟨rfl, rfl⟩)
                | (go_at_call 112; refine Calls.mono (KMm _).out ?_; rintro e w3 ⟨rfl, hb3⟩; have B3 : Below w.heap.size w w3 := Bl.step (by repeat (first | assumption | exact Below.refl _ _ | refine Bl.alloc ?_ _ | refine Bl.drew ?_)) hb3)
                | (go_at_call 101; refine Calls.mono (KT _ _ (at2 (by simp))).out ?_; rintro e w5 ⟨rfl, rfl⟩)
                | (go_at_call 114; first | ((with_reducible refine Calls.mono (KF1 _).out ?_); clear KF1; rintro e w6 ⟨t1, rfl, ht1, hb6⟩; have B6 : Below w.heap.size w w6 := Bl.step (by repeat (first | assumption | exact Below.refl _ _ | refine Bl.alloc ?_ _ | refine Bl.drew ?_)) hb6; have hts1 : t1.size ≤ 1000000 := (by have := size_of_bts ht1.out; rw [fitL_length] at this; omega)) | ((with_reducible refine Calls.mono (KF2 _).out ?_); rintro e w7 ⟨t2, rfl, ht2, hb7⟩; have B7 : Below w.heap.size w w7 := Bl.step (by repeat (first | assumption | exact Below.refl _ _ | refine Bl.alloc ?_ _ | refine Bl.drew ?_)) hb7; have hts2 : t2.size ≤ 1000000 := (by have := size_of_bts ht2.out; rw [fitL_length] at this; omega)))
                | (go_at_call 113; refine Calls.mono (KAF _).out ?_; rintro e w8 ⟨t3, rfl, ht3, rfl⟩; have hts3 : t3.size ≤ 1000000 := (by have := size_of_bts ht3.out; rw [List.length_drop, bts_length] at this; omega)))
              go_ret2
              exact givesS HR.out (by rw [bts_append, bts_append, ht1.out, ht2.out, ht3.out]) (by repeat (first | assumption | exact Below.refl _ _ | refine Bl.alloc ?_ _ | refine Bl.drew ?_))
          · have h0 : 0 ≤ m := by
              rw [decide_eq_false hm, Bool.false_or] at hv3
              exact of_decide_eq_true hv3
            have hmb : (m == -1) = false := by simpa using hm
            obtain ⟨j, rfl⟩ := Int.eq_ofNat_of_zero_le h0
            by_cases hl : 1000 < ((k : Int) : Int) + (j : Int)
            · have HR := Lib.hid (show overlayR (bts p) (bts s) ((k : Int) + 1) (j : Int) x = ([], 3) by unfold overlayR guardR; rw [hv0, hv1, hv2, hv3, hk]; simp only [Bool.and_self, if_true, if_neg hm, Int.toNat_natCast]; unfold overlayB; rw [if_pos (by omega)])
              have KT := fun (W : World) (pp : Nat) (hc : At W pp [.int .i64 (k : Int), .int .i64 (j : Int)]) => Lib.hid (isTooLong2 pp (k : Int) (j : Int) W (by omega) (by omega) hc)
              rw [decide_eq_true hl] at KT
              clear hm hv0 hv1 hv2 hv3 hk
              go_enter Tryd.func36, Tryd.ntmps36
              go_wp2_with (first
                | (go_at_call 99; refine Calls.mono (KVps _ _ (by simp) (At.new2 _ _ _ _)).out ?_; rintro e w1 ⟨rfl, hb1⟩; have B1 : Below w.heap.size w w1 := Bl.step (by repeat (first | assumption | exact Below.refl _ _ | refine Bl.alloc ?_ _ | refine Bl.drew ?_)) hb1)
                | (go_at_call 105; refine Calls.mono (KPx _ _ (cellAt (by simp))).out ?_; rintro e w2 ⟨rfl, rfl⟩)
                | (go_at_call 100; refine Calls.mono (KAn _ _ (cellAt (by simp))).out ?_; rintro e w2 ⟨rfl, rfl⟩)
                | (go_at_call 112; refine Calls.mono (KMm _).out ?_; rintro e w3 ⟨rfl, hb3⟩; have B3 : Below w.heap.size w w3 := Bl.step (by repeat (first | assumption | exact Below.refl _ _ | refine Bl.alloc ?_ _ | refine Bl.drew ?_)) hb3)
                | (go_at_call 101; refine Calls.mono (KT _ _ (at2 (by simp))).out ?_; rintro e w5 ⟨rfl, rfl⟩))
              go_ret2
              exact givesS HR.out rfl (by repeat (first | assumption | exact Below.refl _ _ | refine Bl.alloc ?_ _ | refine Bl.drew ?_))
            · have HR := Lib.hid (show overlayR (bts p) (bts s) ((k : Int) + 1) (j : Int) x = (fitL (bts s) k (pb x) ++ fitL (bts p) j (pb x) ++ (bts s).drop (k + j), 0) by unfold overlayR guardR; rw [hv0, hv1, hv2, hv3, hk]; simp only [Bool.and_self, if_true, if_neg hm, Int.toNat_natCast]; unfold overlayB; rw [if_neg (by omega)])
              have KT := fun (W : World) (pp : Nat) (hc : At W pp [.int .i64 (k : Int), .int .i64 (j : Int)]) => Lib.hid (isTooLong2 pp (k : Int) (j : Int) W (by omega) (by omega) hc)
              rw [decide_eq_false hl] at KT
              have KF1 := fun W => Lib.hid (fitted_any s k x W (by omega) (by omega) hx0 hx1)
              have KF2 := fun W => Lib.hid (fitted_any p j x W (by omega) (by omega) hx0 hx1)
              have KAF := fun W => Lib.hid (after_any s (k + j) W hss)
              rw [show ((k + j : Nat) : Int) = (k : Int) + (j : Int) by omega] at KAF
              clear hm hv0 hv1 hv2 hv3 hk
              go_enter Tryd.func36, Tryd.ntmps36
              go_wp2_with (first
                | (go_at_call 99; refine Calls.mono (KVps _ _ (by simp) (At.new2 _ _ _ _)).out ?_; rintro e w1 ⟨rfl, hb1⟩; have B1 : Below w.heap.size w w1 := Bl.step (by repeat (first | assumption | exact Below.refl _ _ | refine Bl.alloc ?_ _ | refine Bl.drew ?_)) hb1)
                | (go_at_call 105; refine Calls.mono (KPx _ _ (cellAt (by simp))).out ?_; rintro e w2 ⟨rfl, rfl⟩)
                | (go_at_call 100; refine Calls.mono (KAn _ _ (cellAt (by simp))).out ?_; rintro e w2 ⟨rfl, rfl⟩)
                | (go_at_call 112; refine Calls.mono (KMm _).out ?_; rintro e w3 ⟨rfl, hb3⟩; have B3 : Below w.heap.size w w3 := Bl.step (by repeat (first | assumption | exact Below.refl _ _ | refine Bl.alloc ?_ _ | refine Bl.drew ?_)) hb3)
                | (go_at_call 101; refine Calls.mono (KT _ _ (at2 (by simp))).out ?_; rintro e w5 ⟨rfl, rfl⟩)
                | (go_at_call 114; first | ((with_reducible refine Calls.mono (KF1 _).out ?_); clear KF1; rintro e w6 ⟨t1, rfl, ht1, hb6⟩; have B6 : Below w.heap.size w w6 := Bl.step (by repeat (first | assumption | exact Below.refl _ _ | refine Bl.alloc ?_ _ | refine Bl.drew ?_)) hb6; have hts1 : t1.size ≤ 1000000 := (by have := size_of_bts ht1.out; rw [fitL_length] at this; omega)) | ((with_reducible refine Calls.mono (KF2 _).out ?_); rintro e w7 ⟨t2, rfl, ht2, hb7⟩; have B7 : Below w.heap.size w w7 := Bl.step (by repeat (first | assumption | exact Below.refl _ _ | refine Bl.alloc ?_ _ | refine Bl.drew ?_)) hb7; have hts2 : t2.size ≤ 1000000 := (by have := size_of_bts ht2.out; rw [fitL_length] at this; omega)))
                | (go_at_call 113; refine Calls.mono (KAF _).out ?_; rintro e w8 ⟨t3, rfl, ht3, rfl⟩; have hts3 : t3.size ≤ 1000000 := (by have := size_of_bts ht3.out; rw [List.length_drop, bts_length] at this; omega)))
              go_ret2
              exact givesS HR.out (by rw [bts_append, bts_append, ht1.out, ht2.out, ht3.out]) (by repeat (first | assumption | exact Below.refl _ _ | refine Bl.alloc ?_ _ | refine Bl.drew ?_))
end Go.Proofs.YtoilgjlbpimcpaaDoor
