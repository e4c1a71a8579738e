/- Xrange, both programs'. -/
import Derived.Test.YtoilgjlbpimcpaaDoorXa
namespace Go.Proofs.YtoilgjlbpimcpaaDoor
open Go.RowKit Go.Shelf Tx
set_option linter.unusedVariables false
set_option maxRecDepth 100000

namespace Tx
theorem stepsP_next {a b : Nat} (ha : 32 ≤ a) (ha2 : a ≤ 126) (hb : 32 ≤ b) (hb2 : b ≤ 126) (h : a ≠ b) : stepsP (nextP a) b < stepsP a b := by
  unfold stepsP nextP
  by_cases e : a = 126
  · rw [if_pos e, if_pos hb, if_neg (by omega)]; omega
  · rw [if_neg e]
    split <;> split <;> omega
end Tx
theorem br_one (w : World) (p : Nat) (hp : p = w.heap.size) (x : UInt8) (B : Nat) (hB : B ≤ w.heap.size) (t : TypeId) : Br (w.alloc (.cells #[.int .u8 (x.toNat : Int)] t)) B (.slice (some ⟨p, 0, none⟩) 1 1) [x] := by
  subst hp
  have hh := heap_alloc_new w (.cells #[.int .u8 (x.toNat : Int)] t)
  refine .inr ⟨w.heap.size, 1, rfl, hB, by simp, Nat.le_refl _, by unfold maxLen; omega, fun i hi => ?_, fun i y hy => ?_⟩
  · obtain rfl : i = 0 := by omega
    simp only [World.cell?, World.frozen?, hh]
    simp
  · have hi := (List.getElem?_eq_some_iff.1 hy).1
    obtain rfl : i = 0 := by simpa using hi
    simp at hy
    subst hy
    simp only [World.cell?, hh]
    simp [u8v]

set_option maxHeartbeats 4000000 in
theorem Xrange_any (c d : UInt8) (w : World) :
    Calls Tryd.prog 75 #[.int .u8 (c.toNat : Int), .int .u8 (d.toNat : Int)] w (GivesS w (xrangeR c d)) := by
  have KP := fun (W : World) (pp : Nat) (hc : At W pp [.int .u8 (c.toNat : Int), .int .u8 (d.toNat : Int)]) => Lib.hid ((arePads_any pp [(c.toNat : Int), (d.toNat : Int)] W (by simp) hc).mono (fun e w' h => (show e = .returned (.bool (padI (c.toNat : Int) && padI (d.toNat : Int))) ∧ W = w' from ⟨by rw [h.1]; simp, h.2⟩)))
  cases hp : padI (c.toNat : Int) && padI (d.toNat : Int) with
  | false =>
    rw [hp] at KP
    have HR := Lib.hid (show xrangeR c d = ([], 1) by unfold xrangeR; rw [hp]; rfl)
    clear hp
    go_enter Tryd.func75, Tryd.ntmps75
    go_wp2_with (go_at_call 105; refine Calls.mono (KP _ _ (At.new2 _ _ _ _)).out ?_; rintro e w2 ⟨rfl, rfl⟩)
    go_ret2
    exact givesS HR.out rfl (by repeat (first | assumption | exact Below.refl _ _ | refine Bl.alloc ?_ _ | refine Bl.drew ?_))
  | true =>
    rw [hp] at KP
    have hp' := hp
    rw [Bool.and_eq_true, padI_iff, padI_iff] at hp'
    have HA := Lib.hid (show 32 ≤ c.toNat ∧ c.toNat ≤ 126 by omega)
    have HDD := Lib.hid (show 32 ≤ d.toNat ∧ d.toNat ≤ 126 by omega)
    have HR := Lib.hid (show xrangeR c d = (runP c.toNat (stepsP c.toNat d.toNat + 1), 0) by unfold xrangeR; rw [hp]; rfl)
    clear hp hp'
    have HC1 := Lib.hid (show [c] = runP c.toNat 1 by simp [runP])
    have hbr0 := fun (W : World) (p : Nat) (hp : p = W.heap.size) (hW : w.heap.size ≤ W.heap.size) => br_one W p hp c w.heap.size hW 5
    rw [HC1.out] at hbr0
    have HBR1 := fun W p hp hW => Lib.hid (hbr0 W p hp hW)
    obtain ⟨a, ha⟩ : ∃ a, a = c.toNat := ⟨_, rfl⟩
    obtain ⟨b, hb⟩ : ∃ b, b = d.toNat := ⟨_, rfl⟩
    rw [← ha, ← hb] at KP HR
    rw [← ha] at HA HBR1 ⊢
    rw [← hb] at HDD ⊢
    clear ha hb HC1 hbr0
    go_enter Tryd.func75, Tryd.ntmps75
    go_wp2_with (go_at_call 105; refine Calls.mono (KP _ _ (At.new2 _ _ _ _)).out ?_; rintro e w2 ⟨rfl, rfl⟩)
    go_loopw [6, 7] (fun v x wr => ∃ (n m : Nat), x = .int .u8 (m : Int) ∧ n ≤ stepsP a b ∧ 32 ≤ m ∧ m ≤ 126 ∧ Hid (m = itP a n) ∧ Hid (Br wr (w.heap.size) v (runP a (n + 1))) ∧ Hid (Below w.heap.size w wr)) (fun _ x _ => stepsP (intOf x).toNat b)
    case atStart => exact ⟨0, a, rfl, Nat.zero_le _, HA.out.1, HA.out.2, Lib.hid rfl, Lib.hid ((HBR1 (w.alloc _) _ (by simp) (by simp)).out), Lib.hid ((by repeat (first | assumption | exact Below.refl _ _ | refine Bl.alloc ?_ _)))⟩
    case round =>
      obtain ⟨n, m, rfl, hn, hm1, hm2, hm, hbr, hb⟩ := hrel
      by_cases hmd : m = b
      · have hns : n = stepsP a b := by
          by_cases e : n < stepsP a b
          · exact absurd hmd (by rw [hm.out]; exact itP_ne HA.out.1 HA.out.2 HDD.out.1 HDD.out.2 e)
          · omega
        have HNS := Lib.hid hns
        clear hns
        subst hmd
        obtain ⟨t, hconv, ht⟩ := conv_rd hbr.out.rd
        have HT := Lib.hid ht
        clear ht
        go_wp2
        go_ret2
        exact givesS HR.out (by rw [HT.out, HNS.out]) hb.out
      · have hns : n < stepsP a b := by
          by_cases e : n < stepsP a b
          · exact e
          · exact absurd (by rw [hm.out, show n = stepsP a b by omega]; exact itP_end HA.out.1 HA.out.2 HDD.out.1 HDD.out.2) hmd
        have HME := Lib.hid (stepsP_next hm1 hm2 HDD.out.1 HDD.out.2 hmd)
        have HSN := Lib.hid (runP_snoc (n + 1) a)
        have HIT := Lib.hid (show itP a (n + 1) = nextP m by rw [hm.out]; rfl)
        have hrl := Lib.hid (runP_length (n + 1) a)
        have hst := Lib.hid (stepsP_le HA.out.1 HA.out.2 HDD.out.1 HDD.out.2)
        have hmdi : ¬ (m : Int) = (b : Int) := by omega
        have hsz : w.heap.size ≤ wr.heap.size := hb.out.size
        by_cases h126 : m = 126
        · have HNX := Lib.hid (show nextP m = 32 by unfold nextP; rw [if_pos h126])
          have hmi : (m : Int) + 1 = 127 := by omega
          have hcw : IntKind.u8.wrap ((m : Int) + 1) = (m : Int) + 1 := by unfold IntKind.wrap; simp [IntKind.signed, IntKind.bits]; omega
          go_wp2_with (at_builtin; refine wpList_br rfl _ _ 89 rfl (w.heap.size) _ (.slice (some ⟨wr.heap.size, 0, none⟩) 1 1) (runP a (n + 1)) [UInt8.ofNat 32] rfl rfl (hbr.out.alloc _) (src_cell (by simp [u8v])) (by rw [hrl.out]; simp; have := hst.out; omega) (by simp; omega) ?_; intro v' w4 hbr' hgrow; have HBR := Lib.hid hbr'; have HB4 := Lib.hid (((hb.out.alloc hsz _).grown hgrow (by simp; omega) hbr.out.own)); clear hbr' hgrow)
          go_roundw
          case rel => exact ⟨n + 1, 32, rfl, by omega, by omega, by omega, Lib.hid (by rw [HIT.out, HNX.out]), Lib.hid (by rw [HSN.out, HIT.out, HNX.out]; exact HBR.out), HB4⟩
          case measure => simp only [intOf]; have := HME.out; rw [HNX.out] at this; simpa using this
        · have HNX := Lib.hid (show nextP m = m + 1 by unfold nextP; rw [if_neg h126])
          have hcw : IntKind.u8.wrap ((m : Int) + 1) = (m : Int) + 1 := by unfold IntKind.wrap; simp [IntKind.signed, IntKind.bits]; omega
          have hmi : (m : Int) + 1 ≤ 126 := by omega
          have hcell : ((UInt8.ofNat (m + 1)).toNat : Int) = (m : Int) + 1 := by simp; omega
          go_wp2_with (at_builtin; refine wpList_br rfl _ _ 89 rfl (w.heap.size) _ (.slice (some ⟨wr.heap.size, 0, none⟩) 1 1) (runP a (n + 1)) [UInt8.ofNat (m + 1)] rfl rfl (hbr.out.alloc _) (src_cell (by rw [u8v, hcell]; simp)) (by rw [hrl.out]; simp; have := hst.out; omega) (by simp; omega) ?_; intro v' w4 hbr' hgrow; have HBR := Lib.hid hbr'; have HB4 := Lib.hid (((hb.out.alloc hsz _).grown hgrow (by simp; omega) hbr.out.own)); clear hbr' hgrow)
          go_roundw
          case rel => exact ⟨n + 1, m + 1, by first | rfl | go_num, by omega, by omega, by omega, Lib.hid (by rw [HIT.out, HNX.out]), Lib.hid (by rw [HSN.out, HIT.out, HNX.out]; exact HBR.out), HB4⟩
          case measure => simp only [intOf]; have := HME.out; rw [HNX.out] at this; simpa using this
set_option maxHeartbeats 4000000 in
theorem RXrange_any (c d : UInt8) (w : World) :
    Calls Tryd.prog 79 #[.int .u8 (c.toNat : Int), .int .u8 (d.toNat : Int)] w (GivesA w (xrangeR c d)) := by
  have KPc := fun (W : World) => Lib.hid (RPad_any (c.toNat : Int) W)
  have KPd := fun (W : World) => Lib.hid (RPad_any (d.toNat : Int) W)
  cases hv0 : padI (c.toNat : Int) with
  | false =>
    rw [hv0] at KPc
    have HR := Lib.hid (show xrangeR c d = ([], 1) by unfold xrangeR; simp only [hv0, Bool.and_false, Bool.false_and, Bool.true_and, Bool.and_true]; rfl)
    clear hv0
    go_enter Tryd.func79, Tryd.ntmps79
    go_wp2_with (first
      | (go_at_call 107; (with_reducible refine Calls.mono (KPc _).out ?_); rintro e w1 ⟨rfl, rfl⟩))
    refine bodyPost_ret (v := .agg #[.string ⟨#[]⟩, .int .i64 1]) (by simp [results, Tryd.results79, go_sem]) rfl ?_
    exact givesA HR.out rfl ((Below.refl _ w).alloc (Nat.le_refl _) _)
  | true =>
    rw [hv0] at KPc
    cases hv1 : padI (d.toNat : Int) with
    | false =>
      rw [hv1] at KPd
      have HR := Lib.hid (show xrangeR c d = ([], 1) by unfold xrangeR; simp only [hv0, hv1, Bool.and_false, Bool.false_and, Bool.true_and, Bool.and_true]; rfl)
      clear hv0 hv1
      go_enter Tryd.func79, Tryd.ntmps79
      go_wp2_with (first
        | (go_at_call 107; (with_reducible refine Calls.mono (KPc _).out ?_); rintro e w1 ⟨rfl, rfl⟩)
        | (go_at_call 107; (with_reducible refine Calls.mono (KPd _).out ?_); rintro e w1 ⟨rfl, rfl⟩))
      refine bodyPost_ret (v := .agg #[.string ⟨#[]⟩, .int .i64 1]) (by simp [results, Tryd.results79, go_sem]) rfl ?_
      exact givesA HR.out rfl ((Below.refl _ w).alloc (Nat.le_refl _) _)
    | true =>
      rw [hv1] at KPd
      obtain ⟨⟨rl, rk⟩, hrr⟩ : ∃ r, xrangeR c d = r := ⟨_, rfl⟩
      have HRR := Lib.hid hrr
      have HA := Lib.hid ((show 32 ≤ c.toNat ∧ c.toNat ≤ 126 by rw [padI_iff] at hv0; omega))
      have HDD := Lib.hid ((show 32 ≤ d.toNat ∧ d.toNat ≤ 126 by rw [padI_iff] at hv1; omega))
      have HR := Lib.hid (show outR (runP c.toNat (stepsP c.toNat d.toNat + 1)) = (rl, rk) by
        rw [← hrr, outR_ok (runP_clean HA.out.1 HA.out.2 _) (by rw [runP_length]; have := stepsP_le HA.out.1 HA.out.2 HDD.out.1 HDD.out.2; omega)]
        unfold xrangeR
        rw [hv0, hv1]
        rfl)
      clear hv0 hv1 hrr
      have HC1 := Lib.hid (show [c] = runP c.toNat 1 by simp [runP])
      have hbr0 := fun (W : World) (p : Nat) (hp : p = W.heap.size) (hW : w.heap.size + 1 ≤ W.heap.size) => br_one W p hp c (w.heap.size + 1) hW 5
      rw [HC1.out] at hbr0
      have HBR1 := fun W p hp hW => Lib.hid (hbr0 W p hp hW)
      obtain ⟨a, ha⟩ : ∃ a, a = c.toNat := ⟨_, rfl⟩
      obtain ⟨b, hb⟩ : ∃ b, b = d.toNat := ⟨_, rfl⟩
      rw [← ha, ← hb] at HR
      rw [← ha] at HA HBR1 KPc ⊢
      rw [← hb] at HDD KPd ⊢
      clear ha hb HC1 hbr0
      go_enter Tryd.func79, Tryd.ntmps79
      go_wp2_with (first
        | (go_at_call 107; (with_reducible refine Calls.mono (KPc _).out ?_); rintro e w1 ⟨rfl, rfl⟩)
        | (go_at_call 107; (with_reducible refine Calls.mono (KPd _).out ?_); rintro e w1 ⟨rfl, rfl⟩))
      go_loopw [5, 0] (fun v x wr => ∃ (n m : Nat), x = .int .u8 (m : Int) ∧ n ≤ stepsP a b ∧ 32 ≤ m ∧ m ≤ 126 ∧ Hid (m = itP a n) ∧ Hid (Br wr (w.heap.size + 1) v (runP a (n + 1))) ∧ Hid (SbB w wr)) (fun _ x _ => stepsP (intOf x).toNat b)
      case atStart => exact ⟨0, a, rfl, Nat.zero_le _, HA.out.1, HA.out.2, Lib.hid rfl, Lib.hid ((HBR1 (w.alloc _) _ (by simp) (by simp)).out), Lib.hid ((sbB_new w).step ((Below.refl _ _).alloc (Nat.le_refl _) _))⟩
      case round =>
        obtain ⟨n, m, rfl, hn, hm1, hm2, hm, hbr, hb⟩ := hrel
        by_cases hmd : m = b
        · have hns : n = stepsP a b := by
            by_cases e : n < stepsP a b
            · exact absurd hmd (by rw [hm.out]; exact itP_ne HA.out.1 HA.out.2 HDD.out.1 HDD.out.2 e)
            · omega
          have HNS := Lib.hid hns
          clear hns
          subst hmd
          have KO0 := Rout_any _ _ wr hbr.out.rd (by rw [runP_length]; have := stepsP_le HA.out.1 HA.out.2 HDD.out.1 HDD.out.2; omega)
          rw [HNS.out, HR.out] at KO0
          have KO := Lib.hid KO0
          clear KO0
          go_wp2_with (go_at_call 108; refine Calls.mono KO.out ?_; rintro e w8 ⟨t, rfl, ht, hb5⟩; have HB5 := Lib.hid (hb.out.step hb5); obtain ⟨p1, p2, f1, f2⟩ := HB5.out.facts; clear hb5)
          refine bodyPost_ret (v := .agg #[.string t, .int .i64 rk]) (by simp [results, Tryd.results79, go_sem, p1, p2]) rfl ?_
          rw [HRR.out]
          exact ⟨t, rfl, ht, HB5.out.fin _ _⟩
        · have hns : n < stepsP a b := by
            by_cases e : n < stepsP a b
            · exact e
            · exact absurd (by rw [hm.out, show n = stepsP a b by omega]; exact itP_end HA.out.1 HA.out.2 HDD.out.1 HDD.out.2) hmd
          have HME := Lib.hid (stepsP_next hm1 hm2 HDD.out.1 HDD.out.2 hmd)
          have HSN := Lib.hid (runP_snoc (n + 1) a)
          have HIT := Lib.hid (show itP a (n + 1) = nextP m by rw [hm.out]; rfl)
          have hrl := Lib.hid (runP_length (n + 1) a)
          have hst := Lib.hid (stepsP_le HA.out.1 HA.out.2 HDD.out.1 HDD.out.2)
          have hmdi : ¬ (m : Int) = (b : Int) := by omega
          have hsz : w.heap.size + 1 ≤ wr.heap.size := hb.out.le
          by_cases h126 : m = 126
          · have HNX := Lib.hid (show nextP m = 32 by unfold nextP; rw [if_pos h126])
            have hmi : (m : Int) + 1 = 127 := by omega
            have hcw : IntKind.u8.wrap ((m : Int) + 1) = (m : Int) + 1 := by unfold IntKind.wrap; simp [IntKind.signed, IntKind.bits]; omega
            go_wp2_with (at_builtin; refine wpList_br rfl _ _ 89 rfl (w.heap.size + 1) _ (.slice (some ⟨wr.heap.size, 0, none⟩) 1 1) (runP a (n + 1)) [UInt8.ofNat 32] rfl rfl (hbr.out.alloc _) (src_cell (by simp [u8v])) (by rw [hrl.out]; simp; have := hst.out; omega) (by simp; omega) ?_; intro v' w4 hbr' hgrow; have HBR := Lib.hid hbr'; have HB4 := Lib.hid (SbB.grown (W := wr.alloc _) (hb.out.step ((Below.refl _ wr).alloc (Nat.le_refl _) _)) hgrow hbr.out.own); clear hbr' hgrow)
            go_roundw
            case rel => exact ⟨n + 1, 32, rfl, by omega, by omega, by omega, Lib.hid (by rw [HIT.out, HNX.out]), Lib.hid (by rw [HSN.out, HIT.out, HNX.out]; exact HBR.out), HB4⟩
            case measure => simp only [intOf]; have := HME.out; rw [HNX.out] at this; simpa using this
          · have HNX := Lib.hid (show nextP m = m + 1 by unfold nextP; rw [if_neg h126])
            have hcw : IntKind.u8.wrap ((m : Int) + 1) = (m : Int) + 1 := by unfold IntKind.wrap; simp [IntKind.signed, IntKind.bits]; omega
            have hmi : (m : Int) + 1 ≤ 126 := by omega
            have hcell : ((UInt8.ofNat (m + 1)).toNat : Int) = (m : Int) + 1 := by simp; omega
            go_wp2_with (at_builtin; refine wpList_br rfl _ _ 89 rfl (w.heap.size + 1) _ (.slice (some ⟨wr.heap.size, 0, none⟩) 1 1) (runP a (n + 1)) [UInt8.ofNat (m + 1)] rfl rfl (hbr.out.alloc _) (src_cell (by rw [u8v, hcell]; simp)) (by rw [hrl.out]; simp; have := hst.out; omega) (by simp; omega) ?_; intro v' w4 hbr' hgrow; have HBR := Lib.hid hbr'; have HB4 := Lib.hid (SbB.grown (W := wr.alloc _) (hb.out.step ((Below.refl _ wr).alloc (Nat.le_refl _) _)) hgrow hbr.out.own); clear hbr' hgrow)
            go_roundw
            case rel => exact ⟨n + 1, m + 1, by first | rfl | go_num, by omega, by omega, by omega, Lib.hid (by rw [HIT.out, HNX.out]), Lib.hid (by rw [HSN.out, HIT.out, HNX.out]; exact HBR.out), HB4⟩
            case measure => simp only [intOf]; have := HME.out; rw [HNX.out] at this; simpa using this
end Go.Proofs.YtoilgjlbpimcpaaDoor
