/- Translate. -/
import Derived.Test.YtoilgjlbpimcpaaDoorTq
import Derived.Test.YtoilgjlbpimcpaaDoorTs
namespace Go.Proofs.YtoilgjlbpimcpaaDoor
open Go.RowKit Go.Shelf Tx
set_option linter.unusedVariables false
set_option maxRecDepth 100000

namespace Tx
/-- What replaces a byte: the byte at its first place from j on. -/
def trT : List UInt8 → List UInt8 → UInt8 → UInt8
  | a :: inn, b :: out, x => if a = x then b else trT inn out x
  | _, _, x => x
def translateR (l out inn : List UInt8) (p : Int) : Res :=
  guardR (validL l && validL out && validL inn && padI p) (l.map (trT inn (fitL out inn.length (pb p))), 0)
theorem trT_step {inn out : List UInt8} {j : Nat} {a b : UInt8} (ha : inn[j]? = some a) (hb : out[j]? = some b) (x : UInt8) : trT (inn.drop j) (out.drop j) x = if a = x then b else trT (inn.drop (j + 1)) (out.drop (j + 1)) x := by
  have h1 := (List.getElem?_eq_some_iff.1 ha)
  have h2 := (List.getElem?_eq_some_iff.1 hb)
  rw [List.drop_eq_getElem_cons h1.1, List.drop_eq_getElem_cons h2.1, h1.2, h2.2]
  rfl
end Tx

set_option maxHeartbeats 400000 in
theorem replace_any (B : Nat) (x y : UInt8) (w : World) (hc : w.cell? ⟨B, x.toNat, none⟩ = some (.int .u8 (y.toNat : Int))) :
    Calls Tryd.prog 143 #[.pointer (some ⟨B, 0, none⟩), .int .u8 (x.toNat : Int)] w fun e w' => e = .returned (.int .u8 (y.toNat : Int)) ∧ w = w' := by
  have hx := x.toNat_lt
  obtain ⟨n, hn⟩ : ∃ n, n = x.toNat := ⟨_, rfl⟩
  rw [← hn] at hc hx ⊢
  clear hn
  go_enter Tryd.func143, Tryd.ntmps143
  go_wp2
  go_ret
  exact ⟨rfl, rfl⟩

theorem tab_row {w : World} {B : Nat} {c : Array Value} (hT : IsTab c (fun i => i)) (h : w.heap[B]? = some (.cells c 141 (0, 0))) : w.rowIs B 141 256 (fun i => .int .u8 (i : Int)) := ⟨c, h, hT.1, hT.2⟩
set_option maxHeartbeats 2000000 in
theorem Translate_any (s u i : ByteArray) (x : Int) (w : World) (hss : s.size ≤ maxLen) (hsu : u.size ≤ maxLen) (hsi : i.size ≤ maxLen) (hx0 : 0 ≤ x) (hx1 : x < 256) :
    Calls Tryd.prog 74 #[.string s, .string u, .string i, .int .u8 x] w (GivesS w (translateR (bts s) (bts u) (bts i) x)) := by
  have KVsui := fun (W : World) (pp : Nat) (hp : pp < W.heap.size) (hc : At W pp [.string s, .string u, .string i]) => Lib.hid (areValid3 pp s u i W hss hsu hsi hp hc)
  have KPx := fun (W : World) (pp : Nat) (hc : W.cell? ⟨pp, 0, none⟩ = some (.int .u8 x)) => Lib.hid (arePads1 pp x W hc)
  cases hv0 : validL (bts s) && validL (bts u) && validL (bts i) with
  | false =>
    rw [hv0] at KVsui
    have HR := Lib.hid (show translateR (bts s) (bts u) (bts i) x = ([], 1) by unfold translateR guardR; simp only [hv0, Bool.and_false, Bool.false_and, Bool.true_and, Bool.and_true]; rfl)
    clear hv0
    go_enter Tryd.func74, Tryd.ntmps74
    go_wp2_with (first
      | (go_at_call 99; refine Calls.mono (KVsui _ _ (by simp) (At.new3 _ _ _ _ _)).out ?_; rintro e w1 ⟨rfl, hb1⟩; have B1 : Below w.heap.size w w1 := Bl.step (by repeat (first | assumption | exact Below.refl _ _ | refine Bl.alloc ?_ _ | refine Bl.drew ?_)) hb1))
    go_ret2
    exact givesS HR.out rfl (by repeat (first | assumption | exact Below.refl _ _ | refine Bl.alloc ?_ _ | refine Bl.drew ?_))
  | true =>
    rw [hv0] at KVsui
    cases hv1 : padI x with
    | false =>
      rw [hv1] at KPx
      have HR := Lib.hid (show translateR (bts s) (bts u) (bts i) x = ([], 1) by unfold translateR guardR; simp only [hv0, hv1, Bool.and_false, Bool.false_and, Bool.true_and, Bool.and_true]; rfl)
      clear hv0 hv1
      go_enter Tryd.func74, Tryd.ntmps74
      go_wp2_with (first
        | (go_at_call 99; refine Calls.mono (KVsui _ _ (by simp) (At.new3 _ _ _ _ _)).out ?_; rintro e w1 ⟨rfl, hb1⟩; have B1 : Below w.heap.size w w1 := Bl.step (by repeat (first | assumption | exact Below.refl _ _ | refine Bl.alloc ?_ _ | refine Bl.drew ?_)) hb1)
        | (go_at_call 105; refine Calls.mono (KPx _ _ (cellAt (by simp))).out ?_; rintro e w2 ⟨rfl, rfl⟩))
      go_ret2
      exact givesS HR.out rfl (by repeat (first | assumption | exact Below.refl _ _ | refine Bl.alloc ?_ _ | refine Bl.drew ?_))
    | true =>
      rw [hv1] at KPx
      have hv0' := hv0
      rw [Bool.and_eq_true, Bool.and_eq_true] at hv0'
      have hlen := valid_le hv0'.1.1
      have hlen2 := valid_le hv0'.1.2
      have hlen3 := valid_le hv0'.2
      have HR := Lib.hid (show translateR (bts s) (bts u) (bts i) x = ((bts s).map (trT (bts i) (fitL (bts u) i.size (pb x))), 0) by unfold translateR guardR; rw [hv0, hv1, bts_length]; rfl)
      have KF := fun W => Lib.hid (fitted_any u i.size x W (by omega) (by omega) hx0 hx1)
      have hz := zeroTab
      clear hv0 hv1 hv0'
      go_enter Tryd.func74, Tryd.ntmps74
      go_wp2_with (first
        | (go_at_call 99; refine Calls.mono (KVsui _ _ (by simp) (At.new3 _ _ _ _ _)).out ?_; rintro e w1 ⟨rfl, hb1⟩; have B1 : Below w.heap.size w w1 := Bl.step (by repeat (first | assumption | exact Below.refl _ _ | refine Bl.alloc ?_ _ | refine Bl.drew ?_)) hb1)
        | (go_at_call 105; refine Calls.mono (KPx _ _ (cellAt (by simp))).out ?_; rintro e w2 ⟨rfl, rfl⟩)
        | (go_at_call 141; refine Calls.mono (sameTable_any _) ?_; rintro e w4 ⟨c0, rfl, hT, hb4⟩; have B4 : Below w.heap.size w w4 := Bl.step (by repeat (first | assumption | exact Below.refl _ _ | refine Bl.alloc ?_ _ | refine Bl.drew ?_)) hb4; have HT := Lib.hid hT; have hTs := hT.1; have hTo := hT.one; have hi1 : (Tryd.prog.info? 141).map (·.size) = some c0.size := (by rw [hTs]; exact infoTab); have HTS := Lib.hid hTs; clear hT hTs)
        | (refine wpList_store_row rfl 141 _ _ rfl w4.heap.size c0 rfl rfl 141 (Array.replicate 256 (.int .u8 0)) (World.alloc_heap_new _ _) hi1 (by rw [HTS.out]; simp) hTo ?_)
        | (go_at_call 114; refine Calls.mono (KF _).out ?_; rintro e w6 ⟨t, rfl, ht, hb6⟩; have hts := size_of_bts ht.out; have ht1 : t.size ≤ i.size := (by rw [fitL_length] at hts; omega); have ht2 : i.size ≤ t.size := (by rw [fitL_length] at hts; omega); clear hts; have HROW := Lib.hid (tab_row (B := w4.heap.size) HT.out (by rw [hb6.block _ (by simp [World.setRow])]; exact setRow_heap _ _ _ _ _ _ (World.alloc_heap_new _ _))); have HB6 := Lib.hid (Bl.step (a := w) (below_setRow (Bl.alloc B4 _) B4.size c0) hb6); have hB4 := B4.size; clear hb6 HT HTS hTo hi1 hz KF))
      go_loopw [11] (fun v wr => ∃ n : Int, v = .int .i64 n ∧ -1 ≤ n ∧ n < i.size ∧ Hid (wr.rowIs w4.heap.size 141 256 (fun c => .int .u8 ((trT ((bts i).drop (n + 1).toNat) ((bts t).drop (n + 1).toNat) c.toUInt8).toNat : Int))) ∧ Hid (Below w.heap.size w wr)) (fun v _ => (intOf v + 1).toNat)
      case atStart =>
        refine ⟨(i.size : Int) - 1, rfl, by omega, by omega, Lib.hid (HROW.out.congr (fun c hc => ?_)), HB6⟩
        rw [show (bts i).drop ((i.size : Int) - 1 + 1).toNat = [] from List.drop_eq_nil_of_le (by rw [bts_length]; omega)]
        simp only [trT, Value.int.injEq, true_and]
        rw [show c.toUInt8.toNat = c by simp [Nat.toUInt8]; omega]
      case round =>
        obtain ⟨n, rfl, hn1, hn2, hrow, hb⟩ := hrel
        by_cases hlt : 0 ≤ n
        · obtain ⟨k, rfl⟩ := Int.eq_ofNat_of_zero_le hlt
          have hki : k < i.size := by omega
          have hkt : k < t.size := by omega
          have g1 := bts_get i hki
          have g2 := bts_get t hkt
          have e1 : ((k : Int) + 1).toNat = k + 1 := by omega
          rw [e1] at hrow
          have hx := (i[k]).toNat_lt
          obtain ⟨old, c1⟩ : ∃ old, wr.cell? ⟨w4.heap.size, (i[k]).toNat, none⟩ = some old := ⟨_, hrow.out.cell hx⟩
          have c2 := hrow.out.frozen (i[k]).toNat
          have hx' : ((i[k].toNat : Nat) : Int) < 256 := by omega
          have HS := Lib.hid (fun x => trT_step g1 g2 x)
          have HX := Lib.hid hx
          clear g1 g2 e1 hx
          go_wp2
          go_region
          go_wp2
          go_roundw
          case rel =>
            refine ⟨(k : Int) - 1, rfl, by omega, by omega, Lib.hid ((hrow.out.set _ _).congr (fun c hc => ?_)), Lib.hid (hb.out.drew.setCell (p := ⟨w4.heap.size, (i[k]).toNat, none⟩) hB4 _)⟩
            rw [show ((k : Int) - 1 + 1).toNat = k by omega, HS.out]
            have hcc : c.toUInt8.toNat = c := by first | (simp [Nat.toUInt8]; done) | (simp [Nat.toUInt8]; omega)
            by_cases e : c = (i[k]).toNat
            · have e2 : i[k] = c.toUInt8 := UInt8.toNat_inj.1 (by rw [hcc]; exact e.symm)
              rw [if_pos e, if_pos e2]
            · have e2 : ¬ i[k] = c.toUInt8 := fun h => e (by rw [h, hcc])
              rw [if_neg e, if_neg e2]
          case measure => simp [intOf]
        · obtain rfl : n = -1 := by omega
          have KRP := Lib.hid (replacedT_any w4.heap.size (trT (bts i) (bts t)) s wr (by omega) (fun c W hW => replace_any w4.heap.size c _ W (by
            have := hrow.out.cell (i := c.toNat) c.toNat_lt
            rw [show c.toNat.toUInt8 = c by simp] at this
            exact (hW.cell (p := ⟨w4.heap.size, c.toNat, none⟩) hrow.out.lt).trans (by simpa using this))))
          go_wp2_with (go_at_call 142; refine Calls.mono KRP.out ?_; rintro e w8 ⟨t8, rfl, ht8, hb8⟩)
          go_ret2
          exact givesS HR.out (by rw [ht8.out, ht.out]) (Bl.step hb.out hb8)
end Go.Proofs.YtoilgjlbpimcpaaDoor
