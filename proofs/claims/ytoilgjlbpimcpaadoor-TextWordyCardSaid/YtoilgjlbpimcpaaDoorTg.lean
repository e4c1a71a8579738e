/- Substr, DelStr, Insert, Overlay. -/
import Derived.Test.YtoilgjlbpimcpaaDoorTf
namespace Go.Proofs.YtoilgjlbpimcpaaDoor
open Go.RowKit Tx
set_option linter.unusedVariables false
set_option maxRecDepth 100000

theorem Bl.step {a w w1 : World} (h : Below a.heap.size a w) (hb : Below w.heap.size w w1) : Below a.heap.size a w1 := h.trans (hb.mono h.size)
theorem Bl.alloc {a w : World} (h : Below a.heap.size a w) (o : Obj) : Below a.heap.size a (w.alloc o) := Below.alloc h h.size o
theorem Bl.drew {a w : World} (h : Below a.heap.size a w) : Below a.heap.size a w.drew := Below.drew h

theorem at2 {w : World} {p : Nat} {u v : Value} {t : TypeId} (h : p = w.heap.size) : At (w.alloc (.cells #[u, v] t)) p [u, v] := by subst h; exact At.new2 _ _ _ _
theorem areValid1 (p : Nat) (s : ByteArray) (w : World) (hs : s.size ≤ maxLen) (hp : p < w.heap.size) (hc : At w p [.string s]) :
    Calls Tryd.prog 99 #[.slice (some ⟨p, 0, none⟩) 1 1] w fun e w' => e = .returned (.bool (validL (bts s))) ∧ Below w.heap.size w w' :=
  (areValid_any p [s] w (by simp) (by simpa using hs) hp hc).mono fun e w' ⟨h, hw⟩ => ⟨by rw [h]; simp, hw⟩
theorem areValid2 (p : Nat) (s t : ByteArray) (w : World) (hs : s.size ≤ maxLen) (ht : t.size ≤ maxLen) (hp : p < w.heap.size) (hc : At w p [.string s, .string t]) :
    Calls Tryd.prog 99 #[.slice (some ⟨p, 0, none⟩) 2 2] w fun e w' => e = .returned (.bool (validL (bts s) && validL (bts t))) ∧ Below w.heap.size w w' :=
  (areValid_any p [s, t] w (by simp) (by simp [hs, ht]) hp hc).mono fun e w' ⟨h, hw⟩ => ⟨by rw [h]; simp, hw⟩
theorem areValid3 (p : Nat) (s t u : ByteArray) (w : World) (hs : s.size ≤ maxLen) (ht : t.size ≤ maxLen) (hu : u.size ≤ maxLen) (hp : p < w.heap.size) (hc : At w p [.string s, .string t, .string u]) :
    Calls Tryd.prog 99 #[.slice (some ⟨p, 0, none⟩) 3 3] w fun e w' => e = .returned (.bool (validL (bts s) && validL (bts t) && validL (bts u))) ∧ Below w.heap.size w w' :=
  (areValid_any p [s, t, u] w (by simp) (by simp [hs, ht, hu]) hp hc).mono fun e w' ⟨h, hw⟩ => ⟨by rw [h]; simp [Bool.and_assoc], hw⟩
theorem valid_le {s : ByteArray} (h : validL (bts s) = true) : s.size ≤ 1000 := by
  unfold validL at h
  rw [Bool.and_eq_true, decide_eq_true_eq, bts_length] at h
  exact h.1
theorem valid_clean {l : List UInt8} (h : validL l = true) : cleanL l = true := by
  unfold validL at h
  rw [Bool.and_eq_true] at h
  exact h.2

namespace Tx
def guardR (b : Bool) (r : Res) : Res := if b then r else ([], 1)
/-- The results of the functions on parts of strings. -/
def substrR (l : List UInt8) (n m p : Int) : Res :=
  guardR (validL l && padI p && decide (1 ≤ n) && (decide (m = -1) || decide (0 ≤ m)))
    (if m = -1 then (l.drop (n - 1).toNat, 0) else if 1000 < m then ([], 3) else (fitL (l.drop (n - 1).toNat) m.toNat (pb p), 0))
def delStrR (l : List UInt8) (n m : Int) : Res :=
  guardR (validL l && decide (1 ≤ n) && (decide (m = -1) || decide (0 ≤ m)))
    (if m = -1 then (l.take (n - 1).toNat, 0) else (l.take (n - 1).toNat ++ (l.drop (n - 1).toNat).drop m.toNat, 0))
def insertB (p l : List UInt8) (n m : Nat) (x : UInt8) : Res :=
  if 1000 < max n l.length + m then ([], 3) else (fitL l n x ++ fitL p m x ++ l.drop n, 0)
def insertR (p l : List UInt8) (n m x : Int) : Res :=
  guardR (validL p && validL l && padI x && decide (0 ≤ n) && (decide (m = -1) || decide (0 ≤ m)))
    (insertB p l n.toNat (if m = -1 then p.length else m.toNat) (pb x))
def overlayB (p l : List UInt8) (n m : Nat) (x : UInt8) : Res :=
  if 1000 < n + m then ([], 3) else (fitL l n x ++ fitL p m x ++ l.drop (n + m), 0)
def overlayR (p l : List UInt8) (n m x : Int) : Res :=
  guardR (validL p && validL l && padI x && decide (1 ≤ n) && (decide (m = -1) || decide (0 ≤ m)))
    (overlayB p l (n - 1).toNat (if m = -1 then p.length else m.toNat) (pb x))
end Tx

set_option maxHeartbeats 2000000 in
theorem Substr_any (s : ByteArray) (n m x : Int) (w : World) (hss : s.size ≤ maxLen) (hn : n ≤ 9223372036854775807) (hx0 : 0 ≤ x) (hx1 : x < 256) :
    Calls Tryd.prog 33 #[.string s, .int .i64 n, .int .i64 m, .int .u8 x] w (GivesS w (substrR (bts s) n m x)) := by
  have KVs := fun (W : World) (pp : Nat) (hp : pp < W.heap.size) (hc : At W pp [.string s]) => Lib.hid (areValid1 pp s W hss hp hc)
  have KPx := fun (W : World) (pp : Nat) (hc : W.cell? ⟨pp, 0, none⟩ = some (.int .u8 x)) => Lib.hid (arePads1 pp x W hc)
  have KAn := fun (W : World) (pp : Nat) (hc : W.cell? ⟨pp, 0, none⟩ = some (.int .i64 n)) => Lib.hid (areAtLeast1 pp 1 n W hc)
  have KMm := fun (W : World) => Lib.hid (isMissingOr_any 0 m W)
  cases hv0 : validL (bts s) with
  | false =>
    rw [hv0] at KVs
    have HR := Lib.hid (show substrR (bts s) n m x = ([], 1) by unfold substrR guardR; simp only [hv0, Bool.and_false, Bool.false_and, Bool.true_and, Bool.and_true]; rfl)
    clear hv0
    go_enter Tryd.func33, Tryd.ntmps33
    go_wp2_with (first
      | (go_at_call 99; refine Calls.mono (KVs _ _ (by simp) (At.new1 _ _ _)).out ?_; rintro e w1 ⟨rfl, hb1⟩; have B1 : Below w.heap.size w w1 := Bl.step (by repeat (first | assumption | exact Below.refl _ _ | refine Bl.alloc ?_ _ | refine Bl.drew ?_)) hb1))
    go_ret2
    exact givesS HR.out rfl (by repeat (first | assumption | exact Below.refl _ _ | refine Bl.alloc ?_ _ | refine Bl.drew ?_))
  | true =>
    rw [hv0] at KVs
    cases hv1 : padI x with
    | false =>
      rw [hv1] at KPx
      have HR := Lib.hid (show substrR (bts s) n m x = ([], 1) by unfold substrR guardR; simp only [hv0, hv1, Bool.and_false, Bool.false_and, Bool.true_and, Bool.and_true]; rfl)
      clear hv0 hv1
      go_enter Tryd.func33, Tryd.ntmps33
      go_wp2_with (first
        | (go_at_call 99; refine Calls.mono (KVs _ _ (by simp) (At.new1 _ _ _)).out ?_; rintro e w1 ⟨rfl, hb1⟩; have B1 : Below w.heap.size w w1 := Bl.step (by repeat (first | assumption | exact Below.refl _ _ | refine Bl.alloc ?_ _ | refine Bl.drew ?_)) hb1)
        | (go_at_call 105; refine Calls.mono (KPx _ _ (cellAt (by simp))).out ?_; rintro e w2 ⟨rfl, rfl⟩))
      go_ret2
      exact givesS HR.out rfl (by repeat (first | assumption | exact Below.refl _ _ | refine Bl.alloc ?_ _ | refine Bl.drew ?_))
    | true =>
      rw [hv1] at KPx
      cases hv2 : decide (1 ≤ n) with
      | false =>
        rw [hv2] at KAn
        have HR := Lib.hid (show substrR (bts s) n m x = ([], 1) by unfold substrR guardR; simp only [hv0, hv1, hv2, Bool.and_false, Bool.false_and, Bool.true_and, Bool.and_true]; rfl)
        clear hv0 hv1 hv2
        go_enter Tryd.func33, Tryd.ntmps33
        go_wp2_with (first
          | (go_at_call 99; refine Calls.mono (KVs _ _ (by simp) (At.new1 _ _ _)).out ?_; rintro e w1 ⟨rfl, hb1⟩; have B1 : Below w.heap.size w w1 := Bl.step (by repeat (first | assumption | exact Below.refl _ _ | refine Bl.alloc ?_ _ | refine Bl.drew ?_)) hb1)
          | (go_at_call 105; refine Calls.mono (KPx _ _ (cellAt (by simp))).out ?_; rintro e w2 ⟨rfl, rfl⟩)
          | (go_at_call 100; refine Calls.mono (KAn _ _ (cellAt (by simp))).out ?_; rintro e w2 ⟨rfl, rfl⟩))
        go_ret2
        exact givesS HR.out rfl (by repeat (first | assumption | exact Below.refl _ _ | refine Bl.alloc ?_ _ | refine Bl.drew ?_))
      | true =>
        rw [hv2] at KAn
        cases hv3 : (decide (m = -1) || decide (0 ≤ m)) with
        | false =>
          rw [hv3] at KMm
          have HR := Lib.hid (show substrR (bts s) n m x = ([], 1) by unfold substrR guardR; simp only [hv0, hv1, hv2, hv3, Bool.and_false, Bool.false_and, Bool.true_and, Bool.and_true]; rfl)
          clear hv0 hv1 hv2 hv3
          go_enter Tryd.func33, Tryd.ntmps33
          go_wp2_with (first
            | (go_at_call 99; refine Calls.mono (KVs _ _ (by simp) (At.new1 _ _ _)).out ?_; rintro e w1 ⟨rfl, hb1⟩; have B1 : Below w.heap.size w w1 := Bl.step (by repeat (first | assumption | exact Below.refl _ _ | refine Bl.alloc ?_ _ | refine Bl.drew ?_)) hb1)
            | (go_at_call 105; refine Calls.mono (KPx _ _ (cellAt (by simp))).out ?_; rintro e w2 ⟨rfl, rfl⟩)
            | (go_at_call 100; refine Calls.mono (KAn _ _ (cellAt (by simp))).out ?_; rintro e w2 ⟨rfl, rfl⟩)
            | (go_at_call 112; refine Calls.mono (KMm _).out ?_; rintro e w3 ⟨rfl, hb3⟩; have B3 : Below w.heap.size w w3 := Bl.step (by repeat (first | assumption | exact Below.refl _ _ | refine Bl.alloc ?_ _ | refine Bl.drew ?_)) hb3))
          go_ret2
          exact givesS HR.out rfl (by repeat (first | assumption | exact Below.refl _ _ | refine Bl.alloc ?_ _ | refine Bl.drew ?_))
        | true =>
          rw [hv3] at KMm
          have hlen := valid_le hv0
          have h1 := of_decide_eq_true hv2
          obtain ⟨k, rfl⟩ : ∃ k : Nat, n = (k : Int) + 1 := ⟨(n - 1).toNat, by omega⟩
          have hk : ((k : Int) + 1 - 1).toNat = k := by omega
          have KAF := fun W => Lib.hid (after_any s k W hss)
          by_cases hm : m = -1
          · subst hm
            have HR := Lib.hid (show substrR (bts s) ((k : Int) + 1) (-1) x = ((bts s).drop k, 0) by unfold substrR guardR; rw [hv0, hv1, hv2, hk]; simp)
            clear hv0 hv1 hv2 hv3 hk
            go_enter Tryd.func33, Tryd.ntmps33
            go_wp2_with (first
              | (go_at_call 99; refine Calls.mono (KVs _ _ (by simp) (At.new1 _ _ _)).out ?_; rintro e w1 ⟨rfl, hb1⟩; have B1 : Below w.heap.size w w1 := Bl.step (by repeat (first | assumption | exact Below.refl _ _ | refine Bl.alloc ?_ _ | refine Bl.drew ?_)) hb1)
              | (go_at_call 105; refine Calls.mono (KPx _ _ (cellAt (by simp))).out ?_; rintro e w2 ⟨rfl, rfl⟩)
              | (go_at_call 100; refine Calls.mono (KAn _ _ (cellAt (by simp))).out ?_; rintro e w2 ⟨rfl, rfl⟩)
              | (go_at_call 112; refine Calls.mono (KMm _).out ?_; rintro e w3 ⟨rfl, hb3⟩; have B3 : Below w.heap.size w w3 := Bl.step (by repeat (first | assumption | exact Below.refl _ _ | refine Bl.alloc ?_ _ | refine Bl.drew ?_)) hb3)
              | (go_at_call 113; refine Calls.mono (KAF _).out ?_; rintro e w4 ⟨t, rfl, ht, rfl⟩))
            go_ret2
            exact givesS HR.out ht.out (by repeat (first | assumption | exact Below.refl _ _ | refine Bl.alloc ?_ _ | refine Bl.drew ?_))
          · have h0 : 0 ≤ m := by
              rw [decide_eq_false hm, Bool.false_or] at hv3
              exact of_decide_eq_true hv3
            have hmb : (m == -1) = false := by simpa using hm
            have KT := fun (W : World) (p : Nat) (hc : W.cell? ⟨p, 0, none⟩ = some (.int .i64 m)) => Lib.hid (isTooLong1 p m W h0 hc)
            by_cases hl : 1000 < m
            · have HR := Lib.hid (show substrR (bts s) ((k : Int) + 1) m x = ([], 3) by unfold substrR guardR; rw [hv0, hv1, hv2, hv3]; simp [hm, hl])
              rw [decide_eq_true hl] at KT
              clear hv0 hv1 hv2 hv3 hk hm
              go_enter Tryd.func33, Tryd.ntmps33
              go_wp2_with (first
                | (go_at_call 99; refine Calls.mono (KVs _ _ (by simp) (At.new1 _ _ _)).out ?_; rintro e w1 ⟨rfl, hb1⟩; have B1 : Below w.heap.size w w1 := Bl.step (by repeat (first | assumption | exact Below.refl _ _ | refine Bl.alloc ?_ _ | refine Bl.drew ?_)) hb1)
                | (go_at_call 105; refine Calls.mono (KPx _ _ (cellAt (by simp))).out ?_; rintro e w2 ⟨rfl, rfl⟩)
                | (go_at_call 100; refine Calls.mono (KAn _ _ (cellAt (by simp))).out ?_; rintro e w2 ⟨rfl, rfl⟩)
                | (go_at_call 112; refine Calls.mono (KMm _).out ?_; rintro e w3 ⟨rfl, hb3⟩; have B3 : Below w.heap.size w w3 := Bl.step (by repeat (first | assumption | exact Below.refl _ _ | refine Bl.alloc ?_ _ | refine Bl.drew ?_)) hb3)
                | (go_at_call 113; refine Calls.mono (KAF _).out ?_; rintro e w4 ⟨t, rfl, ht, rfl⟩)
                | (go_at_call 101; refine Calls.mono (KT _ _ (cellAt (by simp))).out ?_; rintro e w5 ⟨rfl, rfl⟩))
              go_ret2
              exact givesS HR.out rfl (by repeat (first | assumption | exact Below.refl _ _ | refine Bl.alloc ?_ _ | refine Bl.drew ?_))
            · have HR := Lib.hid (show substrR (bts s) ((k : Int) + 1) m x = (fitL ((bts s).drop k) m.toNat (pb x), 0) by unfold substrR guardR; rw [hv0, hv1, hv2, hv3, hk]; simp [hm, hl])
              rw [decide_eq_false hl] at KT
              obtain ⟨j, rfl⟩ := Int.eq_ofNat_of_zero_le h0
              have KF := fun t (ht : t.size ≤ 1000000) W => Lib.hid (fitted_any t j x W ht (by omega) hx0 hx1)
              clear hv0 hv1 hv2 hv3 hk hm
              go_enter Tryd.func33, Tryd.ntmps33
              go_wp2_with (first
                | (go_at_call 99; refine Calls.mono (KVs _ _ (by simp) (At.new1 _ _ _)).out ?_; rintro e w1 ⟨rfl, hb1⟩; have B1 : Below w.heap.size w w1 := Bl.step (by repeat (first | assumption | exact Below.refl _ _ | refine Bl.alloc ?_ _ | refine Bl.drew ?_)) hb1)
                | (go_at_call 105; refine Calls.mono (KPx _ _ (cellAt (by simp))).out ?_; rintro e w2 ⟨rfl, rfl⟩)
                | (go_at_call 100; refine Calls.mono (KAn _ _ (cellAt (by simp))).out ?_; rintro e w2 ⟨rfl, rfl⟩)
                | (go_at_call 112; refine Calls.mono (KMm _).out ?_; rintro e w3 ⟨rfl, hb3⟩; have B3 : Below w.heap.size w w3 := Bl.step (by repeat (first | assumption | exact Below.refl _ _ | refine Bl.alloc ?_ _ | refine Bl.drew ?_)) hb3)
                | (go_at_call 113; refine Calls.mono (KAF _).out ?_; rintro e w4 ⟨t, rfl, ht, rfl⟩; have hts : t.size ≤ 1000000 := (by have := size_of_bts ht.out; rw [List.length_drop, bts_length] at this; omega))
                | (go_at_call 101; refine Calls.mono (KT _ _ (cellAt (by simp))).out ?_; rintro e w5 ⟨rfl, rfl⟩)
                | (go_at_call 114; refine Calls.mono (KF _ hts _).out ?_; rintro e w6 ⟨t2, rfl, ht2, hb6⟩; have B6 : Below w.heap.size w w6 := Bl.step (by repeat (first | assumption | exact Below.refl _ _ | refine Bl.alloc ?_ _ | refine Bl.drew ?_)) hb6))
              go_ret2
              exact givesS HR.out (by rw [ht2.out, ht.out]; simp) (by repeat (first | assumption | exact Below.refl _ _ | refine Bl.alloc ?_ _ | refine Bl.drew ?_))
set_option maxHeartbeats 2000000 in
theorem DelStr_any (s : ByteArray) (n m : Int) (w : World) (hss : s.size ≤ maxLen) (hn : n ≤ 9223372036854775807) :
    Calls Tryd.prog 34 #[.string s, .int .i64 n, .int .i64 m] w (GivesS w (delStrR (bts s) n m)) := by
  have KVs := fun (W : World) (pp : Nat) (hp : pp < W.heap.size) (hc : At W pp [.string s]) => Lib.hid (areValid1 pp s W hss hp hc)
  have KAn := fun (W : World) (pp : Nat) (hc : W.cell? ⟨pp, 0, none⟩ = some (.int .i64 n)) => Lib.hid (areAtLeast1 pp 1 n W hc)
  have KMm := fun (W : World) => Lib.hid (isMissingOr_any 0 m W)
  cases hv0 : validL (bts s) with
  | false =>
    rw [hv0] at KVs
    have HR := Lib.hid (show delStrR (bts s) n m = ([], 1) by unfold delStrR guardR; simp only [hv0, Bool.and_false, Bool.false_and, Bool.true_and, Bool.and_true]; rfl)
    clear hv0
    go_enter Tryd.func34, Tryd.ntmps34
    go_wp2_with (first
      | (go_at_call 99; refine Calls.mono (KVs _ _ (by simp) (At.new1 _ _ _)).out ?_; rintro e w1 ⟨rfl, hb1⟩; have B1 : Below w.heap.size w w1 := Bl.step (by repeat (first | assumption | exact Below.refl _ _ | refine Bl.alloc ?_ _ | refine Bl.drew ?_)) hb1))
    go_ret2
    exact givesS HR.out rfl (by repeat (first | assumption | exact Below.refl _ _ | refine Bl.alloc ?_ _ | refine Bl.drew ?_))
  | true =>
    rw [hv0] at KVs
    cases hv1 : decide (1 ≤ n) with
    | false =>
      rw [hv1] at KAn
      have HR := Lib.hid (show delStrR (bts s) n m = ([], 1) by unfold delStrR guardR; simp only [hv0, hv1, Bool.and_false, Bool.false_and, Bool.true_and, Bool.and_true]; rfl)
      clear hv0 hv1
      go_enter Tryd.func34, Tryd.ntmps34
      go_wp2_with (first
        | (go_at_call 99; refine Calls.mono (KVs _ _ (by simp) (At.new1 _ _ _)).out ?_; rintro e w1 ⟨rfl, hb1⟩; have B1 : Below w.heap.size w w1 := Bl.step (by repeat (first | assumption | exact Below.refl _ _ | refine Bl.alloc ?_ _ | refine Bl.drew ?_)) hb1)
        | (go_at_call 100; refine Calls.mono (KAn _ _ (cellAt (by simp))).out ?_; rintro e w2 ⟨rfl, rfl⟩))
      go_ret2
      exact givesS HR.out rfl (by repeat (first | assumption | exact Below.refl _ _ | refine Bl.alloc ?_ _ | refine Bl.drew ?_))
    | true =>
      rw [hv1] at KAn
      cases hv2 : (decide (m = -1) || decide (0 ≤ m)) with
      | false =>
        rw [hv2] at KMm
        have HR := Lib.hid (show delStrR (bts s) n m = ([], 1) by unfold delStrR guardR; simp only [hv0, hv1, hv2, Bool.and_false, Bool.false_and, Bool.true_and, Bool.and_true]; rfl)
        clear hv0 hv1 hv2
        go_enter Tryd.func34, Tryd.ntmps34
        go_wp2_with (first
          | (go_at_call 99; refine Calls.mono (KVs _ _ (by simp) (At.new1 _ _ _)).out ?_; rintro e w1 ⟨rfl, hb1⟩; have B1 : Below w.heap.size w w1 := Bl.step (by repeat (first | assumption | exact Below.refl _ _ | refine Bl.alloc ?_ _ | refine Bl.drew ?_)) hb1)
          | (go_at_call 100; refine Calls.mono (KAn _ _ (cellAt (by simp))).out ?_; rintro e w2 ⟨rfl, rfl⟩)
          | (go_at_call 112; refine Calls.mono (KMm _).out ?_; rintro e w3 ⟨rfl, hb3⟩; have B3 : Below w.heap.size w w3 := Bl.step (by repeat (first | assumption | exact Below.refl _ _ | refine Bl.alloc ?_ _ | refine Bl.drew ?_)) hb3))
        go_ret2
        exact givesS HR.out rfl (by repeat (first | assumption | exact Below.refl _ _ | refine Bl.alloc ?_ _ | refine Bl.drew ?_))
      | true =>
        rw [hv2] at KMm
        have hlen := valid_le hv0
        have h1 := of_decide_eq_true hv1
        obtain ⟨k, rfl⟩ : ∃ k : Nat, n = (k : Int) + 1 := ⟨(n - 1).toNat, by omega⟩
        have hk : ((k : Int) + 1 - 1).toNat = k := by omega
        have KAF := fun W => Lib.hid (after_any s k W hss)
        have KBE := fun W => Lib.hid (before_any s k W hss)
        by_cases hm : m = -1
        · subst hm
          have HR := Lib.hid (show delStrR (bts s) ((k : Int) + 1) (-1) = ((bts s).take k, 0) by unfold delStrR guardR; rw [hv0, hv1, hk]; simp)
          clear hv0 hv1 hv2 hk
          go_enter Tryd.func34, Tryd.ntmps34
          go_wp2_with (first
            | (go_at_call 99; refine Calls.mono (KVs _ _ (by simp) (At.new1 _ _ _)).out ?_; rintro e w1 ⟨rfl, hb1⟩; have B1 : Below w.heap.size w w1 := Bl.step (by repeat (first | assumption | exact Below.refl _ _ | refine Bl.alloc ?_ _ | refine Bl.drew ?_)) hb1)
            | (go_at_call 100; refine Calls.mono (KAn _ _ (cellAt (by simp))).out ?_; rintro e w2 ⟨rfl, rfl⟩)
            | (go_at_call 112; refine Calls.mono (KMm _).out ?_; rintro e w3 ⟨rfl, hb3⟩; have B3 : Below w.heap.size w w3 := Bl.step (by repeat (first | assumption | exact Below.refl _ _ | refine Bl.alloc ?_ _ | refine Bl.drew ?_)) hb3)
            | (go_at_call 115; refine Calls.mono (KBE _).out ?_; rintro e w4 ⟨t, rfl, ht, rfl⟩; have hts : t.size ≤ 1000000 := (by have := size_of_bts ht.out; rw [List.length_take, bts_length] at this; omega)))
          go_ret2
          exact givesS HR.out ht.out (by repeat (first | assumption | exact Below.refl _ _ | refine Bl.alloc ?_ _ | refine Bl.drew ?_))
        · have h0 : 0 ≤ m := by
            rw [decide_eq_false hm, Bool.false_or] at hv2
            exact of_decide_eq_true hv2
          have hmb : (m == -1) = false := by simpa using hm
          have HR := Lib.hid (show delStrR (bts s) ((k : Int) + 1) m = ((bts s).take k ++ ((bts s).drop k).drop m.toNat, 0) by unfold delStrR guardR; rw [hv0, hv1, hv2, hk]; simp [hm])
          obtain ⟨j, rfl⟩ := Int.eq_ofNat_of_zero_le h0
          clear hv0 hv1 hv2 hk hm
          go_enter Tryd.func34, Tryd.ntmps34
          go_wp2_with (first
            | (go_at_call 99; refine Calls.mono (KVs _ _ (by simp) (At.new1 _ _ _)).out ?_; rintro e w1 ⟨rfl, hb1⟩; have B1 : Below w.heap.size w w1 := Bl.step (by repeat (first | assumption | exact Below.refl _ _ | refine Bl.alloc ?_ _ | refine Bl.drew ?_)) hb1)
            | (go_at_call 100; refine Calls.mono (KAn _ _ (cellAt (by simp))).out ?_; rintro e w2 ⟨rfl, rfl⟩)
            | (go_at_call 112; refine Calls.mono (KMm _).out ?_; rintro e w3 ⟨rfl, hb3⟩; have B3 : Below w.heap.size w w3 := Bl.step (by repeat (first | assumption | exact Below.refl _ _ | refine Bl.alloc ?_ _ | refine Bl.drew ?_)) hb3)
            | (go_at_call 115; refine Calls.mono (KBE _).out ?_; rintro e w4 ⟨t, rfl, ht, rfl⟩; have hts : t.size ≤ 1000000 := (by have := size_of_bts ht.out; rw [List.length_take, bts_length] at this; omega))
            | (go_at_call 113; first | ((with_reducible refine Calls.mono (KAF _).out ?_); clear KAF; rintro e w4 ⟨t1, rfl, ht1, rfl⟩; have hts1 : t1.size ≤ 1000000 := (by have := size_of_bts ht1.out; rw [List.length_drop, bts_length] at this; omega); have KAG := fun W => Lib.hid (after_any t1 j W (by unfold maxLen; omega))) | ((with_reducible refine Calls.mono (KAG _).out ?_); rintro e w4 ⟨t2, rfl, ht2, rfl⟩; have hts2 : t2.size ≤ 1000000 := (by have := size_of_bts ht2.out; rw [List.length_drop, bts_length] at this; omega))))
          go_ret2
          exact givesS HR.out (by rw [bts_append, ht2.out, ht1.out, ht.out]; simp) (by repeat (first | assumption | exact Below.refl _ _ | refine Bl.alloc ?_ _ | refine Bl.drew ?_))
theorem fitL_length (l : List UInt8) (n : Nat) (p : UInt8) : (fitL l n p).length = n := by unfold fitL; simp; omega
end Go.Proofs.YtoilgjlbpimcpaaDoor
