/- Reverse. -/
import Derived.Test.YtoilgjlbpimcpaaDoorUb
import Derived.Test.YtoilgjlbpimcpaaDoorTs
import Derived.BigRegion
namespace Go.Proofs.YtoilgjlbpimcpaaDoor
open Go.RowKit Go.Shelf Tx
set_option linter.unusedVariables false
set_option maxRecDepth 100000

/-- The first k and the last k bytes have been swapped. -/
def Swapped (l L : List UInt8) (k : Nat) : Prop := L.length = l.length ∧ ∀ p, p < l.length → L[p]? = if p < k ∨ l.length ≤ p + k then l[l.length - 1 - p]? else l[p]?
theorem Swapped.zero (l : List UInt8) : Swapped l l 0 := ⟨rfl, fun p hp => by rw [if_neg (by omega)]⟩
theorem Swapped.step {l L : List UInt8} {k : Nat} {a b : UInt8} (h : Swapped l L k) (hk : k + k + 1 < l.length) (ha : L[k]? = some a) (hb : L[l.length - 1 - k]? = some b) : Swapped l ((L.set k b).set (l.length - 1 - k) a) (k + 1) := by
  obtain ⟨h1, h2⟩ := h
  have ha' : l[k]? = some a := by have := h2 k (by omega); rw [if_neg (by omega)] at this; rw [← this]; exact ha
  have hb' : l[l.length - 1 - k]? = some b := by have := h2 (l.length - 1 - k) (by omega); rw [if_neg (by omega)] at this; rw [← this]; exact hb
  refine ⟨by simp [h1], fun p hp => ?_⟩
  rw [List.getElem?_set, List.getElem?_set]
  by_cases e1 : l.length - 1 - k = p
  · rw [if_pos e1, if_pos (by simp [h1]; omega), if_pos (by omega), show l.length - 1 - p = k by omega, ha']
  · rw [if_neg e1]
    by_cases e2 : k = p
    · rw [if_pos e2, if_pos (by omega), if_pos (by omega), ← e2, hb']
    · rw [if_neg e2, h2 p hp]
      by_cases e3 : p < k ∨ l.length ≤ p + k
      · rw [if_pos e3, if_pos (by omega)]
      · rw [if_neg e3, if_neg (by omega)]
theorem Swapped.end {l L : List UInt8} {k : Nat} (h : Swapped l L k) (hk : l.length ≤ k + k + 1) : L = l.reverse := by
  apply List.ext_getElem?
  intro p
  by_cases hp : p < l.length
  · rw [h.2 p hp, List.getElem?_reverse (by omega)]
    by_cases e : p < k ∨ l.length ≤ p + k
    · rw [if_pos e]
    · rw [if_neg e, show l.length - 1 - p = p by omega]
  · rw [List.getElem?_eq_none (by rw [h.1]; omega), List.getElem?_eq_none (by simp; omega)]

set_option maxHeartbeats 2000000 in
theorem slReverse_any (G cap : Nat) (l : List UInt8) (w : World) (hby : Bys w G l) (hl : l.length ≤ 2000000) :
    Calls Tryd.prog 104 #[.slice (some ⟨G, 0, none⟩) l.length cap] w fun e w' => e = .returned (.tuple #[]) ∧ Hid (Bys w' G l.reverse) ∧ Below G w w' := by
  have HBY := Lib.hid hby
  obtain ⟨n, hn⟩ : ∃ n, n = l.length := ⟨_, rfl⟩
  have HN := Lib.hid hn
  rw [← hn] at hl ⊢
  have hmix : Tryd.prog.follows .mixedOrders = true := by kernel_rfl
  clear hby hn
  go_enter Tryd.func104, Tryd.ntmps104
  go_wp2
  go_loopw [2, 3] (fun a b wr => ∃ (k : Nat) (L : List UInt8), a = .int .i64 k ∧ b = .int .i64 ((n : Int) - 1 - k) ∧ k ≤ n ∧ k + k ≤ n + 1 ∧ Hid (Swapped l L k) ∧ Hid (Bys wr G L) ∧ Hid (Below G w wr)) (fun a _ _ => n - (intOf a).toNat)
  case atStart => exact ⟨0, l, rfl, by simp, Nat.zero_le _, by omega, Lib.hid (Swapped.zero l), HBY, Lib.hid (Below.refl _ _)⟩
  case round =>
    obtain ⟨k, L, rfl, rfl, hk, hk2, hs, hb, hbl⟩ := hrel
    by_cases hlt : (k : Int) < (n : Int) - 1 - k
    · obtain ⟨j, hj⟩ : ∃ j : Nat, j = n - 1 - k := ⟨_, rfl⟩
      have hjj : (n : Int) - 1 - (k : Int) = (j : Int) := by omega
      have hLl : L.length = n := by rw [hs.out.1, HN.out]
      obtain ⟨a, ha⟩ : ∃ a, L[k]? = some a := ⟨_, List.getElem?_eq_getElem (by omega)⟩
      obtain ⟨b, hb'⟩ : ∃ b, L[j]? = some b := ⟨_, List.getElem?_eq_getElem (by omega)⟩
      have HSS := Lib.hid (hs.out.step (by rw [← HN.out]; omega) ha (by rw [← HN.out, ← hj]; exact hb'))
      rw [← HN.out, ← hj] at HSS
      have c1 := hb.out.cell ha
      have c2 := hb.out.cell hb'
      have f1 := hb.out.frozen (i := k) (by omega)
      have f2 := hb.out.frozen (i := j) (by omega)
      have hkj : ¬ k = j := by omega
      have hkn : k < n := by omega
      have hjn : j < n := by omega
      have hkj2 : (k : Int) < (j : Int) := by omega
      have hjq : (j : Int) - 1 = (n : Int) - 1 - ((k + 1 : Nat) : Int) := by omega
      have HQ := Lib.hid hjq
      rw [hjj]
      rw [hjj] at hlt
      have hk3 : k + 1 + (k + 1) ≤ n + 1 := by omega
      clear hjq hjj ha hb' hLl hj
      go_wp2
      go_region
      go_wp2
      go_roundw
      case rel => exact ⟨k + 1, _, by go_num, by rw [HQ.out], by omega, by omega, HSS, Lib.hid (show Bys ((wr.setCell _ _).setCell _ _) G _ from (hb.out.set (x := b)).set (x := a)), Lib.hid (((hbl.out.setCell (p := ⟨G, k, none⟩) (Nat.le_refl _) _).setCell (p := ⟨G, j, none⟩) (Nat.le_refl _) _).drew)⟩
      case measure => simp [intOf]; omega
    · have HE := Lib.hid (hs.out.end (by rw [← HN.out]; omega))
      go_wp2
      go_end0
      exact ⟨rfl, Lib.hid (by rw [← HE.out]; exact hb.out), hbl.out⟩
set_option maxHeartbeats 2000000 in
theorem Reverse_any (s : ByteArray) (w : World) (hss : s.size ≤ maxLen) :
    Calls Tryd.prog 22 #[.string s] w (GivesS w (reverseR (bts s))) := by
  have KVs := fun (W : World) (pp : Nat) (hp : pp < W.heap.size) (hc : At W pp [.string s]) => Lib.hid (areValid1 pp s W hss hp hc)
  cases hv0 : validL (bts s) with
  | false =>
    rw [hv0] at KVs
    have HR := Lib.hid (show reverseR (bts s) = ([], 1) by unfold reverseR; rw [hv0]; rfl)
    clear hv0
    go_enter Tryd.func22, Tryd.ntmps22
    go_wp2_with (go_at_call 99; refine Calls.mono (KVs _ _ (by simp) (At.new1 _ _ _)).out ?_; rintro e w1 ⟨rfl, hb1⟩; have B1 : Below w.heap.size w w1 := Bl.step (by repeat (first | assumption | exact Below.refl _ _ | refine Bl.alloc ?_ _ | refine Bl.drew ?_)) hb1)
    go_ret2
    exact givesS HR.out rfl B1
  | true =>
    rw [hv0] at KVs
    have HR := Lib.hid (show reverseR (bts s) = ((bts s).reverse, 0) by unfold reverseR; rw [hv0]; rfl)
    have hlen := valid_le hv0
    clear hv0
    go_enter Tryd.func22, Tryd.ntmps22
    go_wp2_with (first
      | (go_at_call 99; refine Calls.mono (KVs _ _ (by simp) (At.new1 _ _ _)).out ?_; rintro e w1 ⟨rfl, hb1⟩; have B1 : Below w.heap.size w w1 := Bl.step (by repeat (first | assumption | exact Below.refl _ _ | refine Bl.alloc ?_ _ | refine Bl.drew ?_)) hb1; obtain ⟨cap, w2, hconv, hby, hcap, hb2⟩ := conv_bytes s w1; obtain ⟨G, hG⟩ : ∃ G, G = w1.heap.size := ⟨_, rfl⟩; rw [← hG] at hconv hby; have KR := Lib.hid (slReverse_any G cap (bts s) w2 hby (by rw [bts_length]; omega)); rw [bts_length] at KR; have HG := Lib.hid hG; have HB2 := Lib.hid hb2; clear hby hG hb2 hcap)
      | (go_at_call 104; refine Calls.mono KR.out ?_; rintro e w3 ⟨rfl, hby3, hb3⟩; have hback := conv_str (c := cap) hby3.out.cells; rw [List.length_reverse, bts_length] at hback; have HY := Lib.hid hby3.out; clear hconv hby3))
    go_ret2
    refine givesS HR.out (bts_mk _) ?_
    have h2 := HB2.out
    rw [← HG.out] at h2
    have h3 : Below w.heap.size w w2 := B1.trans (h2.mono (by rw [HG.out]; exact B1.size))
    exact h3.trans (hb3.mono (by rw [HG.out]; exact B1.size))
end Go.Proofs.YtoilgjlbpimcpaaDoor
