/- Strip, both programs'. -/
import Derived.Test.YtoilgjlbpimcpaaDoorWq
namespace Go.Proofs.YtoilgjlbpimcpaaDoor
open Go.RowKit Go.Shelf Tx
set_option linter.unusedVariables false
set_option maxRecDepth 100000

namespace Tx
/-- How many bytes c stand at the beginning. -/
def lead (l : List UInt8) (c : UInt8) : Nat := (l.takeWhile (fun x => x == c)).length
/-- Where the bytes c at the end begin, behind a. -/
def trail (l : List UInt8) (c : UInt8) (a : Nat) : Nat := l.length - lead (l.drop a).reverse c
def fromS (side : Int) (l : List UInt8) (c : UInt8) : Nat := if side = 2 then 0 else lead l c
def toS (side : Int) (l : List UInt8) (c : UInt8) (a : Nat) : Nat := if side = 1 then l.length else trail l c a
def stripB (side : Int) (l : List UInt8) (c : UInt8) : List UInt8 := (l.drop (fromS side l c)).take (toS side l c (fromS side l c) - fromS side l c)
def stripR (l : List UInt8) (side : Int) (x : Int) : Res :=
  guardR (validL l && padI x && decide (0 ≤ side) && decide (side ≤ 2)) (stripB side l (pb x), 0)
theorem lead_stop : ∀ {l : List UInt8} {c : UInt8} {k : Nat}, k ≤ l.length → (∀ j, j < k → l[j]? = some c) → (k = l.length ∨ l[k]? ≠ some c) → lead l c = k
  | [], c, k, hk, _, _ => by simp at hk; subst hk; rfl
  | a :: l, c, 0, _, _, h => by
    unfold lead
    rcases h with h | h
    · simp at h
    · have : (a == c) = false := by simp at h; simpa using h
      simp [List.takeWhile_cons, this]
  | a :: l, c, k + 1, hk, ha, h => by
    have h0 := ha 0 (by omega)
    simp at h0
    subst h0
    have h' : k = l.length ∨ l[k]? ≠ some a := by
      rcases h with h | h
      · left; simpa using h
      · right; simpa using h
    have ih : lead l a = k := lead_stop (by simpa using hk) (fun j hj => by have := ha (j + 1) (by omega); simpa using this) h'
    unfold lead at ih ⊢
    simp [List.takeWhile_cons, ih]
theorem trail_stop {l : List UInt8} {c : UInt8} {a t : Nat} (hat : a ≤ t) (ht : t ≤ l.length) (h1 : ∀ j, t ≤ j → j < l.length → l[j]? = some c) (h2 : t = a ∨ l[t - 1]? ≠ some c) : trail l c a = t := by
  unfold trail
  have hl : (l.drop a).reverse.length = l.length - a := by simp
  have hg : ∀ j, j < l.length - a → (l.drop a).reverse[j]? = l[l.length - 1 - j]? := fun j hj => by
    rw [List.getElem?_reverse (by simpa using hj), List.getElem?_drop]
    congr 1
    simp
    omega
  have := lead_stop (l := (l.drop a).reverse) (c := c) (k := l.length - t) (by rw [hl]; omega) (fun j hj => by rw [hg j (by omega)]; exact h1 _ (by omega) (by omega)) (by
    rcases h2 with h2 | h2
    · left; rw [hl, h2]
    · by_cases e : t = a
      · left; rw [hl, e]
      · right; rw [hg _ (by omega), show l.length - 1 - (l.length - t) = t - 1 by omega]; exact h2)
  rw [this]
  omega
theorem lead_le (l : List UInt8) (c : UInt8) : lead l c ≤ l.length := by
  unfold lead; exact (List.takeWhile_prefix _).length_le
theorem trail_le (l : List UInt8) (c : UInt8) (a : Nat) : trail l c a ≤ l.length := by unfold trail; omega
theorem le_trail (l : List UInt8) (c : UInt8) {a : Nat} (h : a ≤ l.length) : a ≤ trail l c a := by
  unfold trail
  have := lead_le (l.drop a).reverse c
  simp at this
  omega
end Tx
theorem str_cell_ne {s : ByteArray} {k : Nat} {c : UInt8} (h : k < s.size) (hne : ¬ s[k] = c) : (bts s)[k]? ≠ some c := by
  rw [bts_get s h]; intro e; cases e; exact hne rfl

set_option maxHeartbeats 4000000 in
theorem Strip_any (s : ByteArray) (side : Int) (c : UInt8) (w : World) (hss : s.size ≤ maxLen) :
    Calls Tryd.prog 23 #[.string s, .int .i64 side, .int .u8 (c.toNat : Int)] w (GivesS w (stripR (bts s) side (c.toNat : Int))) := by
  have KVs := fun (W : World) (pp : Nat) (hp : pp < W.heap.size) (hc : At W pp [.string s]) => Lib.hid (areValid1 pp s W hss hp hc)
  have KPc := fun (W : World) (pp : Nat) (hc : W.cell? ⟨pp, 0, none⟩ = some (.int .u8 (c.toNat : Int))) => Lib.hid (arePads1 pp (c.toNat : Int) W hc)
  cases hv0 : validL (bts s) with
  | false =>
    rw [hv0] at KVs
    have HR := Lib.hid (show stripR (bts s) side (c.toNat : Int) = ([], 1) by unfold stripR guardR; simp only [hv0, Bool.and_false, Bool.false_and, Bool.true_and, Bool.and_true]; rfl)
    clear hv0
    go_enter Tryd.func23, Tryd.ntmps23
    go_wp2_with (first
      | (go_at_call 99; refine Calls.mono (KVs _ _ (by simp) (At.new1 _ _ _)).out ?_; rintro e w1 ⟨rfl, hb1⟩; have B1 : Below w.heap.size w w1 := Bl.step (by repeat (first | assumption | exact Below.refl _ _ | refine Bl.alloc ?_ _ | refine Bl.drew ?_)) hb1))
    go_ret2
    exact givesS HR.out rfl (by repeat (first | assumption | exact Below.refl _ _ | refine Bl.alloc ?_ _ | refine Bl.drew ?_))
  | true =>
    rw [hv0] at KVs
    cases hv1 : padI (c.toNat : Int) with
    | false =>
      rw [hv1] at KPc
      have HR := Lib.hid (show stripR (bts s) side (c.toNat : Int) = ([], 1) by unfold stripR guardR; simp only [hv0, hv1, Bool.and_false, Bool.false_and, Bool.true_and, Bool.and_true]; rfl)
      clear hv0 hv1
      go_enter Tryd.func23, Tryd.ntmps23
      go_wp2_with (first
        | (go_at_call 99; refine Calls.mono (KVs _ _ (by simp) (At.new1 _ _ _)).out ?_; rintro e w1 ⟨rfl, hb1⟩; have B1 : Below w.heap.size w w1 := Bl.step (by repeat (first | assumption | exact Below.refl _ _ | refine Bl.alloc ?_ _ | refine Bl.drew ?_)) hb1)
        | (go_at_call 105; refine Calls.mono (KPc _ _ (cellAt (by simp))).out ?_; rintro e w2 ⟨rfl, rfl⟩))
      go_ret2
      exact givesS HR.out rfl (by repeat (first | assumption | exact Below.refl _ _ | refine Bl.alloc ?_ _ | refine Bl.drew ?_))
    | true =>
      rw [hv1] at KPc
      have hlen := valid_le hv0
      by_cases hs0 : 0 ≤ side
      · by_cases hs2 : side ≤ 2
        · rcases (show side = 0 ∨ side = 1 ∨ side = 2 by omega) with rfl | rfl | rfl
          · clear hs0 hs2
            have HR0 := Lib.hid (show stripR (bts s) 0 (c.toNat : Int) = (stripB 0 (bts s) c, 0) by unfold stripR guardR; rw [hv0, hv1, pb_u8]; rfl)
            clear hv0 hv1 hss
            go_enter Tryd.func23, Tryd.ntmps23
            go_wp2_with (first
              | (go_at_call 99; refine Calls.mono (KVs _ _ (by simp) (At.new1 _ _ _)).out ?_; rintro e w1 ⟨rfl, hb1⟩; have B1 : Below w.heap.size w w1 := Bl.step (by repeat (first | assumption | exact Below.refl _ _ | refine Bl.alloc ?_ _ | refine Bl.drew ?_)) hb1)
              | (go_at_call 105; refine Calls.mono (KPc _ _ (cellAt (by simp))).out ?_; rintro e w2 ⟨rfl, rfl⟩))
            go_loop [8] (fun f => ∃ k : Nat, f = .int .i64 k ∧ k ≤ s.size ∧ Hid (∀ j, j < k → (bts s)[j]? = some c)) (fun f => s.size - (intOf f).toNat)
            case atStart => exact ⟨0, rfl, Nat.zero_le _, Lib.hid (fun j h => by omega)⟩
            case round =>
              obtain ⟨k, rfl, hk, hkk⟩ := hrel
              by_cases hlt : k < s.size
              · by_cases hc : s[k] = c
                · have HN := Lib.hid (show ∀ j, j < k + 1 → (bts s)[j]? = some c from fun j h => by
                    by_cases e : j = k
                    · subst e; rw [bts_get s hlt, hc]
                    · exact hkk.out j (by omega))
                  have hc3 : (s[k].toNat : Int) = (c.toNat : Int) := by rw [hc]
                  go_wp2
                  go_round
                  case rel => exact ⟨k + 1, by go_num, by omega, HN⟩
                  case measure => simp [intOf]; omega
                · have HA := Lib.hid (show lead (bts s) c = k from lead_stop (by rw [bts_length]; exact hk) hkk.out (.inr (str_cell_ne hlt hc)))
                  have hc3 : ¬ (s[k].toNat : Int) = (c.toNat : Int) := fun h => hc (UInt8.toNat_inj.1 (by omega))
                  clear hc
                  go_wp2
                  go_loop [9] (fun t => ∃ q : Nat, t = .int .i64 q ∧ k ≤ q ∧ q ≤ s.size ∧ Hid (∀ j, q ≤ j → j < s.size → (bts s)[j]? = some c)) (fun t => (intOf t).toNat)
                  case atStart => exact ⟨s.size, rfl, hk, Nat.le_refl _, Lib.hid (fun j h1 h2 => by omega)⟩
                  case round =>
                    obtain ⟨q, rfl, hq1, hq2, hqq⟩ := hrel
                    by_cases haq : k < q
                    · obtain ⟨r, rfl⟩ : ∃ r, q = r + 1 := ⟨q - 1, by omega⟩
                      have hri : ((r + 1 : Nat) : Int) = (r : Int) + 1 := by omega
                      have hrs : r < s.size := by omega
                      rw [hri]
                      by_cases hc2 : s[r] = c
                      · have HN := Lib.hid (show ∀ j, r ≤ j → j < s.size → (bts s)[j]? = some c from fun j h1 h2 => by
                          by_cases e : j = r
                          · subst e; rw [bts_get s hrs, hc2]
                          · exact hqq.out j (by omega) h2)
                        have hc3 : (s[r].toNat : Int) = (c.toNat : Int) := by rw [hc2]
                        clear hri
                        go_wp2
                        go_round
                        case rel => exact ⟨r, by first | rfl | go_num, by omega, by omega, HN⟩
                        case measure => simp [intOf]
                      · have HT := Lib.hid (show trail (bts s) c k = r + 1 from trail_stop hq1 (by rw [bts_length]; exact hq2) (fun j h1 h2 => hqq.out j h1 (by rwa [bts_length] at h2)) (.inr (by rw [Nat.add_sub_cancel]; exact str_cell_ne hrs hc2)))
                        have hc3 : ¬ (s[r].toNat : Int) = (c.toNat : Int) := fun h => hc2 (UInt8.toNat_inj.1 (by omega))
                        clear hri hc2
                        go_wp2
                        go_ret2
                        exact givesS (by rw [HR0.out]; unfold stripB; rw [show fromS 0 (bts s) c = k by unfold fromS; rw [if_neg (by decide)]; exact HA.out, show toS 0 (bts s) c k = (r + 1) by unfold toS; rw [if_neg (by decide)]; exact HT.out]; first | (rw [bts_extract]; done) | (rw [Nat.sub_self, List.take_zero]; rfl)) rfl (by repeat (first | assumption | exact Below.refl _ _ | refine Bl.alloc ?_ _ | refine Bl.drew ?_))
                    · obtain rfl : q = k := by omega
                      have HT := Lib.hid (show trail (bts s) c q = q from trail_stop (Nat.le_refl _) (by rw [bts_length]; exact hq2) (fun j h1 h2 => hqq.out j h1 (by rwa [bts_length] at h2)) (.inl rfl))
                      go_wp2
                      go_ret2
                      exact givesS (by rw [HR0.out]; unfold stripB; rw [show fromS 0 (bts s) c = q by unfold fromS; rw [if_neg (by decide)]; exact HA.out, show toS 0 (bts s) c q = q by unfold toS; rw [if_neg (by decide)]; exact HT.out]; first | (rw [bts_extract]; done) | (rw [Nat.sub_self, List.take_zero]; rfl)) rfl (by repeat (first | assumption | exact Below.refl _ _ | refine Bl.alloc ?_ _ | refine Bl.drew ?_))
              · have hkn : (k : Int) = (s.size : Int) := by omega
                have HA := Lib.hid (show lead (bts s) c = k from lead_stop (by rw [bts_length]; exact hk) hkk.out (.inl (by rw [bts_length]; omega)))
                clear hkn
                go_wp2
                go_loop [9] (fun t => ∃ q : Nat, t = .int .i64 q ∧ k ≤ q ∧ q ≤ s.size ∧ Hid (∀ j, q ≤ j → j < s.size → (bts s)[j]? = some c)) (fun t => (intOf t).toNat)
                case atStart => exact ⟨s.size, rfl, hk, Nat.le_refl _, Lib.hid (fun j h1 h2 => by omega)⟩
                case round =>
                  obtain ⟨q, rfl, hq1, hq2, hqq⟩ := hrel
                  by_cases haq : k < q
                  · exfalso; omega
                  · obtain rfl : q = k := by omega
                    have HT := Lib.hid (show trail (bts s) c q = q from trail_stop (Nat.le_refl _) (by rw [bts_length]; exact hq2) (fun j h1 h2 => hqq.out j h1 (by rwa [bts_length] at h2)) (.inl rfl))
                    go_wp2
                    go_ret2
                    exact givesS (by rw [HR0.out]; unfold stripB; rw [show fromS 0 (bts s) c = q by unfold fromS; rw [if_neg (by decide)]; exact HA.out, show toS 0 (bts s) c q = q by unfold toS; rw [if_neg (by decide)]; exact HT.out]; first | (rw [bts_extract]; done) | (rw [Nat.sub_self, List.take_zero]; rfl)) rfl (by repeat (first | assumption | exact Below.refl _ _ | refine Bl.alloc ?_ _ | refine Bl.drew ?_))
          · clear hs0 hs2
            have HR0 := Lib.hid (show stripR (bts s) 1 (c.toNat : Int) = (stripB 1 (bts s) c, 0) by unfold stripR guardR; rw [hv0, hv1, pb_u8]; rfl)
            clear hv0 hv1 hss
            go_enter Tryd.func23, Tryd.ntmps23
            go_wp2_with (first
              | (go_at_call 99; refine Calls.mono (KVs _ _ (by simp) (At.new1 _ _ _)).out ?_; rintro e w1 ⟨rfl, hb1⟩; have B1 : Below w.heap.size w w1 := Bl.step (by repeat (first | assumption | exact Below.refl _ _ | refine Bl.alloc ?_ _ | refine Bl.drew ?_)) hb1)
              | (go_at_call 105; refine Calls.mono (KPc _ _ (cellAt (by simp))).out ?_; rintro e w2 ⟨rfl, rfl⟩))
            go_loop [8] (fun f => ∃ k : Nat, f = .int .i64 k ∧ k ≤ s.size ∧ Hid (∀ j, j < k → (bts s)[j]? = some c)) (fun f => s.size - (intOf f).toNat)
            case atStart => exact ⟨0, rfl, Nat.zero_le _, Lib.hid (fun j h => by omega)⟩
            case round =>
              obtain ⟨k, rfl, hk, hkk⟩ := hrel
              by_cases hlt : k < s.size
              · by_cases hc : s[k] = c
                · have HN := Lib.hid (show ∀ j, j < k + 1 → (bts s)[j]? = some c from fun j h => by
                    by_cases e : j = k
                    · subst e; rw [bts_get s hlt, hc]
                    · exact hkk.out j (by omega))
                  have hc3 : (s[k].toNat : Int) = (c.toNat : Int) := by rw [hc]
                  go_wp2
                  go_round
                  case rel => exact ⟨k + 1, by go_num, by omega, HN⟩
                  case measure => simp [intOf]; omega
                · have HA := Lib.hid (show lead (bts s) c = k from lead_stop (by rw [bts_length]; exact hk) hkk.out (.inr (str_cell_ne hlt hc)))
                  have hc3 : ¬ (s[k].toNat : Int) = (c.toNat : Int) := fun h => hc (UInt8.toNat_inj.1 (by omega))
                  clear hc
                  go_wp2
                  go_loop [9] (fun t => t = .int .i64 (s.size : Int)) (fun t => 0)
                  case atStart => rfl
                  case round =>
                    obtain rfl := hrel
                    go_wp2
                    go_ret2
                    exact givesS (by rw [HR0.out]; unfold stripB; rw [show fromS 1 (bts s) c = k by unfold fromS; rw [if_neg (by decide)]; exact HA.out, show toS 1 (bts s) c k = s.size by unfold toS; rw [if_pos rfl, bts_length]]; first | (rw [bts_extract]; done) | (rw [Nat.sub_self, List.take_zero]; rfl)) rfl (by repeat (first | assumption | exact Below.refl _ _ | refine Bl.alloc ?_ _ | refine Bl.drew ?_))
              · have hkn : (k : Int) = (s.size : Int) := by omega
                have HA := Lib.hid (show lead (bts s) c = k from lead_stop (by rw [bts_length]; exact hk) hkk.out (.inl (by rw [bts_length]; omega)))
                clear hkn
                go_wp2
                go_loop [9] (fun t => t = .int .i64 (s.size : Int)) (fun t => 0)
                case atStart => rfl
                case round =>
                  obtain rfl := hrel
                  go_wp2
                  go_ret2
                  exact givesS (by rw [HR0.out]; unfold stripB; rw [show fromS 1 (bts s) c = k by unfold fromS; rw [if_neg (by decide)]; exact HA.out, show toS 1 (bts s) c k = s.size by unfold toS; rw [if_pos rfl, bts_length]]; first | (rw [bts_extract]; done) | (rw [Nat.sub_self, List.take_zero]; rfl)) rfl (by repeat (first | assumption | exact Below.refl _ _ | refine Bl.alloc ?_ _ | refine Bl.drew ?_))
          · clear hs0 hs2
            have HR0 := Lib.hid (show stripR (bts s) 2 (c.toNat : Int) = (stripB 2 (bts s) c, 0) by unfold stripR guardR; rw [hv0, hv1, pb_u8]; rfl)
            clear hv0 hv1 hss
            go_enter Tryd.func23, Tryd.ntmps23
            go_wp2_with (first
              | (go_at_call 99; refine Calls.mono (KVs _ _ (by simp) (At.new1 _ _ _)).out ?_; rintro e w1 ⟨rfl, hb1⟩; have B1 : Below w.heap.size w w1 := Bl.step (by repeat (first | assumption | exact Below.refl _ _ | refine Bl.alloc ?_ _ | refine Bl.drew ?_)) hb1)
              | (go_at_call 105; refine Calls.mono (KPc _ _ (cellAt (by simp))).out ?_; rintro e w2 ⟨rfl, rfl⟩))
            go_loop [8] (fun f => f = .int .i64 0) (fun f => 0)
            case atStart => rfl
            case round =>
              obtain rfl := hrel
              go_wp2
              go_loop [9] (fun t => ∃ q : Nat, t = .int .i64 q ∧ 0 ≤ q ∧ q ≤ s.size ∧ Hid (∀ j, q ≤ j → j < s.size → (bts s)[j]? = some c)) (fun t => (intOf t).toNat)
              case atStart => exact ⟨s.size, rfl, Nat.zero_le _, Nat.le_refl _, Lib.hid (fun j h1 h2 => by omega)⟩
              case round =>
                obtain ⟨q, rfl, hq1, hq2, hqq⟩ := hrel
                by_cases haq : 0 < q
                · obtain ⟨r, rfl⟩ : ∃ r, q = r + 1 := ⟨q - 1, by omega⟩
                  have hri : ((r + 1 : Nat) : Int) = (r : Int) + 1 := by omega
                  have hrs : r < s.size := by omega
                  rw [hri]
                  by_cases hc2 : s[r] = c
                  · have HN := Lib.hid (show ∀ j, r ≤ j → j < s.size → (bts s)[j]? = some c from fun j h1 h2 => by
                      by_cases e : j = r
                      · subst e; rw [bts_get s hrs, hc2]
                      · exact hqq.out j (by omega) h2)
                    have hc3 : (s[r].toNat : Int) = (c.toNat : Int) := by rw [hc2]
                    clear hri
                    go_wp2
                    go_round
                    case rel => exact ⟨r, by first | rfl | go_num, by omega, by omega, HN⟩
                    case measure => simp [intOf]
                  · have HT := Lib.hid (show trail (bts s) c 0 = r + 1 from trail_stop hq1 (by rw [bts_length]; exact hq2) (fun j h1 h2 => hqq.out j h1 (by rwa [bts_length] at h2)) (.inr (by rw [Nat.add_sub_cancel]; exact str_cell_ne hrs hc2)))
                    have hc3 : ¬ (s[r].toNat : Int) = (c.toNat : Int) := fun h => hc2 (UInt8.toNat_inj.1 (by omega))
                    clear hri hc2
                    go_wp2
                    go_ret2
                    exact givesS (by rw [HR0.out]; unfold stripB; rw [show fromS 2 (bts s) c = 0 from rfl, show toS 2 (bts s) c 0 = (r + 1) by unfold toS; rw [if_neg (by decide)]; exact HT.out]; first | (rw [bts_extract]; done) | (rw [Nat.sub_self, List.take_zero]; rfl)) rfl (by repeat (first | assumption | exact Below.refl _ _ | refine Bl.alloc ?_ _ | refine Bl.drew ?_))
                · have hq0 : q = 0 := by omega
                  subst hq0
                  have HT := Lib.hid (show trail (bts s) c 0 = 0 from trail_stop (Nat.le_refl _) (by rw [bts_length]; exact hq2) (fun j h1 h2 => hqq.out j h1 (by rwa [bts_length] at h2)) (.inl rfl))
                  go_wp2
                  go_ret2
                  exact givesS (by rw [HR0.out]; unfold stripB; rw [show fromS 2 (bts s) c = 0 from rfl, show toS 2 (bts s) c 0 = 0 by unfold toS; rw [if_neg (by decide)]; exact HT.out]; first | (rw [bts_extract]; done) | (rw [Nat.sub_self, List.take_zero]; rfl)) rfl (by repeat (first | assumption | exact Below.refl _ _ | refine Bl.alloc ?_ _ | refine Bl.drew ?_))
        · have HR := Lib.hid (show stripR (bts s) side (c.toNat : Int) = ([], 1) by unfold stripR guardR; simp [hs2])
          clear hv0 hv1 hss
          go_enter Tryd.func23, Tryd.ntmps23
          go_wp2_with (first
            | (go_at_call 99; refine Calls.mono (KVs _ _ (by simp) (At.new1 _ _ _)).out ?_; rintro e w1 ⟨rfl, hb1⟩; have B1 : Below w.heap.size w w1 := Bl.step (by repeat (first | assumption | exact Below.refl _ _ | refine Bl.alloc ?_ _ | refine Bl.drew ?_)) hb1)
            | (go_at_call 105; refine Calls.mono (KPc _ _ (cellAt (by simp))).out ?_; rintro e w2 ⟨rfl, rfl⟩))
          go_ret2
          exact givesS HR.out rfl (by repeat (first | assumption | exact Below.refl _ _ | refine Bl.alloc ?_ _ | refine Bl.drew ?_))
      · have HR := Lib.hid (show stripR (bts s) side (c.toNat : Int) = ([], 1) by unfold stripR guardR; simp [hs0])
        clear hv0 hv1 hss
        go_enter Tryd.func23, Tryd.ntmps23
        go_wp2_with (first
          | (go_at_call 99; refine Calls.mono (KVs _ _ (by simp) (At.new1 _ _ _)).out ?_; rintro e w1 ⟨rfl, hb1⟩; have B1 : Below w.heap.size w w1 := Bl.step (by repeat (first | assumption | exact Below.refl _ _ | refine Bl.alloc ?_ _ | refine Bl.drew ?_)) hb1)
          | (go_at_call 105; refine Calls.mono (KPc _ _ (cellAt (by simp))).out ?_; rintro e w2 ⟨rfl, rfl⟩))
        go_ret2
        exact givesS HR.out rfl (by repeat (first | assumption | exact Below.refl _ _ | refine Bl.alloc ?_ _ | refine Bl.drew ?_))
end Go.Proofs.YtoilgjlbpimcpaaDoor
