/- The other program's digits. -/
import Derived.Test.YtoilgjlbpimcpaaDoorXf
import Derived.Test.YtoilgjlbpimcpaaDoorZa
namespace Go.Proofs.YtoilgjlbpimcpaaDoor
open Go.RowKit Go.Shelf Tx
set_option linter.unusedVariables false
set_option maxRecDepth 100000

namespace Tx
/-- The value of a digit of a base; -1 if it is none. -/
def rdV (base : Nat) (c : UInt8) : Int := if digOk base c then digV c else -1
def upB (c : UInt8) : UInt8 := if 97 ≤ c.toNat ∧ c.toNat ≤ 102 then c - 32 else c
theorem up_all : ∀ c : Fin 256, ∀ k : Fin 16, (upB (UInt8.ofNat c.val) = hexB (UInt8.ofNat k.val)) ↔ digV (UInt8.ofNat c.val) = (k.val : Int) := by decide +kernel
theorem up_iff {c : UInt8} {k : Nat} (hk : k < 16) : (upB c = hexB (UInt8.ofNat k)) ↔ digV c = (k : Int) := by
  have := up_all ⟨c.toNat, c.toNat_lt⟩ ⟨k, hk⟩
  simpa using this
theorem rdV_hit {c : UInt8} {k base : Nat} (hk : k < base) (hb : base ≤ 16) (h : upB c = hexB (UInt8.ofNat k)) : rdV base c = (k : Int) := by
  have h1 := (up_iff (by omega)).1 h
  unfold rdV digOk
  rw [h1]
  rw [if_pos (by simp; omega)]
theorem rdV_none {c : UInt8} {base : Nat} (hb : base ≤ 16) (h : ∀ k, k < base → upB c ≠ hexB (UInt8.ofNat k)) : rdV base c = -1 := by
  unfold rdV
  rw [if_neg]
  intro hok
  unfold digOk at hok
  rw [Bool.and_eq_true, decide_eq_true_eq, decide_eq_true_eq] at hok
  obtain ⟨k, hk⟩ := Int.eq_ofNat_of_zero_le hok.1
  exact h k (by omega) ((up_iff (by omega)).2 hk)
theorem num_getN {k : Nat} (h : k < 16) : numB[k]'(by exact h) = hexB (UInt8.ofNat k) := by
  have h1 := hexB_get ⟨k, h⟩
  exact (Array.getElem?_eq_some_iff.1 h1).2
theorem rdV_le (base : Nat) (c : UInt8) : -1 ≤ rdV base c ∧ rdV base c < 16 := by
  unfold rdV
  split
  · have := digV_le c; omega
  · omega
theorem upB_int {c : UInt8} (h1 : 97 ≤ c.toNat) (h2 : c.toNat ≤ 102) : ((upB c).toNat : Int) = (c.toNat : Int) - 32 := by
  unfold upB
  rw [if_pos ⟨h1, h2⟩, UInt8.toNat_sub]
  show (((2 ^ 8 - 32 + c.toNat) % 2 ^ 8 : Nat) : Int) = _
  omega
end Tx
set_option maxHeartbeats 2000000 in
theorem digit_any (c : UInt8) (base : Nat) (w : World) (hb : base ≤ 16) :
    Calls Tryd.prog 174 #[.int .u8 (c.toNat : Int), .int .i64 base] w fun e w' => e = .returned (.int .i64 (rdV base c)) ∧ w = w' := by
  obtain ⟨u, hu⟩ : ∃ u, u = upB c := ⟨_, rfl⟩
  have HU := Lib.hid hu
  have hcl := c.toNat_lt
  have hul := u.toNat_lt
  by_cases hA : 97 ≤ c.toNat ∧ c.toNat ≤ 102
  · obtain ⟨hA1, hA2⟩ := hA
    have hui : (u.toNat : Int) = (c.toNat : Int) - 32 := by rw [hu]; exact upB_int hA1 hA2
    have hw : IntKind.u8.wrap ((c.toNat : Int) - 32) = (u.toNat : Int) := by rw [hui, IntKind.wrap_u8]; omega
    have h1 : (97 : Int) ≤ (c.toNat : Int) := by omega
    have h2 : (c.toNat : Int) ≤ 102 := by omega
    clear hu hui
    go_enter Tryd.func174, Tryd.ntmps174
    go_wp2
    go_loop [5] (fun i => ∃ k : Nat, i = .int .i64 k ∧ k ≤ base ∧ Hid (∀ j, j < k → upB c ≠ hexB (UInt8.ofNat j))) (fun i => base - (intOf i).toNat)
    case atStart => exact ⟨0, rfl, Nat.zero_le _, Lib.hid (fun j h => by omega)⟩
    case round =>
      obtain ⟨k, rfl, hk, hq⟩ := hrel
      by_cases hlt : k < base
      · have hk16 : k < 16 := by omega
        have hnk := num_getN hk16
        unfold numB at hnk
        by_cases he : u = hexB (UInt8.ofNat k)
        · have HR := Lib.hid (rdV_hit hlt hb (by rw [← HU.out]; exact he))
          have hei : ((hexB (UInt8.ofNat k)).toNat : Int) = (u.toNat : Int) := by rw [he]
          clear he
          go_wp2
          go_ret
          exact ⟨by rw [HR.out]; rfl, rfl⟩
        · have HN := Lib.hid (show ∀ j, j < k + 1 → upB c ≠ hexB (UInt8.ofNat j) from fun j h => by
            by_cases e : j = k
            · subst e; rw [← HU.out]; exact he
            · exact hq.out j (by omega))
          have hei : ¬ ((hexB (UInt8.ofNat k)).toNat : Int) = (u.toNat : Int) := fun h => he (UInt8.toNat_inj.1 (by omega))
          clear he
          go_wp2
          go_round
          case rel => exact ⟨k + 1, by go_num, by omega, HN⟩
          case measure => simp [intOf]; omega
      · obtain rfl : k = base := by omega
        have HR := Lib.hid (rdV_none hb hq.out)
        go_wp2
        go_ret
        exact ⟨by rw [HR.out]; rfl, rfl⟩
  · have hui : u = c := by rw [hu]; unfold upB; rw [if_neg hA]
    by_cases h1 : 97 ≤ c.toNat
    · have h1' : (97 : Int) ≤ (c.toNat : Int) := by omega
      have h2' : (102 : Int) < (c.toNat : Int) := by omega
      have HUI := Lib.hid hui
      clear hu hui
      go_enter Tryd.func174, Tryd.ntmps174
      go_wp2
      rw [← HUI.out]
      go_loop [5] (fun i => ∃ k : Nat, i = .int .i64 k ∧ k ≤ base ∧ Hid (∀ j, j < k → upB c ≠ hexB (UInt8.ofNat j))) (fun i => base - (intOf i).toNat)
      case atStart => exact ⟨0, rfl, Nat.zero_le _, Lib.hid (fun j h => by omega)⟩
      case round =>
        obtain ⟨k, rfl, hk, hq⟩ := hrel
        by_cases hlt : k < base
        · have hk16 : k < 16 := by omega
          have hnk := num_getN hk16
          unfold numB at hnk
          by_cases he : u = hexB (UInt8.ofNat k)
          · have HR := Lib.hid (rdV_hit hlt hb (by rw [← HU.out]; exact he))
            have hei : ((hexB (UInt8.ofNat k)).toNat : Int) = (u.toNat : Int) := by rw [he]
            clear he
            go_wp2
            go_ret
            exact ⟨by rw [HR.out]; rfl, rfl⟩
          · have HN := Lib.hid (show ∀ j, j < k + 1 → upB c ≠ hexB (UInt8.ofNat j) from fun j h => by
              by_cases e : j = k
              · subst e; rw [← HU.out]; exact he
              · exact hq.out j (by omega))
            have hei : ¬ ((hexB (UInt8.ofNat k)).toNat : Int) = (u.toNat : Int) := fun h => he (UInt8.toNat_inj.1 (by omega))
            clear he
            go_wp2
            go_round
            case rel => exact ⟨k + 1, by go_num, by omega, HN⟩
            case measure => simp [intOf]; omega
        · obtain rfl : k = base := by omega
          have HR := Lib.hid (rdV_none hb hq.out)
          go_wp2
          go_ret
          exact ⟨by rw [HR.out]; rfl, rfl⟩
    · have h1' : (c.toNat : Int) < 97 := by omega
      have HUI := Lib.hid hui
      clear hu hui
      go_enter Tryd.func174, Tryd.ntmps174
      go_wp2
      rw [← HUI.out]
      go_loop [5] (fun i => ∃ k : Nat, i = .int .i64 k ∧ k ≤ base ∧ Hid (∀ j, j < k → upB c ≠ hexB (UInt8.ofNat j))) (fun i => base - (intOf i).toNat)
      case atStart => exact ⟨0, rfl, Nat.zero_le _, Lib.hid (fun j h => by omega)⟩
      case round =>
        obtain ⟨k, rfl, hk, hq⟩ := hrel
        by_cases hlt : k < base
        · have hk16 : k < 16 := by omega
          have hnk := num_getN hk16
          unfold numB at hnk
          by_cases he : u = hexB (UInt8.ofNat k)
          · have HR := Lib.hid (rdV_hit hlt hb (by rw [← HU.out]; exact he))
            have hei : ((hexB (UInt8.ofNat k)).toNat : Int) = (u.toNat : Int) := by rw [he]
            clear he
            go_wp2
            go_ret
            exact ⟨by rw [HR.out]; rfl, rfl⟩
          · have HN := Lib.hid (show ∀ j, j < k + 1 → upB c ≠ hexB (UInt8.ofNat j) from fun j h => by
              by_cases e : j = k
              · subst e; rw [← HU.out]; exact he
              · exact hq.out j (by omega))
            have hei : ¬ ((hexB (UInt8.ofNat k)).toNat : Int) = (u.toNat : Int) := fun h => he (UInt8.toNat_inj.1 (by omega))
            clear he
            go_wp2
            go_round
            case rel => exact ⟨k + 1, by go_num, by omega, HN⟩
            case measure => simp [intOf]; omega
        · obtain rfl : k = base := by omega
          have HR := Lib.hid (rdV_none hb hq.out)
          go_wp2
          go_ret
          exact ⟨by rw [HR.out]; rfl, rfl⟩
end Go.Proofs.YtoilgjlbpimcpaaDoor
