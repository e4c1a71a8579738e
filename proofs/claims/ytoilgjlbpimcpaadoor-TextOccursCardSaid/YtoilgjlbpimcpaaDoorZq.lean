/- Abbrev of both programs; the other program's at, has. -/
import Derived.Test.YtoilgjlbpimcpaaDoorZf
import Derived.Test.YtoilgjlbpimcpaaDoorTc
namespace Go.Proofs.YtoilgjlbpimcpaaDoor
open Go.RowKit Go.Shelf Tx
set_option linter.unusedVariables false
set_option maxRecDepth 100000

namespace Tx
/-- The second list stands in the first one at i. -/
def atB (l m : List UInt8) (i : Nat) : Bool := decide (i + m.length ≤ l.length) && decide ((l.drop i).take m.length = m)
end Tx
theorem toList_bts (s : ByteArray) : s.toList = bts s := by simp [bts, ByteArray.toList_eq]
set_option maxHeartbeats 1000000 in
theorem Rat_any (p s : ByteArray) (i : Nat) (w : World) (hp : p.size ≤ 1000000) (hs : s.size ≤ 1000000) (hi : i ≤ 1000000) :
    Calls Tryd.prog 124 #[.string p, .string s, .int .i64 i] w fun e w' => e = .returned (.bool (atB (bts s) (bts p) i)) ∧ w = w' := by
  have hw : IntKind.i64.wrap ((i : Int) + (p.size : Int)) = (i : Int) + (p.size : Int) := IntWalk.i64_in _ (by omega)
  by_cases h : i + p.size ≤ s.size
  · have hI : (i : Int) + (p.size : Int) ≤ (s.size : Int) := by omega
    have hI0 : (0 : Int) ≤ (i : Int) + (p.size : Int) := by omega
    have hI1 : (i : Int) ≤ (i : Int) + (p.size : Int) := by omega
    have ht : ((i : Int) + (p.size : Int)).toNat = i + p.size := by omega
    have hx : bts (s.extract i (i + p.size)) = ((bts s).drop i).take p.size := by rw [bts_extract, Nat.add_sub_cancel_left]
    by_cases he : ((bts s).drop i).take p.size = bts p
    · have HR := Lib.hid (show atB (bts s) (bts p) i = true by unfold atB; rw [bts_length, bts_length, he]; simp [h])
      have heq : (s.extract i (i + p.size)).toList = p.toList := by rw [toList_bts, toList_bts, hx, he]
      clear he hx
      go_enter Tryd.func124, Tryd.ntmps124
      go_wp2
      go_ret
      exact ⟨ret_b (by rw [HR.out]; first | done | simp [heq]), rfl⟩
    · have HR := Lib.hid (show atB (bts s) (bts p) i = false by unfold atB; rw [bts_length, bts_length]; simp [he])
      have heq : ¬ (s.extract i (i + p.size)).toList = p.toList := by rw [toList_bts, toList_bts, hx]; exact he
      clear he hx
      go_enter Tryd.func124, Tryd.ntmps124
      go_wp2
      go_ret
      exact ⟨ret_b (by rw [HR.out]; first | done | simp [heq]), rfl⟩
  · have HR := Lib.hid (show atB (bts s) (bts p) i = false by unfold atB; rw [bts_length, bts_length]; simp [h])
    have hI : ¬ (i : Int) + (p.size : Int) ≤ (s.size : Int) := by omega
    clear h
    go_enter Tryd.func124, Tryd.ntmps124
    go_wp2
    go_ret
    exact ⟨ret_b (by rw [HR.out]), rfl⟩
set_option maxHeartbeats 1000000 in
theorem Rhas_any (s : ByteArray) (c : UInt8) (w : World) (hs : s.size ≤ 1000000) :
    Calls Tryd.prog 129 #[.string s, .int .u8 (c.toNat : Int)] w fun e w' => e = .returned (.bool (decide (c ∈ bts s))) ∧ w = w' := by
  go_enter Tryd.func129, Tryd.ntmps129
  go_wp2
  go_loop [5] (fun i => ∃ k : Nat, i = .int .i64 k ∧ k ≤ s.size ∧ Hid (c ∉ (bts s).take k)) (fun i => s.size - (intOf i).toNat)
  case atStart => exact ⟨0, rfl, Nat.zero_le _, Lib.hid (by simp)⟩
  case round =>
    obtain ⟨k, rfl, hk, hq⟩ := hrel
    by_cases hlt : k < s.size
    · have HG := Lib.hid (bts_get s hlt)
      by_cases hc : s[k] = c
      · have hci : (s[k].toNat : Int) = (c.toNat : Int) := by rw [hc]
        have HR := Lib.hid (show decide (c ∈ bts s) = true from decide_eq_true (List.mem_of_getElem? (by rw [HG.out, hc])))
        clear hc
        go_wp2
        go_ret
        exact ⟨ret_b HR.out.symm, rfl⟩
      · have hci : ¬ (s[k].toNat : Int) = (c.toNat : Int) := fun h => hc (UInt8.toNat_inj.1 (by omega))
        have HN := Lib.hid (show c ∉ (bts s).take (k + 1) by
          rw [take_snoc _ _ _ HG.out]
          intro h
          rcases List.mem_append.1 h with h | h
          · exact hq.out h
          · exact hc (List.mem_singleton.1 h).symm)
        clear hc
        go_wp2
        go_round
        case rel => exact ⟨k + 1, by go_num, by omega, HN⟩
        case measure => simp [intOf]; omega
    · obtain rfl : k = s.size := by omega
      have HR := Lib.hid (show decide (c ∈ bts s) = false from decide_eq_false (by have := hq.out; rwa [List.take_of_length_le (by rw [bts_length]; exact Nat.le_refl _)] at this))
      go_wp2
      go_ret
      exact ⟨ret_b HR.out.symm, rfl⟩
end Go.Proofs.YtoilgjlbpimcpaaDoor
