/- The year of a day, by a search. -/
import Derived.Test.YtmjifmlibgpjiaaGreatDoorCa
import Derived.BigQuiet
import Derived.Deep.QuietTactic
import Derived.WalkSmall
namespace Go.Proofs.YtmjifmlibgpjiaaGreatDoor
open Go.RowKit Tx
set_option linter.unusedVariables false
set_option maxRecDepth 100000

/-- A callee that draws nothing, or draws, in a region that only reads. -/
theorem quietS {P : Program} {f : FuncId} {args : Array Value} {w : World} {n : Nat} {v : Value}
    (h : Calls P f args (w.drewN n) fun e w' => e = .returned v ∧ w.drewN n = w') : Calls P f args (w.drewN n) fun e w'' => e = .returned v ∧ ∃ m, w'' = w.drewN m :=
  h.mono fun _ _ ⟨he, hm⟩ => ⟨he, n, hm.symm⟩
theorem quietD {P : Program} {f : FuncId} {args : Array Value} {w : World} {n : Nat} {v : Value}
    (h : Calls P f args (w.drewN n) fun e w' => e = .returned v ∧ ∃ m, (w.drewN n).drewN m = w') : Calls P f args (w.drewN n) fun e w'' => e = .returned v ∧ ∃ m, w'' = w.drewN m :=
  h.mono fun _ _ ⟨he, m, hm⟩ => ⟨he, n + m, by rw [← hm, World.drewN_drewN]⟩
set_option maxHeartbeats 800000 in
theorem dateOfF_any (k d b : Nat) (w : World) (hk : k ≤ 10000) (hc : w.cell? ⟨b, 0, none⟩ = some (.int .i64 (d : Int))) :
    Calls Tryz.prog 84 #[.int .i64 (k : Int), .pointer (some ⟨b, 0, none⟩)] w fun e w' => e = .returned (.bool (decide (d < bef k))) ∧ ∃ n, w.drewN n = w' := by
  have K := fun W => Lib.hid (firstDay_any k W (by omega))
  have hw1 : IntKind.i64.wrap ((k : Int) + 1) = (k : Int) + 1 := IntWalk.i64_in _ (by omega)
  obtain ⟨x, hx⟩ : ∃ x, x = bef k := ⟨_, rfl⟩
  have HX := Lib.hid hx
  rw [← hx] at K
  clear hk hx
  go_enter Tryz.func84, Tryz.ntmps84
  go_wp2
  go_quiet ((go_at_call 85; exact quietS (K _).out))
  go_wp2
  go_ret
  exact ⟨ret_b (by rw [← HX.out]), _, rfl⟩
set_option maxHeartbeats 1600000 in
theorem search_any (d b y : Nat) (w : World) (hy : IsYear d y) (h9 : y ≤ 9999) (hc : w.cell? ⟨b, 0, none⟩ = some (.int .i64 (d : Int))) (hb : b < w.heap.size) :
    Calls Tryz.prog 83 #[.int .i64 9999, .func (.func 84) #[] #[.pointer (some ⟨b, 0, none⟩)]] w fun e w' => e = .returned (.int .i64 (y : Int)) ∧ ∃ n, w.drewN n = w' := by
  have K := fun (k : Nat) (W : World) (hk : k ≤ 10000) (h : W.cell? ⟨b, 0, none⟩ = some (.int .i64 (d : Int))) => Lib.hid (dateOfF_any k d b W hk h)
  have HY := Lib.hid hy
  have HC := Lib.hid hc
  clear hy hc
  go_enter Tryz.func83, Tryz.ntmps83
  go_wp2
  go_loopw [5, 6, 7] (fun v5 v6 v7 wr => ∃ i j n : Nat, v5 = .int .i64 (i : Int) ∧ v6 = .int .i64 (j : Int) ∧ i ≤ y ∧ y ≤ j ∧ j ≤ 9999 ∧ wr = w.drewN n) (fun v5 v6 v7 _ => (intOf v6 - intOf v5).toNat)
  case atStart => exact ⟨0, 9999, 0, rfl, rfl, Nat.zero_le _, h9, Nat.le_refl _, rfl⟩
  case round =>
    obtain ⟨i, j, n, rfl, rfl, hi, hj, hj9, rfl⟩ := hrel
    by_cases hlt : i < j
    · have hs1 : IntKind.i64.wrap ((i : Int) + (j : Int)) = (i : Int) + (j : Int) := IntWalk.i64_in _ (by omega)
      have hm : ((i : Int) + (j : Int)) / 2 = (((i + j) / 2 : Nat) : Int) := by omega
      obtain ⟨k, hk⟩ : ∃ k, k = (i + j) / 2 := ⟨_, rfl⟩
      rw [← hk] at hm
      have hk10 : k ≤ 10000 := by omega
      have KK := fun (W : World) (h : W.cell? ⟨b, 0, none⟩ = some (.int .i64 (d : Int))) => K k W hk10 h
      have hw1 : IntKind.i64.wrap ((k : Int) + 1) = (k : Int) + 1 := IntWalk.i64_in _ (by omega)
      cases hd : decide (d < bef k) with
      | true =>
        rw [hd] at KK
        have HK2 := Lib.hid (show y ≤ k ∧ k < j by
          have h1 := of_decide_eq_true hd
          refine ⟨?_, by omega⟩
          rcases Nat.lt_or_ge k y with h | h
          · have := bef_mono (show k ≤ y - 1 by omega); have := HY.out.lo; omega
          · exact h)
        clear hd hk
        go_wp2_with (go_at_call 84; (try rw [hm]); refine Calls.mono (KK _ (by simpa using HC.out)).out ?_; rintro e w1 ⟨rfl, m, rfl⟩)
        go_roundw
        case rel => exact ⟨i, k, n + m, by go_num, by first | rfl | (simp only [hm]), hi, HK2.out.1, by have := HK2.out.2; omega, by first | rfl | rw [World.drewN_drewN]⟩
        case measure => have := HK2.out.2; simp [intOf]; omega
      | false =>
        rw [hd] at KK
        have HK2 := Lib.hid (show k + 1 ≤ y ∧ i ≤ k by
          have h1 := of_decide_eq_false hd
          refine ⟨?_, by omega⟩
          rcases Nat.lt_or_ge k y with h | h
          · exact h
          · have := bef_mono h; have := HY.out.hi; omega)
        clear hd hk
        go_wp2_with (go_at_call 84; (try rw [hm]); refine Calls.mono (KK _ (by simpa using HC.out)).out ?_; rintro e w1 ⟨rfl, m, rfl⟩)
        go_roundw
        case rel => exact ⟨k + 1, j, n + m, by first | go_num | (simp only [hm]; go_num), by go_num, by have := HK2.out; omega, hj, hj9, by first | rfl | rw [World.drewN_drewN]⟩
        case measure => have := HK2.out; simp [intOf]; omega
    · obtain rfl : i = y := by omega
      go_wp2
      go_ret
      exact ⟨rfl, _, rfl⟩
end Go.Proofs.YtmjifmlibgpjiaaGreatDoor
