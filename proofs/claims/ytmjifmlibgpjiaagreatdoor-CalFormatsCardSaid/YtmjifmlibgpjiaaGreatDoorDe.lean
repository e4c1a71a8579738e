/- Short formats; names of months and weekdays. -/
import Derived.Test.YtmjifmlibgpjiaaGreatDoorDd
import Derived.LoopN
namespace Go.Proofs.YtmjifmlibgpjiaaGreatDoor
open Go.RowKit Go.Shelf Tx
set_option linter.unusedVariables false
set_option maxRecDepth 100000

theorem mk_flds (w : World) : (Instr.makeSlice 107 (.int .i64 3) (.int .i64 3)).run Tryz.prog w = .ok (.slice (some ⟨w.heap.size, 0, none⟩) 3 3) (w.alloc (.cells #[.int .i64 0, .int .i64 0, .int .i64 0, .int .i64 0, .int .i64 0, .int .i64 0] 99)) := by
  first | rfl | kernel_rfl | (simp [go_sem]; rfl)
namespace Tx
def shortL (a b c : Nat) : List UInt8 := Lib.join [padd a 2, padd b 2, padd c 2] [47]
end Tx
set_option maxHeartbeats 4000000 in
theorem shortE_any (q : Nat) (y m k : Nat) (w : World) (hy : y ≤ 9999) (hm : m ≤ 12) (hk : k ≤ 31) (hq : BoxC w q 3 #[.int .i64 2, .int .i64 1, .int .i64 0]) (hE : Env w) :
    Calls Tryz.prog 126 #[dtV y m k, .slice (some ⟨q, 0, none⟩) 3 3] w (GivesS w (shortL (k % 100) (m % 100) (y % 100))) := by
  have hlt := hq.lt
  have q0 := hq.cell (i := 0) rfl
  have q1 := hq.cell (i := 1) rfl
  have q2 := hq.cell (i := 2) rfl
  obtain ⟨a, ha⟩ : ∃ a, a = y % 100 := ⟨_, rfl⟩
  obtain ⟨b, hb⟩ : ∃ b, b = m % 100 := ⟨_, rfl⟩
  obtain ⟨c, hc⟩ : ∃ c, c = k % 100 := ⟨_, rfl⟩
  have ea : (y : Int) % 100 = (a : Int) := by omega
  have eb : (m : Int) % 100 = (b : Int) := by omega
  have ec : (k : Int) % 100 = (c : Int) := by omega
  have KJ := fun (W : World) (B : Nat) (hB : BoxC W B 99 #[.int .i64 (c : Int), .int .i64 2, .int .i64 (b : Int), .int .i64 2, .int .i64 (a : Int), .int .i64 2]) (hW : Env W) => Lib.hid (joined_any ⟨#[47]⟩ B [(c, 2), (b, 2), (a, 2)] W (by simp) (by simp) (by
    intro f hf
    rw [pow19]
    simp at hf
    rcases hf with rfl | rfl | rfl <;> dsimp only <;> omega) (by decide) (fieldsAt_of c 2 b 2 a 2 hB) hB.lt hW)
  rw [← ha, ← hb, ← hc]
  have HE := Lib.hid hE
  have hmk := mk_flds
  unfold dtV
  clear hE hy hm hk hq ha hb hc
  go_enter Tryz.func126, Tryz.ntmps126
  go_wp2
  refine wp_loop_rounds 4 ?_
  rw [rounds_succ]; go_wp2
  rw [rounds_succ]; go_wp2
  rw [rounds_succ]; go_wp2
  rw [rounds_succ]
  go_wp2_with (go_at_call 79; refine Calls.mono (KJ _ _ (by repeat (first | exact BoxC.newAt (by simp) | refine BoxC.drew ?_ | refine BoxC.alloc ?_ _)) (by exact HE.out.below (by repeat (first | exact Below.refl _ _ | refine Bl.alloc ?_ _ | refine Bl.drew ?_)))).out ?_; rintro e w3 ⟨t, rfl, ht, hb3⟩)
  go_ret
  exact ⟨t, rfl, Lib.hid (by rw [ht.out]; rfl), Bl.step (by repeat (first | exact Below.refl _ _ | refine Bl.alloc ?_ _ | refine Bl.drew ?_)) hb3⟩
set_option maxHeartbeats 1000000 in
theorem european_any (y m k : Nat) (w : World) (hy : y ≤ 9999) (hm : m ≤ 12) (hk : k ≤ 31) (hE : Env w) :
    Calls Tryz.prog 90 #[dtV y m k] w (GivesS w (shortL (k % 100) (m % 100) (y % 100))) := by
  have KS := fun (W : World) (q : Nat) (hq : BoxC W q 3 #[.int .i64 2, .int .i64 1, .int .i64 0]) (hW : Env W) => Lib.hid (shortE_any q y m k W hy hm hk hq hW)
  have HE := Lib.hid hE
  unfold dtV at KS ⊢
  clear hE hy hm hk
  go_enter Tryz.func90, Tryz.ntmps90
  go_wp2_with (go_at_call 126; refine Calls.mono (KS _ _ (by repeat (first | exact BoxC.newAt (by simp) | refine BoxC.drew ?_ | refine BoxC.alloc ?_ _)) (by exact HE.out.below (by repeat (first | exact Below.refl _ _ | refine Bl.alloc ?_ _ | refine Bl.drew ?_)))).out ?_; rintro e w3 ⟨t, rfl, ht, hb3⟩)
  go_ret
  exact ⟨t, rfl, ht, Bl.step (by repeat (first | exact Below.refl _ _ | refine Bl.alloc ?_ _ | refine Bl.drew ?_)) hb3⟩
set_option maxHeartbeats 4000000 in
theorem shortO_any (q : Nat) (y m k : Nat) (w : World) (hy : y ≤ 9999) (hm : m ≤ 12) (hk : k ≤ 31) (hq : BoxC w q 3 #[.int .i64 0, .int .i64 1, .int .i64 2]) (hE : Env w) :
    Calls Tryz.prog 126 #[dtV y m k, .slice (some ⟨q, 0, none⟩) 3 3] w (GivesS w (shortL (y % 100) (m % 100) (k % 100))) := by
  have hlt := hq.lt
  have q0 := hq.cell (i := 0) rfl
  have q1 := hq.cell (i := 1) rfl
  have q2 := hq.cell (i := 2) rfl
  obtain ⟨a, ha⟩ : ∃ a, a = y % 100 := ⟨_, rfl⟩
  obtain ⟨b, hb⟩ : ∃ b, b = m % 100 := ⟨_, rfl⟩
  obtain ⟨c, hc⟩ : ∃ c, c = k % 100 := ⟨_, rfl⟩
  have ea : (y : Int) % 100 = (a : Int) := by omega
  have eb : (m : Int) % 100 = (b : Int) := by omega
  have ec : (k : Int) % 100 = (c : Int) := by omega
  have KJ := fun (W : World) (B : Nat) (hB : BoxC W B 99 #[.int .i64 (a : Int), .int .i64 2, .int .i64 (b : Int), .int .i64 2, .int .i64 (c : Int), .int .i64 2]) (hW : Env W) => Lib.hid (joined_any ⟨#[47]⟩ B [(a, 2), (b, 2), (c, 2)] W (by simp) (by simp) (by
    intro f hf
    rw [pow19]
    simp at hf
    rcases hf with rfl | rfl | rfl <;> dsimp only <;> omega) (by decide) (fieldsAt_of a 2 b 2 c 2 hB) hB.lt hW)
  rw [← ha, ← hb, ← hc]
  have HE := Lib.hid hE
  have hmk := mk_flds
  unfold dtV
  clear hE hy hm hk hq ha hb hc
  go_enter Tryz.func126, Tryz.ntmps126
  go_wp2
  refine wp_loop_rounds 4 ?_
  rw [rounds_succ]; go_wp2
  rw [rounds_succ]; go_wp2
  rw [rounds_succ]; go_wp2
  rw [rounds_succ]
  go_wp2_with (go_at_call 79; refine Calls.mono (KJ _ _ (by repeat (first | exact BoxC.newAt (by simp) | refine BoxC.drew ?_ | refine BoxC.alloc ?_ _)) (by exact HE.out.below (by repeat (first | exact Below.refl _ _ | refine Bl.alloc ?_ _ | refine Bl.drew ?_)))).out ?_; rintro e w3 ⟨t, rfl, ht, hb3⟩)
  go_ret
  exact ⟨t, rfl, Lib.hid (by rw [ht.out]; rfl), Bl.step (by repeat (first | exact Below.refl _ _ | refine Bl.alloc ?_ _ | refine Bl.drew ?_)) hb3⟩
set_option maxHeartbeats 1000000 in
theorem ordered_any (y m k : Nat) (w : World) (hy : y ≤ 9999) (hm : m ≤ 12) (hk : k ≤ 31) (hE : Env w) :
    Calls Tryz.prog 94 #[dtV y m k] w (GivesS w (shortL (y % 100) (m % 100) (k % 100))) := by
  have KS := fun (W : World) (q : Nat) (hq : BoxC W q 3 #[.int .i64 0, .int .i64 1, .int .i64 2]) (hW : Env W) => Lib.hid (shortO_any q y m k W hy hm hk hq hW)
  have HE := Lib.hid hE
  unfold dtV at KS ⊢
  clear hE hy hm hk
  go_enter Tryz.func94, Tryz.ntmps94
  go_wp2_with (go_at_call 126; refine Calls.mono (KS _ _ (by repeat (first | exact BoxC.newAt (by simp) | refine BoxC.drew ?_ | refine BoxC.alloc ?_ _)) (by exact HE.out.below (by repeat (first | exact Below.refl _ _ | refine Bl.alloc ?_ _ | refine Bl.drew ?_)))).out ?_; rintro e w3 ⟨t, rfl, ht, hb3⟩)
  go_ret
  exact ⟨t, rfl, ht, Bl.step (by repeat (first | exact Below.refl _ _ | refine Bl.alloc ?_ _ | refine Bl.drew ?_)) hb3⟩
set_option maxHeartbeats 4000000 in
theorem shortU_any (q : Nat) (y m k : Nat) (w : World) (hy : y ≤ 9999) (hm : m ≤ 12) (hk : k ≤ 31) (hq : BoxC w q 3 #[.int .i64 1, .int .i64 2, .int .i64 0]) (hE : Env w) :
    Calls Tryz.prog 126 #[dtV y m k, .slice (some ⟨q, 0, none⟩) 3 3] w (GivesS w (shortL (m % 100) (k % 100) (y % 100))) := by
  have hlt := hq.lt
  have q0 := hq.cell (i := 0) rfl
  have q1 := hq.cell (i := 1) rfl
  have q2 := hq.cell (i := 2) rfl
  obtain ⟨a, ha⟩ : ∃ a, a = y % 100 := ⟨_, rfl⟩
  obtain ⟨b, hb⟩ : ∃ b, b = m % 100 := ⟨_, rfl⟩
  obtain ⟨c, hc⟩ : ∃ c, c = k % 100 := ⟨_, rfl⟩
  have ea : (y : Int) % 100 = (a : Int) := by omega
  have eb : (m : Int) % 100 = (b : Int) := by omega
  have ec : (k : Int) % 100 = (c : Int) := by omega
  have KJ := fun (W : World) (B : Nat) (hB : BoxC W B 99 #[.int .i64 (b : Int), .int .i64 2, .int .i64 (c : Int), .int .i64 2, .int .i64 (a : Int), .int .i64 2]) (hW : Env W) => Lib.hid (joined_any ⟨#[47]⟩ B [(b, 2), (c, 2), (a, 2)] W (by simp) (by simp) (by
    intro f hf
    rw [pow19]
    simp at hf
    rcases hf with rfl | rfl | rfl <;> dsimp only <;> omega) (by decide) (fieldsAt_of b 2 c 2 a 2 hB) hB.lt hW)
  rw [← ha, ← hb, ← hc]
  have HE := Lib.hid hE
  have hmk := mk_flds
  unfold dtV
  clear hE hy hm hk hq ha hb hc
  go_enter Tryz.func126, Tryz.ntmps126
  go_wp2
  refine wp_loop_rounds 4 ?_
  rw [rounds_succ]; go_wp2
  rw [rounds_succ]; go_wp2
  rw [rounds_succ]; go_wp2
  rw [rounds_succ]
  go_wp2_with (go_at_call 79; refine Calls.mono (KJ _ _ (by repeat (first | exact BoxC.newAt (by simp) | refine BoxC.drew ?_ | refine BoxC.alloc ?_ _)) (by exact HE.out.below (by repeat (first | exact Below.refl _ _ | refine Bl.alloc ?_ _ | refine Bl.drew ?_)))).out ?_; rintro e w3 ⟨t, rfl, ht, hb3⟩)
  go_ret
  exact ⟨t, rfl, Lib.hid (by rw [ht.out]; rfl), Bl.step (by repeat (first | exact Below.refl _ _ | refine Bl.alloc ?_ _ | refine Bl.drew ?_)) hb3⟩
set_option maxHeartbeats 1000000 in
theorem usa_any (y m k : Nat) (w : World) (hy : y ≤ 9999) (hm : m ≤ 12) (hk : k ≤ 31) (hE : Env w) :
    Calls Tryz.prog 96 #[dtV y m k] w (GivesS w (shortL (m % 100) (k % 100) (y % 100))) := by
  have KS := fun (W : World) (q : Nat) (hq : BoxC W q 3 #[.int .i64 1, .int .i64 2, .int .i64 0]) (hW : Env W) => Lib.hid (shortU_any q y m k W hy hm hk hq hW)
  have HE := Lib.hid hE
  unfold dtV at KS ⊢
  clear hE hy hm hk
  go_enter Tryz.func96, Tryz.ntmps96
  go_wp2_with (go_at_call 126; refine Calls.mono (KS _ _ (by repeat (first | exact BoxC.newAt (by simp) | refine BoxC.drew ?_ | refine BoxC.alloc ?_ _)) (by exact HE.out.below (by repeat (first | exact Below.refl _ _ | refine Bl.alloc ?_ _ | refine Bl.drew ?_)))).out ?_; rintro e w3 ⟨t, rfl, ht, hb3⟩)
  go_ret
  exact ⟨t, rfl, ht, Bl.step (by repeat (first | exact Below.refl _ _ | refine Bl.alloc ?_ _ | refine Bl.drew ?_)) hb3⟩
end Go.Proofs.YtmjifmlibgpjiaaGreatDoor
