/- The values of digits: the strings that have none. -/
import Derived.Test.YtoilgjlbpimcpaaDoorTw
namespace Go.Proofs.YtoilgjlbpimcpaaDoor
open Go.RowKit Go.Shelf Tx
set_option linter.unusedVariables false
set_option maxRecDepth 100000

theorem dig_none {w wr : World} {s : ByteArray} {size base : Nat} (hd : Dig0 w s size base wr) :
    ((wr.setCell ⟨w.heap.size + 1 + 1 + 1, 0, none⟩ (.slice none 0 0)).setCell ⟨w.heap.size + 1 + 1 + 1 + 1, 0, none⟩ (.bool false)).cell? ⟨w.heap.size + 1 + 1 + 1, 0, none⟩ = some (.slice none 0 0) ∧
    ((wr.setCell ⟨w.heap.size + 1 + 1 + 1, 0, none⟩ (.slice none 0 0)).setCell ⟨w.heap.size + 1 + 1 + 1 + 1, 0, none⟩ (.bool false)).cell? ⟨w.heap.size + 1 + 1 + 1 + 1, 0, none⟩ = some (.bool false) ∧
    Below w.heap.size w ((wr.setCell ⟨w.heap.size + 1 + 1 + 1, 0, none⟩ (.slice none 0 0)).setCell ⟨w.heap.size + 1 + 1 + 1 + 1, 0, none⟩ (.bool false)) :=
  ⟨((hd.q1.set (.slice none 0 0)).other (B' := w.heap.size + 1 + 1 + 1 + 1) (by omega) (.bool false)).cell, ((hd.q2.other (B' := w.heap.size + 1 + 1 + 1) (by omega) (.slice none 0 0)).set (.bool false)).cell, (hd.b.setCell (p := ⟨w.heap.size + 1 + 1 + 1, 0, none⟩) (by simp; omega) _).setCell (p := ⟨w.heap.size + 1 + 1 + 1 + 1, 0, none⟩) (by simp; omega) _⟩

set_option maxHeartbeats 4000000 in
theorem digitValues_any (s : ByteArray) (size base : Nat) (w : World) (hss : s.size ≤ maxLen) (hz : 1 ≤ size) (hz2 : size ≤ 1000) (hb2 : 2 ≤ base) (hb16 : base ≤ 16) :
    Calls Tryd.prog 150 #[.string s, .int .i64 size, .int .i64 base] w (GivesD w (digitsL (bts s) size base)) := by
  have KV := fun (W : World) (pp : Nat) (hp : pp < W.heap.size) (hc : At W pp [.string s]) => Lib.hid (areValid1 pp s W hss hp hc)
  cases hv : validL (bts s) with
  | false =>
    have HR := Lib.hid (show digitsL (bts s) size base = none by unfold digitsL; rw [hv]; rfl)
    rw [hv] at KV
    have hmix : Tryd.prog.follows .mixedOrders = true := by kernel_rfl
    clear hv
    go_enter Tryd.func150, Tryd.ntmps150
    go_wp2
    obtain ⟨W0, hW0⟩ : ∃ W0, W0 = ((((w.alloc (.cells #[.string s] 9)).alloc (.cells #[.int .i64 size] 3)).alloc (.cells #[.int .i64 base] 3)).alloc (.cells #[.slice none 0 0] 89)).alloc (.cells #[.bool false] 4) := ⟨_, rfl⟩
    have hz0 : W0.heap.size = w.heap.size + 1 + 1 + 1 + 1 + 1 := by rw [hW0]; simp
    have HD0 := Lib.hid (show Dig0 w s size base W0 by rw [hW0]; exact Dig0.new w s size base)
    rw [← hW0]
    clear hW0
    have c0 := HD0.out.x0.cell
    have c0d : W0.drew.cell? ⟨w.heap.size, 0, none⟩ = some (.string s) := c0
    have c0a := fun o => cellUp (o := o) c0d (by simp [hz0]; omega)
    have KV0 := KV (W0.alloc (.cells #[.string s] 9)).drew (w.heap.size + 1 + 1 + 1 + 1 + 1) (by simp [hz0]) (by rw [← hz0]; exact At.new1 W0 (.string s) 9)
    clear KV
    go_region_with_o (first | (go_at_call 99; (with_reducible refine Calls.mono KV0.out ?_); rintro e w1 ⟨rfl, hb1⟩))
    all_goals have HD2 := Lib.hid (HD0.out.below ((((Below.refl _ W0).alloc (Nat.le_refl _) (.cells #[.string s] 9)).drew.trans (hb1.mono (by simp)))))
    all_goals have g1 := HD2.out.q1.cell
    all_goals have g2 := HD2.out.q2.cell
    all_goals have g3 := HD2.out.q1.frozen
    all_goals have g4 := HD2.out.q2.frozen
    all_goals clear hb1 c0 c0d c0a KV0
    all_goals go_wp2
    all_goals have z1 := (dig_none HD2.out).1
    all_goals have z2 := (dig_none HD2.out).2.1
    all_goals refine bodyPost_ret (v := .tuple #[.slice none 0 0, .bool false]) (by simp [results, Tryd.results150, go_sem, z1, z2]) rfl ?_
    all_goals exact ⟨_, _, rfl, (dig_none HD2.out).2.2, by rw [HR.out]; exact ⟨rfl, rfl⟩⟩
  | true =>
    by_cases hst : (Lib.trimB s.data.toList 32 == s.toList) = true
    · exact digitValues_ok s size base w hss hz hz2 hb2 hb16 hv hst
    · have hst' : (Lib.trimB s.data.toList 32 == s.toList) = false := by simpa using hst
      have HR := Lib.hid (show digitsL (bts s) size base = none by
        unfold digitsL
        rw [show (Lib.trimB (bts s) 32 == bts s) = false by simpa [bts, ByteArray.toList_eq] using hst']
        simp)
      have hlen := valid_le hv
      have KT := fun W => Lib.hid (Tryd.strings_Trim_one s 32 (by decide) W (by omega))
      rw [hv] at KV
      clear hv hst
      go_enter Tryd.func150, Tryd.ntmps150
      go_wp2
      obtain ⟨W0, hW0⟩ : ∃ W0, W0 = ((((w.alloc (.cells #[.string s] 9)).alloc (.cells #[.int .i64 size] 3)).alloc (.cells #[.int .i64 base] 3)).alloc (.cells #[.slice none 0 0] 89)).alloc (.cells #[.bool false] 4) := ⟨_, rfl⟩
      have hz0 : W0.heap.size = w.heap.size + 1 + 1 + 1 + 1 + 1 := by rw [hW0]; simp
      have HD0 := Lib.hid (show Dig0 w s size base W0 by rw [hW0]; exact Dig0.new w s size base)
      rw [← hW0]
      clear hW0
      have c0 := HD0.out.x0.cell
      have c0d : W0.drew.cell? ⟨w.heap.size, 0, none⟩ = some (.string s) := c0
      have c0a := fun o => cellUp (o := o) c0d (by simp [hz0]; omega)
      have KV0 := KV (W0.alloc (.cells #[.string s] 9)).drew (w.heap.size + 1 + 1 + 1 + 1 + 1) (by simp [hz0]) (by rw [← hz0]; exact At.new1 W0 (.string s) 9)
      go_region_held3 (fun w' => w'.cell? ⟨w.heap.size, 0, none⟩ = some (.string s))
        (first | exact c0 | exact c0a _ | exact k2 | exact k0 | go_keep)
        (first
          | (go_at_call 172; (with_reducible refine Calls.mono (KT _).out ?_); rintro e w2 ⟨rfl, hw2⟩; have k2 : w2.cell? ⟨w.heap.size, 0, none⟩ = some (.string s) := (by rcases hw2 with rfl | rfl <;> exact k0); have hb2 := below_or hw2; clear hw2)
          | (go_at_call 99; refine Calls.mono KV0.out ?_; rintro e w1 ⟨rfl, hb1⟩; have k0 := (hb1.cell (p := ⟨w.heap.size, 0, none⟩) (by simp [hz0]; omega)).trans (c0a _)))
      have HD2 := Lib.hid (HD0.out.below ((((Below.refl _ W0).alloc (Nat.le_refl _) (.cells #[.string s] 9)).drew.trans (hb1.mono (by simp))).trans (hb2.mono (Nat.le_trans (by simp) hb1.size))))
      have g1 := HD2.out.q1.cell
      have g2 := HD2.out.q2.cell
      have g3 := HD2.out.q1.frozen
      have g4 := HD2.out.q2.frozen
      clear hb1 hb2 k0 k2 c0 c0d c0a KV0 KT
      go_wp2
      have z1 := (dig_none HD2.out).1
      have z2 := (dig_none HD2.out).2.1
      refine bodyPost_ret (v := .tuple #[.slice none 0 0, .bool false]) (by simp [results, Tryd.results150, go_sem, z1, z2]) rfl ?_
      exact ⟨_, _, rfl, (dig_none HD2.out).2.2, by rw [HR.out]; exact ⟨rfl, rfl⟩⟩
end Go.Proofs.YtoilgjlbpimcpaaDoor
