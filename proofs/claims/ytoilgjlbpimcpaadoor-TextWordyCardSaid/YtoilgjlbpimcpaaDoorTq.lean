/- The table of a translation. -/
import Derived.Test.YtoilgjlbpimcpaaDoorTk
import Derived.Laws.Tables
import Derived.Laws.Rows
import Derived.Deep.OwnRows
import Derived.BigRegion
namespace Go.Proofs.YtoilgjlbpimcpaaDoor
open Go.RowKit Go.Shelf Tx
set_option linter.unusedVariables false
set_option maxRecDepth 100000

/-- A table: 256 bytes. -/
def IsTab (c : Array Value) (f : Nat → Nat) : Prop := c.size = 256 ∧ ∀ i, i < 256 → c[i]? = some (.int .u8 (f i : Int))
theorem IsTab.one {c : Array Value} {f : Nat → Nat} (h : IsTab c f) : c.all (·.oneCell') = true := by
  rw [Array.all_eq_true]
  intro i hi
  have := h.2 i (by rw [← h.1]; exact hi)
  rw [Array.getElem?_eq_getElem hi] at this
  injection this with this
  rw [this]; rfl
theorem zeroTab (w : World) : (zeroValue 141).run Tryd.prog w = .ok (.agg (Array.replicate 256 (.int .u8 0))) w := by kernel_rfl
theorem infoTab : (Tryd.prog.info? 141).map (·.size) = some 256 := by kernel_rfl

set_option maxHeartbeats 1000000 in
theorem sameTable_any (w : World) :
    Calls Tryd.prog 141 #[] w fun e w' => ∃ c, e = .returned (.agg c) ∧ IsTab c (fun i => i) ∧ Below w.heap.size w w' := by
  have hz := zeroTab
  go_enter Tryd.func141, Tryd.ntmps141
  go_wp2
  clear hz
  have r0 := World.rowIs_alloc w (Array.replicate 256 (Value.int .u8 0)) 141 (fun _ => .int .u8 0) (fun i hi => by rw [Array.getElem?_replicate, if_pos (by simpa using hi)])
  have r1 := World.rowIs_alloc (w.alloc (.cells (Array.replicate 256 (.int .u8 0)) 141)) (Array.replicate 256 (Value.int .u8 0)) 141 (fun _ => .int .u8 0) (fun i hi => by rw [Array.getElem?_replicate, if_pos (by simpa using hi)])
  have hB0 : Below w.heap.size w ((w.alloc (.cells (Array.replicate 256 (.int .u8 0)) 141)).alloc (.cells (Array.replicate 256 (.int .u8 0)) 141)) := Bl.alloc (Bl.alloc (Below.refl _ w) _) _
  have R0 := Lib.hid (r0.alloc (.cells (Array.replicate 256 (.int .u8 0)) 141))
  have R1 := Lib.hid r1
  have HB0 := Lib.hid hB0
  clear r0 r1 hB0
  go_loopw [3] (fun v wr => ∃ k : Nat, v = .int .i64 k ∧ k ≤ 256 ∧ Hid (wr.rowIs w.heap.size 141 256 (fun _ => .int .u8 0)) ∧ Hid (wr.rowIs (w.heap.size + 1) 141 256 (fun j => if j < k then .int .u8 (j : Int) else .int .u8 0)) ∧ Hid (Below w.heap.size w wr)) (fun v _ => 256 - (intOf v).toNat)
  case atStart => exact ⟨0, rfl, by omega, Lib.hid (by simpa using R0.out), Lib.hid (by simpa using R1.out), HB0⟩
  case round =>
    obtain ⟨k, rfl, hk, hr0, hr1, hb⟩ := hrel
    by_cases hlt : k < 256
    · have c1 := hr1.out.cell hlt
      have c2 := hr1.out.frozen k
      have hw : IntKind.u8.wrap (k : Int) = (k : Int) := by rw [IntKind.wrap_u8]; omega
      simp only [Nat.lt_irrefl, if_false] at c1
      go_wp2
      go_roundw
      case rel =>
        refine ⟨k + 1, by go_num, by omega, Lib.hid (hr0.out.setOther (by simp) _), Lib.hid ((hr1.out.set k _).congr (fun j hj => ?_)), Lib.hid (hb.out.setCell (p := ⟨w.heap.size + 1, k, none⟩) (by simp) _)⟩
        by_cases e : j = k
        · subst e; simp
        · by_cases e2 : j < k
          · rw [if_neg e, if_pos e2, if_pos (by omega)]
          · rw [if_neg e, if_neg e2, if_neg (by omega)]
      case measure => simp [intOf]; omega
    · obtain rfl : k = 256 := by omega
      obtain ⟨c0, hc0, hn0, _⟩ := hr0.out
      obtain ⟨c, hc1, hn1, hcc⟩ := hr1.out
      have hT : IsTab c (fun i => i) := ⟨hn1, fun i hi => by rw [hcc i hi]; simp [hi]⟩
      have hi1 : (Tryd.prog.info? 141).map (·.size) = some c.size := by rw [hn1]; exact infoTab
      have HT := Lib.hid hT
      have HE := Lib.hid (hn0.trans hn1.symm)
      have ho := hT.one
      clear hcc hT hn0 hn1
      go_wp2_with (first
        | (refine wpList_load_row rfl 141 _ rfl (w.heap.size + 1) rfl 141 c (0, 0) _ hc1 Tryd.underlying141 rfl hi1 ?_)
        | (refine wpList_store_row rfl 141 _ _ rfl w.heap.size c rfl rfl 141 c0 hc0 hi1 HE.out ho ?_))
      refine bodyPost_ret (results_cell_row rfl _ _ w.heap.size 141 c (0, 0) _ rfl (setRow_heap _ _ _ _ _ _ hc0) Tryd.underlying141 rfl hi1) rfl ?_
      exact ⟨c, rfl, HT.out, below_setRow hb.out (Nat.le_refl _) c⟩
end Go.Proofs.YtoilgjlbpimcpaaDoor
