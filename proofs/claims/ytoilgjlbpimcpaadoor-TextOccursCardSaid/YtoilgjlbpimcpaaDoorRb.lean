/- Count. -/
import Derived.Test.YtoilgjlbpimcpaaDoorRa
import Derived.Test.YtoilgjlbpimcpaaDoorTv
namespace Go.Proofs.YtoilgjlbpimcpaaDoor
open Go.RowKit Go.Shelf Tx
set_option linter.unusedVariables false
set_option maxRecDepth 100000
attribute [local go_sem] Oper.semAt_some

/-- Between two rounds: so many have come. -/
structure CtAt (w : World) (C p s : Nat) (pre : List (Off p s)) (W : World) : Prop where
  c : Boxed W C 3 (.int .i64 (pre.length : Int))
  b : Below w.heap.size w W
theorem CtAt.own (w : World) (C p s B : Nat) (hB : w.heap.size ≤ B) : OwnFrom B (CtAt w C p s) := by
  rintro pre X Y row ⟨h1, h5⟩ hg hrow
  exact ⟨h1.kept hg (boxed_not_row (fun r e => (hrow r e).2) h1), h5.grown hg h5.size (fun k e => Nat.le_trans hB (hrow k e).1)⟩
theorem cell_set_other {W : World} {C b : Nat} {v : Value} (h : b ≠ C) : (W.setCell ⟨C, 0, none⟩ v).cell? ⟨b, 0, none⟩ = W.cell? ⟨b, 0, none⟩ := by
  simp [World.setCell, World.cell?, Array.getElem?_modify, Ne.symm h]
set_option maxHeartbeats 4000000 in
theorem Count_any (p s : ByteArray) (w : World) (hsp : p.size ≤ maxLen) (hss : s.size ≤ maxLen) :
    Calls Tryd.prog 43 #[.string p, .string s] w (GivesN w (countR (bts p) (bts s))) := by
  have KVps := fun (W : World) (pp : Nat) (hp : pp < W.heap.size) (hc : At W pp [.string p, .string s]) => Lib.hid (areValid2 pp p s W hsp hss hp hc)
  cases hv0 : validL (bts p) && validL (bts s) with
  | false =>
    rw [hv0] at KVps
    have HR := Lib.hid (show countR (bts p) (bts s) = (0, 1) by unfold countR guardN; rw [hv0]; rfl)
    clear hv0
    rw [← callsIn_wide (n := 3)]
    refine callsIn_of_wp_marks Tryd.func43 rfl trivial ?_ rfl
    simp only [Tryd.ntmps43, List.size_toArray, List.length_cons, List.length_nil, Nat.reduceAdd, Nat.reduceSub, Array.replicate_succ, Array.replicate_zero, List.push_toArray, List.append_toArray, List.nil_append, List.cons_append]
    gi_wp2_with (first
      | (refine ⟨trivial, ?_⟩; gi_at_call 99; refine CallsIn.mono (callsIn_wide.2 (KVps _ _ (by simp) (At.new2 _ _ _ _)).out) ?_; rintro e w1 ⟨rfl, hb1⟩; have B1 : Below w.heap.size w w1 := Bl.step (by repeat (first | assumption | exact Below.refl _ _ | refine Bl.alloc ?_ _ | refine Bl.drew ?_)) hb1)
      | (refine ⟨trivial, ?_⟩; rename_i hKK; refine hKK _ _ ?_))
    gi_wp2
    refine ⟨_, results_tmp2 rfl _ _ _, ?_⟩
    exact givesN HR.out (by repeat (first | assumption | exact Below.refl _ _ | refine Bl.alloc ?_ _ | refine Bl.drew ?_))
  | true =>
    rw [hv0] at KVps
    have hlen := valid_le (Bool.and_eq_true_iff.1 hv0).1
    have hlen2 := valid_le (Bool.and_eq_true_iff.1 hv0).2
    have HR := Lib.hid (show countR (bts p) (bts s) = (((occs (bts p) (bts s)).length : Int), 0) by unfold countR guardN; rw [hv0]; rfl)
    clear hv0
    rw [← callsIn_wide (n := 3)]
    refine callsIn_of_wp_marks Tryd.func43 rfl trivial ?_ rfl
    simp only [Tryd.ntmps43, List.size_toArray, List.length_cons, List.length_nil, Nat.reduceAdd, Nat.reduceSub, Array.replicate_succ, Array.replicate_zero, List.push_toArray, List.append_toArray, List.nil_append, List.cons_append]
    gi_wp2_with (first
      | (refine ⟨trivial, ?_⟩; gi_at_call 99; refine CallsIn.mono (callsIn_wide.2 (KVps _ _ (by simp) (At.new2 _ _ _ _)).out) ?_; rintro e w1 ⟨rfl, hb1⟩; have B1 : Below w.heap.size w w1 := Bl.step (by repeat (first | assumption | exact Below.refl _ _ | refine Bl.alloc ?_ _ | refine Bl.drew ?_)) hb1)
      | (refine ⟨trivial, ?_⟩; gi_at_call 119; (with_reducible refine CallsIn.mono (callsIn_wide.2 (occurrences_any _ _ _)) ?_); rintro e w7 ⟨rfl, rfl⟩)
      | (refine ⟨trivial, ?_⟩; rename_i hKK; refine hKK _ _ ?_))
    obtain ⟨C, hC⟩ : ∃ C, C = w1.heap.size := ⟨_, rfl⟩
    obtain ⟨D, hD⟩ : ∃ D, D = C + 1 := ⟨_, rfl⟩
    obtain ⟨W8, hW8⟩ : ∃ W8, W8 = ((w1.alloc (.cells #[.int .i64 0] 3)).alloc (.cells #[.string p] 9)).alloc (.cells #[.string s] 9) := ⟨_, rfl⟩
    have hz8 : W8.heap.size = D + 1 + 1 := by rw [hW8, hD, hC]; simp
    have hB8 : Below w.heap.size w W8 := by rw [hW8]; exact Bl.alloc (Bl.alloc (Bl.alloc B1 _) _) _
    have hbx : Boxed W8 C 3 (.int .i64 0) := by rw [hW8, hC]; exact ((Boxed.new w1 3 (.int .i64 0)).alloc _).alloc _
    have cP : W8.cell? ⟨D, 0, none⟩ = some (.string p) := by rw [hW8, hD, hC]; exact cellUp (cellAt (by simp)) (by simp)
    have cS : W8.cell? ⟨D + 1, 0, none⟩ = some (.string s) := by rw [hW8, hD, hC]; exact cellAt (by simp)
    have HSTP := Lib.hid (occ_stops (D + 1) D p s W8 (by omega) (by omega) cS cP)
    have hwC : w.heap.size ≤ C := by rw [hC]; exact B1.size
    have HB8 := Lib.hid hB8
    rw [← hW8, ← hC, ← hD]
    clear hW8 hB8 cP cS hb1 B1 hC
    refine wpIn_rangeFunc_ownG rfl (by omega) (gf := 158) (lb := #[.pointer (some ⟨D + 1, 0, none⟩), .pointer (some ⟨D, 0, none⟩)]) rfl trivial (enters_of Tryd.func158 (by kernel_rfl) rfl) (HSTP.out _ (Below.refl _ _)) (fun h k => ⟨k.1.trans h.1, k.2.trans h.2⟩) (fun W l o o' hl _ _ _ => ⟨World.cell?_of_block (World.putObj_heap_other (by first | (simp; done) | (simp; omega))), World.cell?_of_block (World.putObj_heap_other (by first | (simp; done) | (simp; omega)))⟩) (Below.refl _ _) (fun _ => rfl)
      (CtAt w C p.size s.size) (fun _ _ _ => False) (CtAt.own _ _ _ _ _ HB8.out.size) (fun _ _ _ _ _ hs _ _ => hs)
      ⟨hbx, HB8.out⟩
      (fun y => { tmps := #[.string p, .string s, undef, undef, .int .i64 0, .int .i64 0, .pointer (some ⟨C, 0, none⟩), .string p, .string s, .slice (some ⟨w.heap.size, 0, none⟩) 2 2, .bool true, .bool false, .string p, .string s, .func (.func 158) #[] #[.pointer (some ⟨D + 1, 0, none⟩), .pointer (some ⟨D, 0, none⟩)], .int .i64 y.1, undef, undef, undef], defers := [] }) ?assign ?body ?done ?stop
    case assign =>
      intro l y W K hK
      gi_wp2
      simpa using hK
    case body =>
      rintro l pre y W ⟨hc, hb⟩ hlt
      have c0 := hc.cell
      have f0 := hc.frozen
      obtain ⟨n, hn⟩ : ∃ n, n = pre.length := ⟨_, rfl⟩
      have HN := Lib.hid hn
      rw [← hn] at c0 hlt
      have hwn : IntKind.i64.wrap ((n : Int) + 1) = (n : Int) + 1 := IntWalk.i64_in _ (by omega)
      have HB := Lib.hid hb
      have HC := Lib.hid hc
      clear hb hc hn hlt
      gi_wp2
      refine ⟨(KeepsOthers.setCell _ _ _).from _, ⟨cell_set_other (by omega), cell_set_other (by omega)⟩, ?_, HB.out.setCell (p := ⟨C, 0, none⟩) (by first | (simp; done) | (simp; omega)) _⟩
      rw [List.length_append, ← HN.out]
      exact HC.out.set _
    case done =>
      rintro DD ys W hDD hys ⟨hc, hb⟩ hK
      have hle : ys.length = (occs (bts p) (bts s)).length := by rw [← hys, List.length_map]
      rw [hle] at hc
      have c0 := hc.cell
      have HB := Lib.hid hb
      have HK := Lib.hid hK
      have HDD := Lib.hid hDD
      clear hys hb hc hK hDD hle
      gi_wp2
      refine ⟨by simp, .inl ⟨_, _, rfl, run_takeDeferred HK.out, ?_⟩⟩
      refine ⟨_, results_tmp2 rfl _ _ _, ?_⟩
      exact givesN HR.out (HB.out.trans (belowK_b (w := w) (Nat.le_refl _) W DD _ (.deferred none) (by have := HDD.out; have := HB8.out.size; omega) HK.out rfl rfl))
    case stop =>
      rintro DD c pre W _ _ h _
      exact h.elim
end Go.Proofs.YtoilgjlbpimcpaaDoor
