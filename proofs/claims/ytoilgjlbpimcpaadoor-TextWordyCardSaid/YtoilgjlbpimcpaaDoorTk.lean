/- The first of some offsets at which a part occurs. -/
import Derived.Test.YtoilgjlbpimcpaaDoorTj
import Derived.Test.YtoilgjlbpimcpaaDoorTr
import Derived.BigRegionIn
import Derived.Laws.EntriesVeiled
import Derived.Deep.QuietTactic
import Derived.BigQuiet
namespace Go.Proofs.YtoilgjlbpimcpaaDoor
open Go.RowKit Go.Shelf Tx
set_option linter.unusedVariables false
set_option maxRecDepth 100000
attribute [local go_sem] Oper.semAt_some

namespace Tx
/-- A part stands at an offset. -/
def occB (p l : List UInt8) (x : Int) : Bool := (l.drop x.toNat).take p.length == p
/-- The first of some offsets at which it stands; -1 if there is none. -/
def firstIn (p l : List UInt8) (L : List Int) : Int := if p = [] then -1 else (L.find? (occB p l)).getD (-1)
end Tx

/-- Counting up, as an iterator that may be stopped. -/
theorem up_stops (b1 b2 p s : Nat) (a b : Int) (w : World) (h0 : 0 ≤ a) (hb : b + p ≤ s) (hs : s ≤ 1000000) (hhi : a ≤ 9223372036854775806) (hlo2 : -1000000 ≤ b) (hhi2 : b ≤ 1000000)
    (hb1 : w.cell? ⟨b1, 0, none⟩ = some (.int .i64 a)) (hb2 : w.cell? ⟨b2, 0, none⟩ = some (.int .i64 b)) (hl1 : b1 < w.heap.size) (hl2 : b2 < w.heap.size) (w' : World) (hw' : Below w.heap.size w w') :
    SeqStopsK Fence.wide 2 Tryd.prog 156 #[.pointer (some ⟨b1, 0, none⟩), .pointer (some ⟨b2, 0, none⟩)] (fun x : Off p s => #[.int .i64 x.1]) (Below w.heap.size)
      (fun xs => xs.map (fun x => x.1) = run a 1 (b + 1 - a).toNat) (fun pre => ∃ r, pre.map (fun x => x.1) ++ r = run a 1 (b + 1 - a).toNat) (b + 1 - a).toNat w' := by
  intro l J Jx W hW hJ hJx hY hJ0
  have hz := hw'.size
  refine (up_in l b1 b2 p s w.heap.size a b h0 hb hs (by omega) hhi hlo2 hhi2 J Jx hY W ?_ ?_ hl1 hl2 (Nat.le_trans hz hW.size) hJ0).mono ?_
  · exact (hW.cell (p := ⟨b1, 0, none⟩) (by simpa using Nat.lt_of_lt_of_le hl1 hz)).trans ((hw'.cell (p := ⟨b1, 0, none⟩) hl1).trans hb1)
  · exact (hW.cell (p := ⟨b2, 0, none⟩) (by simpa using Nat.lt_of_lt_of_le hl2 hz)).trans ((hw'.cell (p := ⟨b2, 0, none⟩) hl2).trans hb2)
  · intro e W' h; exact h
theorem down_stops (b1 b2 p s : Nat) (a b : Int) (w : World) (h0 : 0 ≤ b) (hb : a + p ≤ s) (hs : s ≤ 1000000) (hlo : -1000000 ≤ a) (hhi : a ≤ 9223372036854775806) (hlo2 : -1000000 ≤ b) (hhi2 : b ≤ 1000000)
    (hb1 : w.cell? ⟨b1, 0, none⟩ = some (.int .i64 a)) (hb2 : w.cell? ⟨b2, 0, none⟩ = some (.int .i64 b)) (hl1 : b1 < w.heap.size) (hl2 : b2 < w.heap.size) (w' : World) (hw' : Below w.heap.size w w') :
    SeqStopsK Fence.wide 2 Tryd.prog 157 #[.pointer (some ⟨b1, 0, none⟩), .pointer (some ⟨b2, 0, none⟩)] (fun x : Off p s => #[.int .i64 x.1]) (Below w.heap.size)
      (fun xs => xs.map (fun x => x.1) = run a (-1) (a + 1 - b).toNat) (fun pre => ∃ r, pre.map (fun x => x.1) ++ r = run a (-1) (a + 1 - b).toNat) (a + 1 - b).toNat w' := by
  intro l J Jx W hW hJ hJx hY hJ0
  have hz := hw'.size
  refine (down_in l b1 b2 p s w.heap.size a b h0 hb hs hlo hhi hlo2 hhi2 J Jx hY W ?_ ?_ hl1 hl2 (Nat.le_trans hz hW.size) hJ0).mono ?_
  · exact (hW.cell (p := ⟨b1, 0, none⟩) (by simpa using Nat.lt_of_lt_of_le hl1 hz)).trans ((hw'.cell (p := ⟨b1, 0, none⟩) hl1).trans hb1)
  · exact (hW.cell (p := ⟨b2, 0, none⟩) (by simpa using Nat.lt_of_lt_of_le hl2 hz)).trans ((hw'.cell (p := ⟨b2, 0, none⟩) hl2).trans hb2)
  · intro e W' h; exact h

theorem below_drewN {B : Nat} {a w : World} (h : Below B a w) (n : Nat) : Below B a (w.drewN n) := ⟨h.os, h.tape, h.output, h.size, h.block⟩
/-- The first k bytes of a part stand at an offset. -/
def Same (part s : ByteArray) (at0 k : Nat) : Prop := ∀ j, j < k → (bts s)[at0 + j]? = (bts part)[j]?
theorem Same.succ {part s : ByteArray} {at0 k : Nat} (h : Same part s at0 k) (hk : (bts s)[at0 + k]? = (bts part)[k]?) : Same part s at0 (k + 1) := fun j hj => by
  by_cases e : j = k
  · subst e; exact hk
  · exact h j (by omega)
theorem Same.occ {part s : ByteArray} {at0 : Nat} (h : Same part s at0 part.size) : occB (bts part) (bts s) (at0 : Int) = true := by
  unfold occB
  rw [Int.toNat_natCast, beq_iff_eq]
  apply List.ext_getElem?
  intro i
  rw [bts_length, List.getElem?_take]
  by_cases hi : i < part.size
  · rw [if_pos hi, List.getElem?_drop]; exact h i hi
  · rw [if_neg hi, List.getElem?_eq_none (by rw [bts_length]; omega)]
theorem not_occ {part s : ByteArray} {at0 k : Nat} (hk : k < part.size) (h : (bts s)[at0 + k]? ≠ (bts part)[k]?) : occB (bts part) (bts s) (at0 : Int) = false := by
  unfold occB
  rw [Int.toNat_natCast, beq_eq_false_iff_ne]
  intro e
  apply h
  rw [← e, List.getElem?_take, bts_length, if_pos hk, List.getElem?_drop]

/-- Between two rounds: nothing has been found. -/
structure FoundAt (part s : ByteArray) (w : World) (pre : List (Off part.size s.size)) (W : World) : Prop where
  fp : Boxed W w.heap.size 9 (.string part)
  fs : Boxed W (w.heap.size + 1) 9 (.string s)
  fr : Boxed W (w.heap.size + 1 + 1) 3 (.int .i64 (-1))
  no : ∀ x ∈ pre, occB (bts part) (bts s) x.1 = false
  b : Below w.heap.size w W
/-- A round has found it. -/
structure FoundX (part s : ByteArray) (w : World) (c : Code) (pre : List (Off part.size s.size)) (W : World) : Prop where
  c : c = .exit 0
  r : ∃ x : Int, Boxed W (w.heap.size + 1 + 1) 3 (.int .i64 x) ∧ (pre.map (fun x => x.1)).find? (occB (bts part) (bts s)) = some x
  b : Below w.heap.size w W
theorem boxed_not_row {X : World} {row : Option Nat} {b t : Nat} {v : Value} (hrow : ∀ r, row = some r → ∃ o : Obj, X.heap[r]? = some o ∧ o.isCells = false) (hb : Boxed X b t v) : some b ≠ row := fun e => by
  obtain ⟨o, ho, hc⟩ := hrow b e.symm
  rw [show X.heap[b]? = _ from hb] at ho; cases ho; cases hc
theorem FoundAt.own (part s : ByteArray) (w : World) (B : Nat) (hB : w.heap.size ≤ B) : OwnFrom B (FoundAt part s w) := by
  rintro pre X Y row ⟨h1, h2, h3, h4, h5⟩ hg hrow
  have hr := fun r e => (hrow r e).2
  exact ⟨h1.kept hg (boxed_not_row hr h1), h2.kept hg (boxed_not_row hr h2), h3.kept hg (boxed_not_row hr h3), h4, h5.grown hg h5.size (fun k e => Nat.le_trans hB (hrow k e).1)⟩
theorem FoundX.own (part s : ByteArray) (w : World) (B : Nat) (hB : w.heap.size ≤ B) (c : Code) : OwnFrom B (FoundX part s w c) := by
  rintro pre X Y row ⟨h1, ⟨x, h2, h3⟩, h5⟩ hg hrow
  have hr := fun r e => (hrow r e).2
  exact ⟨h1, ⟨x, h2.kept hg (boxed_not_row hr h2), h3⟩, h5.grown hg h5.size (fun k e => Nat.le_trans hB (hrow k e).1)⟩

set_option maxHeartbeats 1000000 in
theorem found_any (part s : ByteArray) (gf : Nat) (lb : Array Value) (L : List Int) (N : Nat) (w : World) (hp0 : 0 < part.size) (hp : part.size ≤ 1000000) (hs : s.size ≤ 1000000)
    (eg : ∀ args w, (callFunc gf args).run Tryd.prog w = .ok (.enter gf args) w)
    (hseq : ∀ w', Below w.heap.size w w' → SeqStopsK Fence.wide 2 Tryd.prog gf lb (fun x : Off part.size s.size => #[.int .i64 x.1]) (Below w.heap.size) (fun xs => xs.map (fun x => x.1) = L) (fun pre => ∃ r, pre.map (fun x => x.1) ++ r = L) N w') :
    Calls Tryd.prog 116 #[.string part, .string s, .func (.func gf) #[] lb] w fun e w' => e = .returned (.int .i64 (firstIn (bts part) (bts s) L)) ∧ Below w.heap.size w w' := by
  have HS := Lib.hid hseq
  have hne : part.toList ≠ [] := by
    intro e
    have h2 : part.toList.length = part.size := by rw [ByteArray.toList_eq]; simp
    rw [e] at h2; simp at h2; omega
  have hne2 : bts part ≠ [] := by intro e; have := bts_length part; rw [e] at this; simp at this; omega
  have HNE := Lib.hid hne2
  have hne' : (!part.toList.isEmpty) = true := by simpa using hne
  have hne3 : part.toList.isEmpty = false := by simpa using hne
  clear hseq hne2
  rw [← callsIn_wide (n := 3)]
  refine callsIn_of_wp_marks Tryd.func116 rfl trivial ?_ rfl
  simp only [Tryd.ntmps116, List.size_toArray, List.length_cons, List.length_nil, Nat.reduceAdd, Nat.reduceSub, Array.replicate_succ, Array.replicate_zero, List.push_toArray, List.append_toArray, List.nil_append, List.cons_append]
  gi_wp2
  refine wpIn_wide.2 (wp_scope_straight ((wpIn_wide (n := 3)).1 ?_))
  gi_wp2
  refine wpIn_label ?_
  gi_wp2
  have bP := ((Boxed.new w 9 (.string part)).alloc (.cells #[.string s] 9)).alloc (.cells #[.int .i64 (-1)] 3)
  have bS := (Boxed.new (w.alloc (.cells #[.string part] 9)) 9 (.string s)).alloc (.cells #[.int .i64 (-1)] 3)
  have bR := Boxed.new ((w.alloc (.cells #[.string part] 9)).alloc (.cells #[.string s] 9)) 3 (.int .i64 (-1))
  simp only [World.size_alloc] at bP bS bR
  have hB0 : Below w.heap.size w (((w.alloc (.cells #[.string part] 9)).alloc (.cells #[.string s] 9)).alloc (.cells #[.int .i64 (-1)] 3)) := Bl.alloc (Bl.alloc (Bl.alloc (Below.refl _ w) _) _) _
  refine wpIn_rangeFunc_ownG rfl (by omega) (gf := gf) (lb := lb) rfl trivial eg (HS.out _ hB0) belowK_t (belowK_b (by simp; omega)) (Below.refl _ _) (fun _ => rfl)
    (FoundAt part s w) (FoundX part s w) (FoundAt.own part s w _ (by simp; omega)) (fun c => FoundX.own part s w _ (by simp; omega) c)
    ⟨bP, bS, bR, fun x hx => by simp at hx, hB0⟩
    (fun x => { tmps := #[.string part, .string s, .func (.func gf) #[] lb, .pointer (some ⟨w.heap.size, 0, none⟩), .pointer (some ⟨w.heap.size + 1, 0, none⟩), undef, .int .i64 0, .pointer (some ⟨w.heap.size + 1 + 1, 0, none⟩), .int .i64 x.1, undef, .string part, .bool false, undef, .func (.func gf) #[] lb, .int .i64 x.1, undef, undef, undef, undef, undef, undef, undef, undef, undef, undef, undef, undef, undef, undef, undef, undef, undef], defers := [] }) ?assign ?body ?done ?stop
  case assign =>
    intro l x W K hK
    gi_wp2
    exact hK
  case body =>
    rintro l pre x W ⟨hIp, hIs, hIr, hno, hIb⟩ hlt
    obtain ⟨x, hx0, hx1⟩ := x
    have cp := hIp.cell
    have cs := hIs.cell
    have cr := hIr.cell
    have fr := hIr.frozen
    have hmix : Tryd.prog.follows .mixedOrders = true := by kernel_rfl
    have HP := Lib.hid hIp
    have HQ := Lib.hid hIs
    have HR := Lib.hid hIr
    have HNO := Lib.hid hno
    have HB := Lib.hid hIb
    clear hIp hIs hIr hno hIb hlt
    obtain ⟨at0, rfl⟩ := Int.eq_ofNat_of_zero_le hx0
    gi_wp2
    gi_loopw [17] (fun v wr => ∃ (k nd : Nat), v = .int .i64 k ∧ k ≤ part.size ∧ Hid (Same part s at0 k) ∧ wr = W.drewN nd) (fun v _ => part.size - (intOf v).toNat)
    case atStart => exact ⟨0, 0, rfl, Nat.zero_le _, Lib.hid (fun j hj => by omega), rfl⟩
    case round =>
      obtain ⟨k, nd, rfl, hk, hsm, rfl⟩ := hrel
      by_cases hlt : k < part.size
      · have hb2 : at0 + k < s.size := by omega
        have hw : IntKind.i64.wrap ((at0 : Int) + (k : Int)) = (at0 : Int) + (k : Int) := IntWalk.i64_in _ (by omega)
        have hw0 : 0 ≤ (at0 : Int) + (k : Int) := by omega
        have hw1 : (at0 : Int) + (k : Int) < (s.size : Int) := by omega
        have hw2 : ((at0 : Int) + (k : Int)).toNat = at0 + k := by omega
        have g1 := bts_get s hb2
        have g2 := bts_get part hlt
        by_cases heq : s[at0 + k] = part[k]
        · have HSM := Lib.hid (show Same part s at0 (k + 1) from hsm.out.succ (by rw [g1, g2, heq]))
          have hd : ((s[at0 + k].toNat : Int) != (part[k].toNat : Int)) = false := by rw [heq]; simp
          clear g1 g2 heq
          gi_wp2
          refine wpIn_region_quiet_round rfl hmix (by kernel_rfl) (by kernel_rfl) ?_
          repeat (gi_big_quiet_step (fail))
          refine wpQuietIn_nil ?_
          intro _ hw'
          obtain ⟨nq, hw''⟩ := hw'
          subst hw''
          gi_wp2
          go_roundw
          case rel => exact ⟨k + 1, _, by go_num, by omega, HSM, rfl⟩
          case measure => simp [intOf]; omega
        · have HNX := Lib.hid (show occB (bts part) (bts s) (at0 : Int) = false from not_occ hlt (by rw [g1, g2]; intro h; injection h with h; exact heq h))
          have hd : ((s[at0 + k].toNat : Int) != (part[k].toNat : Int)) = true := by
            rw [bne_iff_ne]; intro h; exact heq (UInt8.toNat_inj.1 (by omega))
          clear g1 g2 heq
          gi_wp2
          refine wpIn_region_quiet_round rfl hmix (by kernel_rfl) (by kernel_rfl) ?_
          repeat (gi_big_quiet_step (fail))
          refine wpQuietIn_nil ?_
          intro _ hw'
          obtain ⟨nq, hw''⟩ := hw'
          subst hw''
          gi_wp2
          refine ⟨⟨Nat.le_refl _, fun _ _ _ h _ => h⟩, below_drewN (below_drewN (Below.refl _ _) _) _, HP.out, HQ.out, HR.out, ?_, below_drewN (below_drewN HB.out _) _⟩
          intro y hy
          rcases List.mem_append.1 hy with hy | hy
          · exact HNO.out y hy
          · rw [List.mem_singleton.1 hy]; exact HNX.out
      · obtain rfl : k = part.size := by omega
        have HOC := Lib.hid hsm.out.occ
        gi_wp2
        refine ⟨⟨Nat.le_of_eq (by simp [World.setCell]), fun k o _ h hc => (KeepsOthers.setCell _ _ _).same k o h hc⟩, rfl, ⟨at0, ?_, ?_⟩, (below_drewN HB.out nd).setCell (p := ⟨w.heap.size + 1 + 1, 0, none⟩) (by simp; omega) _⟩
        · exact (show Boxed (W.drewN nd) _ _ _ from HR.out).set _
        · rw [List.map_append, List.find?_append, List.find?_eq_none.2 (by
            intro y hy
            obtain ⟨z, hz, rfl⟩ := List.mem_map.1 hy
            rw [HNO.out z hz]; simp)]
          simp [HOC.out]
  case done =>
    rintro D ys W hD hys ⟨hIp, hIs, hIr, hno, hIb⟩ hK
    have cr := hIr.cell
    have HF := Lib.hid (show firstIn (bts part) (bts s) L = -1 by
      unfold firstIn
      rw [if_neg HNE.out, ← hys, List.find?_eq_none.2 (by
        intro y hy
        obtain ⟨z, hz, rfl⟩ := List.mem_map.1 hy
        rw [hno z hz]; simp)]
      rfl)
    have HB := Lib.hid (hIb.trans (belowK_b (w := w) (Nat.le_refl _) W D _ (.deferred none) (by simp at hD; omega) hK rfl rfl))
    have HK := Lib.hid hK
    clear hys hno hIp hIs hIr hIb hK
    gi_wp2
    try rw [Exit.noGoto_ret]
    refine ⟨by simp, .inl ⟨_, _, rfl, run_takeDeferred HK.out, ?_⟩⟩
    exact ⟨_, results_tmp rfl _ _ _, by rw [HF.out]; rfl, HB.out⟩
  case stop =>
    rintro D c pre W hD ⟨r, hpre⟩ ⟨rfl, ⟨x, hIr, hfx⟩, hIb⟩ hK
    have cr := hIr.cell
    have HF := Lib.hid (show firstIn (bts part) (bts s) L = x by
      unfold firstIn
      rw [if_neg HNE.out, ← hpre, List.find?_append, hfx]
      rfl)
    have HB := Lib.hid (hIb.trans (belowK_b (w := w) (Nat.le_refl _) W D _ (.deferred none) (by simp at hD; omega) hK rfl rfl))
    have HK := Lib.hid hK
    clear hpre hfx hIr hIb hK
    gi_wp2
    try rw [Exit.noGoto_ret]
    refine ⟨by simp, .inl ⟨_, _, rfl, run_takeDeferred HK.out, ?_⟩⟩
    exact ⟨_, results_tmp rfl _ _ _, by rw [HF.out]; rfl, HB.out⟩
end Go.Proofs.YtoilgjlbpimcpaaDoor
