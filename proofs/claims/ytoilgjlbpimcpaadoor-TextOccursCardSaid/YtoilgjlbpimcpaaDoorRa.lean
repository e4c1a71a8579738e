/- Occurrences that do not overlap, as an iterator. -/
import Derived.Test.YtoilgjlbpimcpaaDoorZt
import Derived.Test.YtoilgjlbpimcpaaDoorTu
namespace Go.Proofs.YtoilgjlbpimcpaaDoor
open Go.RowKit Go.Shelf Tx
set_option linter.unusedVariables false
set_option maxRecDepth 100000
attribute [local go_sem] Oper.semAt_some

theorem cell_lt {w : World} {b : Nat} {v : Value} (h : w.cell? ⟨b, 0, none⟩ = some v) : b < w.heap.size := by
  refine Nat.lt_of_not_le (fun hn => ?_)
  simp [World.cell?, Array.getElem?_eq_none hn] at h
def Tx.occM (n : Nat) (z : Int) : Nat := if z < 0 then 0 else (n + 1 - z).toNat
theorem Tx.occM_lt {n : Nat} {z1 a : Int} (h0 : 0 ≤ a) (ha : a ≤ n) (h : z1 = -1 ∨ a < z1) : occM n z1 < occM n a := by
  unfold occM
  rw [if_neg (show ¬ a < 0 by omega)]
  by_cases hz : z1 < 0
  · rw [if_pos hz]; omega
  · rw [if_neg hz]; omega
theorem upward_ex (a b : Int) (w : World) :
    Calls Tryd.prog 117 #[.int .i64 a, .int .i64 b] w fun e w' => ∃ b1 b2, e = .returned (.func (.func 156) #[] #[.pointer (some ⟨b1, 0, none⟩), .pointer (some ⟨b2, 0, none⟩)]) ∧
      w'.cell? ⟨b1, 0, none⟩ = some (.int .i64 a) ∧ w'.cell? ⟨b2, 0, none⟩ = some (.int .i64 b) ∧ b1 < w'.heap.size ∧ b2 < w'.heap.size ∧ Below w.heap.size w w' := by
  refine (upward_any a b w).mono ?_
  rintro e w' ⟨rfl, rfl⟩
  exact ⟨_, _, rfl, cellUp (cellAt rfl) (by simp), cellAt (by simp), by simp; omega, by simp, Bl.alloc (Bl.alloc (Below.refl _ _) _) _⟩
theorem found_from (p s : ByteArray) (a : Nat) (w : World) (hp : p.size ≤ 1000) (hs : s.size ≤ 1000) (ha : a ≤ 1000000) (b1 b2 : Nat)
    (hb1 : w.cell? ⟨b1, 0, none⟩ = some (.int .i64 a)) (hb2 : w.cell? ⟨b2, 0, none⟩ = some (.int .i64 ((s.size : Int) - p.size))) (hl1 : b1 < w.heap.size) (hl2 : b2 < w.heap.size) :
    Calls Tryd.prog 116 #[.string p, .string s, .func (.func 156) #[] #[.pointer (some ⟨b1, 0, none⟩), .pointer (some ⟨b2, 0, none⟩)]] w fun e w' => e = .returned (.int .i64 (fromB (bts p) (bts s) (a : Int))) ∧ Below w.heap.size w w' := by
  have h := found_up p s (a : Int) w (by omega) (by omega) (by omega) (by omega) b1 b2 hb1 hb2 hl1 hl2
  unfold fromB
  rw [bts_length, bts_length]
  exact h

set_option maxHeartbeats 8000000 in
theorem occ_in (l bS bP : Nat) (p s : ByteArray) (hp : p.size ≤ 1000) (hs : s.size ≤ 1000) (J Jx : List (Off p.size s.size) → World → Prop)
    (hround : ∀ pre x W, J pre W → pre.length < 1001 → (∃ r, occs (bts p) (bts s) = pre.map (fun x => x.1) ++ x.1 :: r) → YieldAt Fence.wide 1 Tryd.prog l #[.int .i64 x.1] W fun e W' =>
      (e = .returned (.bool true) ∧ J (pre ++ [x]) W' ∧ (W'.cell? ⟨bS, 0, none⟩ = W.cell? ⟨bS, 0, none⟩ ∧ W'.cell? ⟨bP, 0, none⟩ = W.cell? ⟨bP, 0, none⟩)) ∨ (e = .returned (.bool false) ∧ Jx (pre ++ [x]) W'))
    (hJb : ∀ pre W W', J pre W → Below W.heap.size W W' → J pre W')
    (W : World) (hS : W.cell? ⟨bS, 0, none⟩ = some (.string s)) (hP : W.cell? ⟨bP, 0, none⟩ = some (.string p)) (hJ0 : J [] W) :
    CallsIn Fence.wide 2 Tryd.prog 158 #[.func (.yield l) #[] #[], .pointer (some ⟨bS, 0, none⟩), .pointer (some ⟨bP, 0, none⟩)] W (SeqPost (fun x : Off p.size s.size => x.1) (occs (bts p) (bts s)) J Jx) := by
  have HR := Lib.hid hround
  have HJB := Lib.hid hJb
  have hlS := cell_lt hS
  have hlP := cell_lt hP
  have hwl : IntKind.i64.wrap ((s.size : Int) - (p.size : Int)) = (s.size : Int) - (p.size : Int) := IntWalk.i64_in _ (by omega)
  have hmix : Tryd.prog.follows .mixedOrders = true := by kernel_rfl
  have KU := fun (a : Int) (W : World) => Lib.hid (upward_ex a ((s.size : Int) - (p.size : Int)) W)
  have hb0 := from_bds (bts p) (bts s) 0
  have KF := fun (a : Nat) (ha : a ≤ 1000000) (W : World) (b1 b2 : Nat) h1 h2 h3 h4 => Lib.hid (found_from p s a W hp hs ha b1 b2 h1 h2 h3 h4)
  obtain ⟨z0, hz0⟩ : ∃ z0, z0 = fromB (bts p) (bts s) ((0 : Nat) : Int) := ⟨_, rfl⟩
  have KF0 := fun (W : World) (b1 b2 : Nat) (h1 : W.cell? ⟨b1, 0, none⟩ = some (.int .i64 0)) (h2 : W.cell? ⟨b2, 0, none⟩ = some (.int .i64 ((s.size : Int) - (p.size : Int)))) (h3 : b1 < W.heap.size) (h4 : b2 < W.heap.size) =>
    Lib.hid (show Calls Tryd.prog 116 #[.string p, .string s, .func (.func 156) #[] #[.pointer (some ⟨b1, 0, none⟩), .pointer (some ⟨b2, 0, none⟩)]] W fun e w' => e = .returned (.int .i64 z0) ∧ Below W.heap.size W w' by
      rw [hz0]; exact (KF 0 (by omega) W b1 b2 h1 h2 h3 h4).out)
  rw [← hz0] at hb0
  rw [bts_length, bts_length] at hb0
  have HOC := Lib.hid (show occs (bts p) (bts s) = [] ++ occZ (bts p) (bts s) (s.size + 1) z0 by rw [hz0]; unfold occs; rw [bts_length]; rfl)
  have HB0 := Lib.hid hb0
  have HJ0 := Lib.hid hJ0
  clear hround hJb hz0 hb0 hJ0
  refine callsIn_of_wp Tryd.func158 rfl trivial ?_ rfl
  simp only [Tryd.ntmps158, List.size_toArray, List.length_cons, List.length_nil, Nat.reduceAdd, Nat.reduceSub, Array.replicate_succ, Array.replicate_zero, List.push_toArray, List.append_toArray, List.nil_append, List.cons_append]
  gi_wp2
  refine wpIn_wide.2 ?_
  go_region_held3 (fun w' => w'.cell? ⟨bS, 0, none⟩ = some (.string s) ∧ w'.cell? ⟨bP, 0, none⟩ = some (.string p))
    (first | exact ⟨k1, k2⟩ | go_keep)
    (first
      | (go_at_call 117; (with_reducible refine Calls.mono (KU _ _).out ?_); rintro e w1 ⟨b1, b2, rfl, d1, d2, l1, l2, hb1⟩; have HB1 := Lib.hid (show Below W.heap.size W w1 from (Below.refl _ W).drew.trans hb1); have k1 := (HB1.out.cell (p := ⟨bS, 0, none⟩) hlS).trans hS; have k2 := (HB1.out.cell (p := ⟨bP, 0, none⟩) hlP).trans hP)
      | (go_at_call 116; (with_reducible refine Calls.mono (KF0 _ _ _ d1 d2 l1 l2).out ?_); rintro e w2 ⟨rfl, hb2⟩; have HB2 := Lib.hid (show Below W.heap.size W w2 from HB1.out.trans (hb2.mono HB1.out.size)); have k1 := (HB2.out.cell (p := ⟨bS, 0, none⟩) hlS).trans hS; have k2 := (HB2.out.cell (p := ⟨bP, 0, none⟩) hlP).trans hP))
  gi_wp2
  have HJ2 := Lib.hid (HJB.out [] W w2 HJ0.out HB2.out)
  have HS2 := Lib.hid ((HB2.out.cell (p := ⟨bS, 0, none⟩) hlS).trans hS)
  have HP2 := Lib.hid ((HB2.out.cell (p := ⟨bP, 0, none⟩) hlP).trans hP)
  clear k1 k2 hb1 hb2 d1 d2 l1 l2 hS hP KF0
  gi_loopw [5] (fun v wr => ∃ (k : Nat) (z : Int) (pre : List (Off p.size s.size)), v = .int .i64 z ∧ pre.length + k = s.size + 1 ∧ Hid (occs (bts p) (bts s) = pre.map (fun x => x.1) ++ occZ (bts p) (bts s) k z) ∧ (z = -1 ∨ (0 ≤ z ∧ z + p.size ≤ s.size ∧ 0 < p.size ∧ (s.size : Int) + 1 ≤ z + k)) ∧ Hid (J pre wr) ∧ Hid (wr.cell? ⟨bS, 0, none⟩ = some (.string s)) ∧ Hid (wr.cell? ⟨bP, 0, none⟩ = some (.string p))) (fun v _ => occM s.size (intOf v))
  case atStart => exact ⟨s.size + 1, z0, [], rfl, by simp, HOC, (by
      rcases HB0.out with h | ⟨h1, h2, h3⟩
      · exact .inl h
      · exact .inr ⟨by omega, h2, by have := pos_len h3; rwa [bts_length] at this, by omega⟩), HJ2, HS2, HP2⟩
  case round =>
    obtain ⟨k, z, pre, rfl, hk, hoc, hz, hJ, hcS, hcP⟩ := hrel
    by_cases hz0 : (0 : Int) ≤ z
    · rcases hz with rfl | ⟨_, h2, h3, h4⟩
      · omega
      obtain ⟨a, rfl⟩ := Int.eq_ofNat_of_zero_le hz0
      obtain ⟨k, rfl⟩ : ∃ k', k = k' + 1 := ⟨k - 1, by omega⟩
      obtain ⟨y, hy1⟩ : ∃ y : Off p.size s.size, y.1 = (a : Int) := ⟨⟨(a : Int), by omega⟩, rfl⟩
      have hYY := HR.out pre y wr hJ.out (by omega) ⟨_, by rw [hoc.out, occZ_step (by omega), hy1]⟩
      rw [hy1] at hYY
      obtain ⟨fn, tmps, assign, body, hy, hRR⟩ := hYY
      have hR2 := hRR.mono (R' := fun e W' => ∃ bb, e = .returned (.bool bb) ∧ Hid ((bb = true ∧ J (pre ++ [y]) W' ∧ (W'.cell? ⟨bS, 0, none⟩ = wr.cell? ⟨bS, 0, none⟩ ∧ W'.cell? ⟨bP, 0, none⟩ = wr.cell? ⟨bP, 0, none⟩)) ∨ (bb = false ∧ Jx (pre ++ [y]) W'))) (fun e w' h => by
        rcases h with ⟨h1, h2, h3⟩ | ⟨h1, h2⟩
        · exact ⟨true, h1, .inl ⟨rfl, h2, h3⟩⟩
        · exact ⟨false, h1, .inr ⟨rfl, h2⟩⟩)
      have HRR := Lib.hid hR2
      clear hRR hR2
      have hb1 := from_bds (bts p) (bts s) (a + p.size)
      obtain ⟨z1, hz1⟩ : ∃ z1, z1 = fromB (bts p) (bts s) ((a + p.size : Nat) : Int) := ⟨_, rfl⟩
      rw [← hz1] at hb1
      rw [bts_length, bts_length] at hb1
      have HOC2 := Lib.hid (show occs (bts p) (bts s) = ((pre ++ [y]).map (fun x => x.1)) ++ occZ (bts p) (bts s) k z1 by
        rw [hoc.out, hz1, occZ_step (by omega), bts_length, Int.natCast_add, List.map_append, List.map_cons, List.map_nil, hy1]
        simp)
      have KF1 := fun (W : World) (b1 b2 : Nat) (h1 : W.cell? ⟨b1, 0, none⟩ = some (.int .i64 ((a : Int) + (p.size : Int)))) (h2 : W.cell? ⟨b2, 0, none⟩ = some (.int .i64 ((s.size : Int) - (p.size : Int)))) (h3 : b1 < W.heap.size) (h4 : b2 < W.heap.size) =>
        Lib.hid (show Calls Tryd.prog 116 #[.string p, .string s, .func (.func 156) #[] #[.pointer (some ⟨b1, 0, none⟩), .pointer (some ⟨b2, 0, none⟩)]] W fun e w' => e = .returned (.int .i64 z1) ∧ Below W.heap.size W w' by
          rw [hz1]; exact (KF (a + p.size) (by omega) W b1 b2 (by rw [Int.natCast_add]; exact h1) h2 h3 h4).out)
      have hwa : IntKind.i64.wrap ((a : Int) + (p.size : Int)) = (a : Int) + (p.size : Int) := IntWalk.i64_in _ (by omega)
      have HB1 := Lib.hid hb1
      clear hz1 hb1 hy1
      gi_wp2
      refine RoundIn.mono HRR.out ?_
      rintro e W3 ⟨bb, rfl, hcase⟩
      cases bb
      · gi_wp2
        go_end0
        rcases hcase.out with ⟨h, _⟩ | ⟨_, h⟩
        · cases h
        · exact ⟨⟨_, rfl⟩, .inr ⟨_, ⟨_, HOC2.out.symm⟩, h⟩⟩
      · rcases hcase.out with ⟨_, hJ3, hk3, hk4⟩ | ⟨h, _⟩
        · have g1 := hk3.trans hcS.out
          have g2 := hk4.trans hcP.out
          have hgS := cell_lt g1
          have hgP := cell_lt g2
          have HJ3 := Lib.hid hJ3
          clear hJ3 hk3 hk4 hcase
          gi_wp2
          refine wpIn_wide.2 ?_
          go_region_held3 (fun w' => w'.cell? ⟨bS, 0, none⟩ = some (.string s) ∧ w'.cell? ⟨bP, 0, none⟩ = some (.string p))
            (first | exact ⟨k1, k2⟩ | go_keep)
            (first
              | (go_at_call 117; (with_reducible refine Calls.mono (KU _ _).out ?_); rintro e w4 ⟨b1, b2, rfl, d1, d2, l1, l2, hb1⟩; have HB4 := Lib.hid (show Below W3.heap.size W3 w4 from (Below.refl _ W3).drew.trans hb1); have k1 := (HB4.out.cell (p := ⟨bS, 0, none⟩) hgS).trans g1; have k2 := (HB4.out.cell (p := ⟨bP, 0, none⟩) hgP).trans g2)
              | (go_at_call 116; (with_reducible refine Calls.mono (KF1 _ _ _ d1 d2 l1 l2).out ?_); rintro e w5 ⟨rfl, hb2⟩; have HB5 := Lib.hid (show Below W3.heap.size W3 w5 from HB4.out.trans (hb2.mono HB4.out.size)); have k1 := (HB5.out.cell (p := ⟨bS, 0, none⟩) hgS).trans g1; have k2 := (HB5.out.cell (p := ⟨bP, 0, none⟩) hgP).trans g2))
          gi_wp2
          go_roundw
          case rel => exact ⟨k, z1, pre ++ [y], by go_num, by simp; omega, HOC2, (by
              rcases HB1.out with h | ⟨h5, h6, h7⟩
              · exact .inl h
              · exact .inr ⟨by omega, h6, h3, by omega⟩), Lib.hid (HJB.out _ _ _ HJ3.out HB5.out), Lib.hid ((HB5.out.cell (p := ⟨bS, 0, none⟩) hgS).trans g1), Lib.hid ((HB5.out.cell (p := ⟨bP, 0, none⟩) hgP).trans g2)⟩
          case measure =>
            have hq := HB1.out
            show occM s.size z1 < occM s.size (a : Int)
            exact occM_lt (by omega) (by omega) (by omega)
        · cases h
    · have HE := Lib.hid (show pre.map (fun x => x.1) = occs (bts p) (bts s) by
        rw [hoc.out]
        have : occZ (bts p) (bts s) k z = [] := by
          cases k with
          | zero => rfl
          | succ k => unfold occZ; rw [if_pos (by omega)]
        rw [this, List.append_nil])
      gi_wp2
      refine ⟨fun _ h => (by cases h), ?_⟩
      gi_wp2
      go_end0
      exact ⟨⟨_, rfl⟩, .inl ⟨pre, HE.out, hJ.out⟩⟩
set_option maxHeartbeats 400000 in
theorem occurrences_any (p s : ByteArray) (w : World) :
    Calls Tryd.prog 119 #[.string p, .string s] w fun e w' =>
      e = .returned (.func (.func 158) #[] #[.pointer (some ⟨w.heap.size + 1, 0, none⟩), .pointer (some ⟨w.heap.size, 0, none⟩)]) ∧ (w.alloc (.cells #[.string p] 9)).alloc (.cells #[.string s] 9) = w' := by
  go_enter Tryd.func119, Tryd.ntmps119
  go_wp2
  go_ret
  exact ⟨rfl, rfl⟩
theorem only_below' {a w : World} (h : Below a.heap.size a w) : a.grownBy w none := ⟨h.os, h.tape, h.output, h.size, fun i hi _ => h.block i hi⟩
theorem occ_stops (bS bP : Nat) (p s : ByteArray) (w : World) (hp : p.size ≤ 1000) (hs : s.size ≤ 1000)
    (hS : w.cell? ⟨bS, 0, none⟩ = some (.string s)) (hP : w.cell? ⟨bP, 0, none⟩ = some (.string p)) (w' : World) (hw' : Below w.heap.size w w') :
    SeqStopsK Fence.wide 2 Tryd.prog 158 #[.pointer (some ⟨bS, 0, none⟩), .pointer (some ⟨bP, 0, none⟩)] (fun x : Off p.size s.size => #[.int .i64 x.1]) (fun A B => B.cell? ⟨bS, 0, none⟩ = A.cell? ⟨bS, 0, none⟩ ∧ B.cell? ⟨bP, 0, none⟩ = A.cell? ⟨bP, 0, none⟩)
      (fun xs => xs.map (fun x => x.1) = occs (bts p) (bts s)) (fun pre => ∃ r, pre.map (fun x => x.1) ++ r = occs (bts p) (bts s)) 1001 w' := by
  intro l J Jx W hW hJ hJx hY hJ0
  have g1 := (hW.cell (p := ⟨bS, 0, none⟩) (Nat.lt_of_lt_of_le (cell_lt hS) hw'.size)).trans ((hw'.cell (p := ⟨bS, 0, none⟩) (cell_lt hS)).trans hS)
  have g2 := (hW.cell (p := ⟨bP, 0, none⟩) (Nat.lt_of_lt_of_le (cell_lt hP) hw'.size)).trans ((hw'.cell (p := ⟨bP, 0, none⟩) (cell_lt hP)).trans hP)
  refine (occ_in l bS bP p s hp hs J Jx (fun pre x W h1 h2 _ => hY pre x W h1 h2) (fun pre A B hA hAB => hJ pre A B none hA (only_below' hAB) (fun r e => by cases e)) W g1 g2 hJ0).mono ?_
  intro e W' h; exact h
end Go.Proofs.YtoilgjlbpimcpaaDoor
