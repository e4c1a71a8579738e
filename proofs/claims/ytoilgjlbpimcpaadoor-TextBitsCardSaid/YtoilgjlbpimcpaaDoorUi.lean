/- BitOr. -/
import Derived.Test.YtoilgjlbpimcpaaDoorUb
namespace Go.Proofs.YtoilgjlbpimcpaaDoor
open Go.RowKit Go.Shelf Tx
set_option linter.unusedVariables false
set_option maxRecDepth 100000
attribute [local go_sem] Oper.semAt_some

set_option maxHeartbeats 8000000 in
theorem pairsOr_in (l b1 b2 b3 b4 n₀ : Nat) (u v : ByteArray) (x : Int) (hu : u.size ≤ 1000) (hv : v.size ≤ 1000) (hx0 : 0 ≤ x) (hx1 : x < 256) (J Jx : List (Nat × UInt8) → World → Prop)
    (hround : ∀ pre y W, J pre W → pre.length < 1000 → YieldAt Fence.wide 1 Tryd.prog l #[.int .i64 (y.1 : Int), .int .u8 (y.2.toNat : Int)] W fun e W' =>
      (e = .returned (.bool true) ∧ J (pre ++ [y]) W' ∧ W'.cell? ⟨b4, 0, none⟩ = W.cell? ⟨b4, 0, none⟩) ∨ (e = .returned (.bool false) ∧ Jx (pre ++ [y]) W'))
    (hJb : ∀ pre W W', J pre W → Below W.heap.size W W' → J pre W')
    (W : World) (hF : Four W b1 b2 b3 b4 u v x (.func (.func 146) #[] #[])) (h1 : b1 < n₀) (h2 : b2 < n₀) (h3 : b3 < n₀) (h4 : b4 < n₀) (hn : n₀ ≤ W.heap.size) (hJ0 : J [] W) :
    CallsIn Fence.wide 2 Tryd.prog 184 #[.func (.yield l) #[] #[], .pointer (some ⟨b1, 0, none⟩), .pointer (some ⟨b2, 0, none⟩), .pointer (some ⟨b3, 0, none⟩), .pointer (some ⟨b4, 0, none⟩)] W (PairPost (idx (zipP opOr (bts u) (bts v) (pb x))) J Jx) := by
  have HR := Lib.hid hround
  have HJ0 := Lib.hid hJ0
  have HJB := Lib.hid hJb
  have HFF := Lib.hid hF
  clear hround hJ0 hJb
  obtain ⟨c1, c2, c3, c4⟩ := hF
  have hmix : Tryd.prog.follows .mixedOrders = true := by kernel_rfl
  obtain ⟨N, hN⟩ : ∃ N, N = max u.size v.size := ⟨_, rfl⟩
  have hN1 : N ≤ 1000 := by omega
  have hNi : max (u.size : Int) (v.size : Int) = (N : Int) := by omega
  have KU := fun W => Lib.hid (fitted_any u N x W (by omega) (by omega) hx0 hx1)
  have KV := fun W => Lib.hid (fitted_any v N x W (by omega) (by omega) hx0 hx1)
  have HN := Lib.hid hN
  clear hN
  refine callsIn_of_wp Tryd.func184 rfl trivial ?_ rfl
  simp only [Tryd.ntmps184, List.size_toArray, List.length_cons, List.length_nil, Nat.reduceAdd, Nat.reduceSub, Array.replicate_succ, Array.replicate_zero, List.push_toArray, List.append_toArray, List.nil_append, List.cons_append]
  gi_wp2
  refine wpIn_wide.2 ?_
  go_region_held3 (fun w' => w'.cell? ⟨b1, 0, none⟩ = some (.string u) ∧ w'.cell? ⟨b2, 0, none⟩ = some (.string v) ∧ w'.cell? ⟨b3, 0, none⟩ = some (.int .u8 x))
    (first | exact ⟨k1, k2, k3⟩ | go_keep)
    (first | (go_at_call 114; first
      | ((with_reducible refine Calls.mono (KU _).out ?_); clear KU; rintro e w1 ⟨t1, rfl, ht1, hb1⟩; have HB1 := Lib.hid (show Below n₀ W w1 from (Below.refl _ W).drew.trans (hb1.mono hn)); obtain ⟨k1, k2, k3, k4⟩ := HFF.out.below HB1.out h1 h2 h3 h4)
      | ((with_reducible refine Calls.mono (KV _).out ?_); rintro e w2 ⟨t2, rfl, ht2, hb2⟩; have HB2 := Lib.hid (HB1.out.trans (hb2.mono (Nat.le_trans hn HB1.out.size))); obtain ⟨k1, k2, k3, k4⟩ := HFF.out.below HB2.out h1 h2 h3 h4)))
  gi_wp2
  have e1 : bts t1 = fitL (bts u) N (pb x) := ht1.out
  have e2 : bts t2 = fitL (bts v) N (pb x) := ht2.out
  have s1 : t1.size = N := by rw [size_of_bts e1, fitL_length]
  have s2 : t2.size = N := by rw [size_of_bts e2, fitL_length]
  have q1 : N ≤ t1.size := by omega
  have q2 : N ≤ t2.size := by omega
  obtain ⟨P, hP⟩ : ∃ P, P = zipP opOr (bts u) (bts v) (pb x) := ⟨_, rfl⟩
  have hPl : P.length = N := by rw [hP, zipP_length, bts_length, bts_length, HN.out]
  have HPG := Lib.hid (show ∀ (k : Nat) (h1 : k < t1.size) (h2 : k < t2.size), P[k]? = some (opOr t1[k] t2[k]) from fun k h1 h2 => by
    rw [hP]
    refine zipP_get ?_ ?_
    · rw [bts_length, bts_length, ← HN.out, ← e1]; exact bts_get t1 h1
    · rw [bts_length, bts_length, ← HN.out, ← e2]; exact bts_get t2 h2)
  have HPL := Lib.hid hPl
  have HB1' : Below W.heap.size W w1 := (Below.refl _ W).drew.trans hb1
  have HB2' := Lib.hid (HB1'.trans (hb2.mono HB1'.size))
  have HJ2 := Lib.hid (HJB.out [] W w2 HJ0.out HB2'.out)
  rw [← hP]
  clear e1 e2 s1 s2 hP hPl HB1' k1 k2 k3 k4 c1 c2 c3 c4 ht1 ht2 hb1 hb2 KV hNi
  gi_loopw [24] (fun f wr => ∃ k : Nat, f = .int .i64 k ∧ k ≤ N ∧ Hid (J ((idx P).take k) wr) ∧ wr.cell? ⟨b4, 0, none⟩ = some (.func (.func 146) #[] #[])) (fun f _ => N - (intOf f).toNat)
  case atStart => exact ⟨0, rfl, Nat.zero_le _, Lib.hid (by simpa using HJ2.out), (HFF.out.below HB2.out h1 h2 h3 h4).2.2.2⟩
  case round =>
    obtain ⟨k, rfl, hk, hJ, hfv⟩ := hrel
    by_cases hlt : k < N
    · have m1 : k < t1.size := by omega
      have m2 : k < t2.size := by omega
      have HFV := Lib.hid hfv
      have hg := HPG.out k m1 m2
      have HSN := Lib.hid (idx_snoc hg)
      have KOr := fun W => Lib.hid (bitOr_any t1[k] t2[k] W)
      have hJd := HJB.out _ _ wr.drew hJ.out (Below.refl _ _).drew
      have hYY := HR.out _ (k, opOr t1[k] t2[k]) wr.drew hJd (by rw [List.length_take, idx_length, HPL.out]; omega)
      rw [← HSN.out] at hYY
      obtain ⟨fn, tmps, assign, body, hy, hR⟩ := hYY
      have hR2 := hR.mono (R' := fun e W' => ∃ bb, e = .returned (.bool bb) ∧ Hid ((bb = true ∧ J ((idx P).take (k + 1)) W' ∧ W'.cell? ⟨b4, 0, none⟩ = wr.drew.cell? ⟨b4, 0, none⟩) ∨ (bb = false ∧ Jx ((idx P).take (k + 1)) W'))) (fun e w' h => by
        rcases h with ⟨h1, h2, h3⟩ | ⟨h1, h2⟩
        · exact ⟨true, h1, .inl ⟨rfl, h2, h3⟩⟩
        · exact ⟨false, h1, .inr ⟨rfl, h2⟩⟩)
      have HRR := Lib.hid hR2
      clear hR hR2 hg hJd
      dsimp only at hy
      gi_wp2
      gi_region_with_o (first | (refine ⟨trivial, ?_⟩; gi_at_call 146; (with_reducible refine CallsIn.mono (callsIn_wide.2 (KOr _).out) ?_); rintro e w' ⟨rfl, rfl⟩) | ((with_reducible refine RoundIn.mono HRR.out ?_); rintro e W3 ⟨bb, rfl, hcase⟩; dsimp only))
      all_goals (clear hy)
      all_goals cases bb
      all_goals gi_wp2
      all_goals first
        | (rcases hcase.out with ⟨h, _⟩ | ⟨_, h⟩
           · cases h
           · refine bodyPost_ret (results_none rfl _ _ _) rfl ?_
             exact ⟨⟨_, rfl⟩, .inr ⟨_, ⟨_, List.take_append_drop _ _⟩, h⟩⟩)
        | (rcases hcase.out with ⟨_, hJ3, hk3⟩ | ⟨h, _⟩
           · go_roundw
             case rel => exact ⟨k + 1, by go_num, by omega, Lib.hid hJ3, hk3.trans HFV.out⟩
             case measure => simp [intOf]; omega
           · cases h)
    · have HE := Lib.hid (show (idx P).take k = idx P from List.take_of_length_le (by rw [idx_length, HPL.out]; omega))
      gi_wp2
      go_end0
      exact ⟨⟨_, rfl⟩, .inl ⟨_, HE.out, hJ.out⟩⟩
theorem pairsOr_stops (b1 b2 b3 b4 : Nat) (u v : ByteArray) (x : Int) (w : World) (hu : u.size ≤ 1000) (hv : v.size ≤ 1000) (hx0 : 0 ≤ x) (hx1 : x < 256)
    (hF : Four w b1 b2 b3 b4 u v x (.func (.func 146) #[] #[])) (h1 : b1 < w.heap.size) (h2 : b2 < w.heap.size) (h3 : b3 < w.heap.size) (h4 : b4 < w.heap.size) (w' : World) (hw' : Below w.heap.size w w') :
    SeqStopsK Fence.wide 2 Tryd.prog 184 #[.pointer (some ⟨b1, 0, none⟩), .pointer (some ⟨b2, 0, none⟩), .pointer (some ⟨b3, 0, none⟩), .pointer (some ⟨b4, 0, none⟩)] (fun y : Nat × UInt8 => #[.int .i64 (y.1 : Int), .int .u8 (y.2.toNat : Int)]) (fun A B => B.cell? ⟨b4, 0, none⟩ = A.cell? ⟨b4, 0, none⟩)
      (fun xs => xs = idx (zipP opOr (bts u) (bts v) (pb x))) (fun pre => ∃ r, pre ++ r = idx (zipP opOr (bts u) (bts v) (pb x))) 1000 w' := by
  intro l J Jx W hW hJ hJx hY hJ0
  have hz := hw'.size
  refine (pairsOr_in l b1 b2 b3 b4 w.heap.size u v x hu hv hx0 hx1 J Jx hY (fun pre A B hA hAB => hJ pre A B none hA (only_below hAB) (fun r e => by cases e)) W ?_ h1 h2 h3 h4 (Nat.le_trans hz hW.size) hJ0).mono ?_
  · exact (hF.below hw' h1 h2 h3 h4).below hW (Nat.lt_of_lt_of_le h1 hz) (Nat.lt_of_lt_of_le h2 hz) (Nat.lt_of_lt_of_le h3 hz) (Nat.lt_of_lt_of_le h4 hz)
  · intro e W' h; exact h

set_option maxHeartbeats 8000000 in
theorem combinedOr_any (u v : ByteArray) (p : Int) (w : World) (hsu : u.size ≤ maxLen) (hsv : v.size ≤ maxLen) (hp2 : p ≤ 9223372036854775807) :
    Calls Tryd.prog 144 #[.string u, .string v, .int .i64 p, .func (.func 146) #[] #[]] w (GivesS w (bitsR opOr (bts u) (bts v) p)) := by
  have KVuv := fun (W : World) (pp : Nat) (hp : pp < W.heap.size) (hc : At W pp [.string u, .string v]) => Lib.hid (areValid2 pp u v W hsu hsv hp hc)
  have KMp := fun (W : World) => Lib.hid (isMissingOr_any 32 p W)
  cases hv0 : validL (bts u) && validL (bts v) with
  | false =>
    rw [hv0] at KVuv
    have HR := Lib.hid (show bitsR opOr (bts u) (bts v) p = ([], 1) by unfold bitsR guardR; simp only [hv0, Bool.and_false, Bool.false_and, Bool.true_and, Bool.and_true]; rfl)
    clear hv0
    rw [← callsIn_wide (n := 3)]
    refine callsIn_of_wp_marks Tryd.func144 rfl trivial ?_ rfl
    simp only [Tryd.ntmps144, List.size_toArray, List.length_cons, List.length_nil, Nat.reduceAdd, Nat.reduceSub, Array.replicate_succ, Array.replicate_zero, List.push_toArray, List.append_toArray, List.nil_append, List.cons_append]
    gi_wp2_with (first
      | (refine ⟨trivial, ?_⟩; gi_at_call 99; refine CallsIn.mono (callsIn_wide.2 (KVuv _ _ (by simp) (At.new2 _ _ _ _)).out) ?_; rintro e w1 ⟨rfl, hb1⟩; have B1 : Below w.heap.size w w1 := Bl.step (by repeat (first | assumption | exact Below.refl _ _ | refine Bl.alloc ?_ _ | refine Bl.drew ?_)) hb1)
      | (refine ⟨trivial, ?_⟩; rename_i hKK; refine hKK _ _ ?_))
    gi_wp2
    exact ⟨_, results_tmp2 rfl _ _ _, givesS HR.out rfl (by repeat (first | assumption | exact Below.refl _ _ | refine Bl.alloc ?_ _ | refine Bl.drew ?_))⟩
  | true =>
    rw [hv0] at KVuv
    cases hv1 : (decide (p = -1) || decide (32 ≤ p)) with
    | false =>
      rw [hv1] at KMp
      have HR := Lib.hid (show bitsR opOr (bts u) (bts v) p = ([], 1) by unfold bitsR guardR; simp only [hv0, hv1, Bool.and_false, Bool.false_and, Bool.true_and, Bool.and_true]; rfl)
      clear hv0 hv1
      rw [← callsIn_wide (n := 3)]
      refine callsIn_of_wp_marks Tryd.func144 rfl trivial ?_ rfl
      simp only [Tryd.ntmps144, List.size_toArray, List.length_cons, List.length_nil, Nat.reduceAdd, Nat.reduceSub, Array.replicate_succ, Array.replicate_zero, List.push_toArray, List.append_toArray, List.nil_append, List.cons_append]
      gi_wp2_with (first
        | (refine ⟨trivial, ?_⟩; gi_at_call 99; refine CallsIn.mono (callsIn_wide.2 (KVuv _ _ (by simp) (At.new2 _ _ _ _)).out) ?_; rintro e w1 ⟨rfl, hb1⟩; have B1 : Below w.heap.size w w1 := Bl.step (by repeat (first | assumption | exact Below.refl _ _ | refine Bl.alloc ?_ _ | refine Bl.drew ?_)) hb1)
        | (refine ⟨trivial, ?_⟩; gi_at_call 112; refine CallsIn.mono (callsIn_wide.2 (KMp _).out) ?_; rintro e w3 ⟨rfl, hb3⟩; have B3 : Below w.heap.size w w3 := Bl.step (by repeat (first | assumption | exact Below.refl _ _ | refine Bl.alloc ?_ _ | refine Bl.drew ?_)) hb3)
        | (refine ⟨trivial, ?_⟩; rename_i hKK; refine hKK _ _ ?_))
      gi_wp2
      exact ⟨_, results_tmp2 rfl _ _ _, givesS HR.out rfl (by repeat (first | assumption | exact Below.refl _ _ | refine Bl.alloc ?_ _ | refine Bl.drew ?_))⟩
    | true =>
      rw [hv1] at KMp
      have hlen := valid_le (Bool.and_eq_true_iff.1 hv0).1
      have hlen2 := valid_le (Bool.and_eq_true_iff.1 hv0).2
      by_cases hp126 : p ≤ 126
      · have hpd : decide (126 < p) = false := decide_eq_false (by omega)
        by_cases hm : p = -1
        · subst hm
          have hwp : IntKind.u8.wrap (-1) = 255 := by decide
          have HR := Lib.hid (show bitsR opOr (bts u) (bts v) (-1) = cleanR (zipP opOr ((bts u).take (min u.size v.size)) ((bts v).take (min u.size v.size)) (pb 255) ++ ((bts u).drop (min u.size v.size) ++ (bts v).drop (min u.size v.size))) by unfold bitsR guardR bitsB; rw [hv0, hv1, bts_length, bts_length]; rfl)
          have HMN : ((min u.size v.size : Nat) : Int) = min (u.size : Int) (v.size : Int) := by omega
          have KAU := fun W => Lib.hid (after_any u (min u.size v.size) W hsu)
          have KAV := fun W => Lib.hid (after_any v (min u.size v.size) W hsv)
          have KBU := fun W => Lib.hid (before_any u (min u.size v.size) W hsu)
          have KBV := fun W => Lib.hid (before_any v (min u.size v.size) W hsv)
          rw [HMN] at KAU KAV KBU KBV
          clear hv0 hv1 HMN
          rw [← callsIn_wide (n := 3)]
          refine callsIn_of_wp_marks Tryd.func144 rfl trivial ?_ rfl
          simp only [Tryd.ntmps144, List.size_toArray, List.length_cons, List.length_nil, Nat.reduceAdd, Nat.reduceSub, Array.replicate_succ, Array.replicate_zero, List.push_toArray, List.append_toArray, List.nil_append, List.cons_append]
          gi_wp2_with (first
            | (refine ⟨trivial, ?_⟩; gi_at_call 99; refine CallsIn.mono (callsIn_wide.2 (KVuv _ _ (by simp) (At.new2 _ _ _ _)).out) ?_; rintro e w1 ⟨rfl, hb1⟩; have B1 : Below w.heap.size w w1 := Bl.step (by repeat (first | assumption | exact Below.refl _ _ | refine Bl.alloc ?_ _ | refine Bl.drew ?_)) hb1)
            | (refine ⟨trivial, ?_⟩; gi_at_call 112; refine CallsIn.mono (callsIn_wide.2 (KMp _).out) ?_; rintro e w3 ⟨rfl, hb3⟩; have B3 : Below w.heap.size w w3 := Bl.step (by repeat (first | assumption | exact Below.refl _ _ | refine Bl.alloc ?_ _ | refine Bl.drew ?_)) hb3)
            | (refine ⟨trivial, ?_⟩; gi_at_call 113; (with_reducible refine CallsIn.mono (callsIn_wide.2 (KAU _).out) ?_); rintro e w4 ⟨a1, rfl, ha1, rfl⟩; have hsa1 : a1.size ≤ 1000 := (by have := size_of_bts ha1.out; rw [List.length_drop, bts_length] at this; omega))
            | (refine ⟨trivial, ?_⟩; gi_at_call 113; (with_reducible refine CallsIn.mono (callsIn_wide.2 (KAV _).out) ?_); rintro e w4 ⟨a2, rfl, ha2, rfl⟩; have hsa2 : a2.size ≤ 1000 := (by have := size_of_bts ha2.out; rw [List.length_drop, bts_length] at this; omega))
            | (refine ⟨trivial, ?_⟩; gi_at_call 115; (with_reducible refine CallsIn.mono (callsIn_wide.2 (KBU _).out) ?_); rintro e w4 ⟨su, rfl, hsu, rfl⟩; have hssu : su.size ≤ 1000 := (by have := size_of_bts hsu.out; rw [List.length_take, bts_length] at this; omega))
            | (refine ⟨trivial, ?_⟩; gi_at_call 115; (with_reducible refine CallsIn.mono (callsIn_wide.2 (KBV _).out) ?_); rintro e w4 ⟨sv, rfl, hsv, rfl⟩; have hssv : sv.size ≤ 1000 := (by have := size_of_bts hsv.out; rw [List.length_take, bts_length] at this; omega))
            | (refine ⟨trivial, ?_⟩; gi_at_call 170; refine CallsIn.mono (callsIn_wide.2 (pairs_any _ _ _ _ _ ⟨_, rfl⟩)) ?_; rintro e w5 ⟨rfl, rfl⟩)
            | (refine ⟨trivial, ?_⟩; rename_i hKK; refine hKK _ _ ?_))
          obtain ⟨rs, hrs⟩ : ∃ rs, rs = a1 ++ a2 := ⟨_, rfl⟩
          have hrss : rs.size ≤ 2000 := by rw [hrs, ByteArray.size_append]; omega
          have HR := Lib.hid (show bitsR opOr (bts u) (bts v) (-1) = cleanR (zipP opOr (bts su) (bts sv) (pb 255) ++ bts rs) by rw [HR.out, hrs, bts_append, ha1.out, ha2.out, hsu.out, hsv.out])
          rw [← hrs]
          clear hrs
          obtain ⟨D, hD⟩ : ∃ D, D = w3.heap.size := ⟨_, rfl⟩
          have bD := ((((Boxed.new w3 89 (.slice none 0 0)).alloc (.cells #[.string su] 9)).alloc (.cells #[.string sv] 9)).alloc (.cells #[.int .u8 255] 5)).alloc (.cells #[.func (.func 146) #[] #[]] 146)
          have bF := Boxed.new ((((w3.alloc (.cells #[.slice none 0 0] 89)).alloc (.cells #[.string su] 9)).alloc (.cells #[.string sv] 9)).alloc (.cells #[.int .u8 255] 5)) 146 (.func (.func 146) #[] #[])
          have h4 := four_new (w3.alloc (.cells #[.slice none 0 0] 89)) su sv 255 (.func (.func 146) #[] #[]) 9 9 5 146
          obtain ⟨W4, hW4⟩ : ∃ W4, W4 = ((((w3.alloc (.cells #[.slice none 0 0] 89)).alloc (.cells #[.string su] 9)).alloc (.cells #[.string sv] 9)).alloc (.cells #[.int .u8 255] 5)).alloc (.cells #[.func (.func 146) #[] #[]] 146) := ⟨_, rfl⟩
          have hz4 : W4.heap.size = w3.heap.size + 1 + 1 + 1 + 1 + 1 := by rw [hW4]; simp
          have hB4 : Below w.heap.size w W4 := by rw [hW4]; exact Bl.alloc (Bl.alloc (Bl.alloc (Bl.alloc (Bl.alloc B3 _) _) _) _) _
          simp only [World.size_alloc] at bD bF h4
          rw [← hW4] at bD bF h4 ⊢
          rw [← hD] at bD bF h4 hz4 ⊢
          have hwD : w.heap.size ≤ D := by rw [hD]; exact B3.size
          have hST := fun W' hW' => pairsOr_stops (D + 1) (D + 1 + 1) (D + 1 + 1 + 1) (D + 1 + 1 + 1 + 1) su sv 255 W4 (by omega) (by omega) (by omega) (by omega) h4 (by omega) (by omega) (by omega) (by omega) W' hW'
          obtain ⟨P, hP⟩ : ∃ P, P = zipP opOr (bts su) (bts sv) (pb 255) := ⟨_, rfl⟩
          rw [← hP] at hST HR
          have HST := Lib.hid hST
          have HPE := Lib.hid hP
          clear hD hW4 h4 hST hP
          refine wpIn_rangeFunc_ownG rfl (by omega) (gf := 184) (lb := #[.pointer (some ⟨D + 1, 0, none⟩), .pointer (some ⟨D + 1 + 1, 0, none⟩), .pointer (some ⟨D + 1 + 1 + 1, 0, none⟩), .pointer (some ⟨D + 1 + 1 + 1 + 1, 0, none⟩)]) rfl trivial (enters_of Tryd.func184 (by kernel_rfl) rfl) (HST.out _ (Below.refl _ _)) (fun h k => k.trans h) (fun W l o o' hl _ _ _ => World.cell?_of_block (World.putObj_heap_other (by simp; omega))) (Below.refl _ _) (fun _ => rfl)
            (CollAt w D (.func (.func 146) #[] #[])) (fun _ _ _ => False) (CollAt.own w D _ _ (by omega)) (fun _ _ _ _ _ hs _ _ => hs)
            ⟨bF, ⟨_, bD, World.ownsRow_nil _ _ _ _, trivial⟩, hB4⟩
            (fun y => { tmps := #[.string su, .string sv, .int .i64 (-1), .func (.func 146) #[] #[], undef, undef, undef, undef, .string ⟨#[]⟩, .int .i64 0, .string rs, .int .i64 (min (u.size : Int) (v.size : Int)), .pointer (some ⟨D, 0, none⟩), undef, .int .u8 (y.2.toNat : Int), .string u, .string v, .slice (some ⟨w.heap.size, 0, none⟩) 2 2, .bool true, .bool false, .bool false, .int .i64 (-1), .bool true, .bool false, .bool false, .bool false, .int .i64 (-1), .bool false, .bool false, .int .i64 (-1), .bool true, .string u, .int .i64 (u.size : Int), .string v, .int .i64 (v.size : Int), .int .i64 (min (u.size : Int) (v.size : Int)), .string u, .int .i64 (min (u.size : Int) (v.size : Int)), .string a1, .string v, .int .i64 (min (u.size : Int) (v.size : Int)), .string a2, .string rs, .string u, .int .i64 (min (u.size : Int) (v.size : Int)), .string su, .string v, .int .i64 (min (u.size : Int) (v.size : Int)), .string sv, .string su, .string sv, .int .i64 (-1), .int .u8 255, .func (.func 146) #[] #[], .func (.func 184) #[] #[.pointer (some ⟨D + 1, 0, none⟩), .pointer (some ⟨D + 1 + 1, 0, none⟩), .pointer (some ⟨D + 1 + 1 + 1, 0, none⟩), .pointer (some ⟨D + 1 + 1 + 1 + 1, 0, none⟩)], .int .i64 (y.1 : Int), .int .u8 (y.2.toNat : Int), undef, undef, undef, undef, undef, undef, undef, undef, undef, undef, undef], defers := [] }) ?assign ?body ?done ?stop
          case assign =>
            intro l y W K hK
            gi_wp2
            exact hK
          case body =>
            rintro l pre y W ⟨hF, ⟨v0, bv, hv, _⟩, hB1⟩ hlt
            obtain ⟨yi, yb⟩ := y
            have c1 := bv.cell
            have c2 := bv.frozen
            obtain ⟨i5, hi, hz0, hz1, hz2⟩ := info_parts info5
            have HV := Lib.hid hv
            have HBV := Lib.hid bv
            have HFX := Lib.hid hF
            have hsz := hB1.size
            have HB1 := Lib.hid hB1
            obtain ⟨pl, hpl⟩ : ∃ pl, pl = pre.length := ⟨_, rfl⟩
            have hpl' : pl ≤ 2000000 := by omega
            have HPL := Lib.hid hpl
            rw [← hpl] at HV
            clear hv bv hB1 hpl hlt hF
            gi_wp2_with (gi_at_builtin; refine wpListIn_append_own _ rfl _ _ 89 rfl w.heap.size 5 i5 (.int .u8 0) 1 1 Tryd.underlying89 hi hz0 hz1 hz2 rfl (by decide) _ _ _ rfl (HV.out.alloc _) ⟨W.heap.size, 0, none⟩ 1 1 [.int .u8 (yb.toNat : Int)] rfl rfl ?c1 ?c2 (by unfold maxLen; omega) (by omega) (by simp; omega) ?_)
            case c1 =>
              intro j u hj
              match j, hj with
              | 0, hj => simp at hj; subst hj; simp [Addr.add]
            case c2 =>
              intro u hu
              simp at hu
              rw [hu]; rfl
            intro v' w4 hown' hgrow hnil
            obtain ⟨g', cap', rfl⟩ := ownsRow_succ hown'
            obtain ⟨hb3, hb4, hr4, hk4, hbl4⟩ := Boxed.appended HBV.out (by decide) HV.out hsz (by omega) hown' hgrow
            have e3 := hb3.cell
            have e4 := hb3.frozen
            have hF4 := ((HFX.out.alloc (.cells #[.int .u8 (yb.toNat : Int)] 5)).kept hgrow (HFX.out.not_row (by decide) HV.out)).kept (grownBy_setCell' w4 D (.slice (some ⟨g', 0, none⟩) (pl + 1) cap')) (by simp; omega)
            have HF4 := Lib.hid hF4
            clear hF4
            gi_wp2
            refine ⟨hk4.from _, ?_, HF4.out, ⟨_, hb4, ?_, trivial⟩, HB1.out.trans hbl4⟩
            · show World.cell? _ _ = World.cell? _ _
              rw [HF4.out.cell, HFX.out.cell]
            · rw [List.map_append, List.length_append, ← HPL.out]
              exact hr4
          case done =>
            rintro DD ys W hDD hys ⟨hF, ⟨v0, bv, hv, _⟩, hB1⟩ hK
            have c1 := bv.cell
            have hl2 : ys.map (fun x => u8v x.2) = P.map u8v := by
              rw [hys]
              have := idx_snd P
              rw [show (fun x : Nat × UInt8 => u8v x.2) = u8v ∘ (fun x => x.2) from rfl, ← List.map_map, this]
            have hl3 : ys.length = P.length := by rw [hys, idx_length]
            rw [hl2, hl3] at hv
            have hPl : P.length ≤ 1000 := by rw [HPE.out, zipP_length, bts_length, bts_length]; omega
            obtain ⟨t, hconv, ht⟩ := conv_row hv
            have hts := size_of_bts ht
            have hts' : t.size ≤ 1000 := by omega
            have HT := Lib.hid ht
            have HB1 := Lib.hid hB1
            have HK := Lib.hid hK
            have HDD := Lib.hid hDD
            have HV := Lib.hid hv
            obtain ⟨va, vn, vc, hva⟩ : ∃ va vn vc, v0 = .slice va vn vc := by
              obtain ⟨_, ⟨e, _⟩ | ⟨g, cap, cur, e, _⟩⟩ := hv
              · exact ⟨_, _, _, e⟩
              · exact ⟨_, _, _, e⟩
            subst hva
            have hRS : rs.size ≤ 2000 := by first | omega | decide
            have KCL := fun W => Lib.hid (clean_any (t ++ rs) W (by unfold maxLen; rw [ByteArray.size_append]; omega))
            obtain ⟨r, hr⟩ : ∃ r, r = cleanR (bts (t ++ rs)) := ⟨_, rfl⟩
            have HR2 := Lib.hid (show bitsR opOr (bts u) (bts v) (-1) = r by rw [HR.out, hr, bts_append, HT.out])
            rw [← hr] at KCL
            clear hys hl2 hl3 hF bv hv hB1 hK ht hr hDD hts
            gi_wp2_with (refine ⟨trivial, ?_⟩; gi_at_call 151; refine CallsIn.mono (callsIn_wide.2 (KCL _).out) ?_; rintro e w6 ⟨t6, rfl, ht6, hb6⟩)
            have hDW := (Array.getElem?_eq_some_iff.1 HK.out).1
            have hK6 : w6.heap[DD]? = some (.deferred (some [])) := (hb6.block DD hDW).trans HK.out
            refine ⟨by simp, .inl ⟨_, _, rfl, run_takeDeferred hK6, ?_⟩⟩
            refine ⟨_, results_tmp2 rfl _ _ _, ?_⟩
            refine ⟨t6, by rw [HR2.out]; rfl, by rw [HR2.out]; exact ht6, ?_⟩
            have hDDw : w.heap.size ≤ DD := Nat.le_trans hB4.size HDD.out
            exact (Bl.step HB1.out hb6).trans (belowK_b (w := w) (Nat.le_refl _) w6 DD _ _ hDDw hK6 rfl rfl)
          case stop =>
            rintro DD c pre W _ _ h _
            exact h.elim
        · have hp32 : 32 ≤ p := by
            rw [decide_eq_false hm, Bool.false_or] at hv1
            exact of_decide_eq_true hv1
          have hmb : (p == -1) = false := by simpa using hm
          have hwp : IntKind.u8.wrap p = p := by rw [IntKind.wrap_u8]; omega
          have HR := Lib.hid (show bitsR opOr (bts u) (bts v) p = cleanR (zipP opOr (bts u) (bts v) (pb p) ++ []) by unfold bitsR guardR bitsB; rw [hv0, hv1]; simp [hp126, hm])
          clear hv0 hv1 hm
          rw [← callsIn_wide (n := 3)]
          refine callsIn_of_wp_marks Tryd.func144 rfl trivial ?_ rfl
          simp only [Tryd.ntmps144, List.size_toArray, List.length_cons, List.length_nil, Nat.reduceAdd, Nat.reduceSub, Array.replicate_succ, Array.replicate_zero, List.push_toArray, List.append_toArray, List.nil_append, List.cons_append]
          gi_wp2_with (first
            | (refine ⟨trivial, ?_⟩; gi_at_call 99; refine CallsIn.mono (callsIn_wide.2 (KVuv _ _ (by simp) (At.new2 _ _ _ _)).out) ?_; rintro e w1 ⟨rfl, hb1⟩; have B1 : Below w.heap.size w w1 := Bl.step (by repeat (first | assumption | exact Below.refl _ _ | refine Bl.alloc ?_ _ | refine Bl.drew ?_)) hb1)
            | (refine ⟨trivial, ?_⟩; gi_at_call 112; refine CallsIn.mono (callsIn_wide.2 (KMp _).out) ?_; rintro e w3 ⟨rfl, hb3⟩; have B3 : Below w.heap.size w w3 := Bl.step (by repeat (first | assumption | exact Below.refl _ _ | refine Bl.alloc ?_ _ | refine Bl.drew ?_)) hb3)
            | (refine ⟨trivial, ?_⟩; gi_at_call 170; refine CallsIn.mono (callsIn_wide.2 (pairs_any _ _ _ _ _ ⟨_, rfl⟩)) ?_; rintro e w5 ⟨rfl, rfl⟩)
            | (refine ⟨trivial, ?_⟩; rename_i hKK; refine hKK _ _ ?_))
          obtain ⟨D, hD⟩ : ∃ D, D = w3.heap.size := ⟨_, rfl⟩
          have bD := ((((Boxed.new w3 89 (.slice none 0 0)).alloc (.cells #[.string u] 9)).alloc (.cells #[.string v] 9)).alloc (.cells #[.int .u8 p] 5)).alloc (.cells #[.func (.func 146) #[] #[]] 146)
          have bF := Boxed.new ((((w3.alloc (.cells #[.slice none 0 0] 89)).alloc (.cells #[.string u] 9)).alloc (.cells #[.string v] 9)).alloc (.cells #[.int .u8 p] 5)) 146 (.func (.func 146) #[] #[])
          have h4 := four_new (w3.alloc (.cells #[.slice none 0 0] 89)) u v p (.func (.func 146) #[] #[]) 9 9 5 146
          obtain ⟨W4, hW4⟩ : ∃ W4, W4 = ((((w3.alloc (.cells #[.slice none 0 0] 89)).alloc (.cells #[.string u] 9)).alloc (.cells #[.string v] 9)).alloc (.cells #[.int .u8 p] 5)).alloc (.cells #[.func (.func 146) #[] #[]] 146) := ⟨_, rfl⟩
          have hz4 : W4.heap.size = w3.heap.size + 1 + 1 + 1 + 1 + 1 := by rw [hW4]; simp
          have hB4 : Below w.heap.size w W4 := by rw [hW4]; exact Bl.alloc (Bl.alloc (Bl.alloc (Bl.alloc (Bl.alloc B3 _) _) _) _) _
          simp only [World.size_alloc] at bD bF h4
          rw [← hW4] at bD bF h4 ⊢
          rw [← hD] at bD bF h4 hz4 ⊢
          have hwD : w.heap.size ≤ D := by rw [hD]; exact B3.size
          have hST := fun W' hW' => pairsOr_stops (D + 1) (D + 1 + 1) (D + 1 + 1 + 1) (D + 1 + 1 + 1 + 1) u v p W4 (by omega) (by omega) (by omega) (by omega) h4 (by omega) (by omega) (by omega) (by omega) W' hW'
          obtain ⟨P, hP⟩ : ∃ P, P = zipP opOr (bts u) (bts v) (pb p) := ⟨_, rfl⟩
          rw [← hP] at hST HR
          have HST := Lib.hid hST
          have HPE := Lib.hid hP
          clear hD hW4 h4 hST hP
          refine wpIn_rangeFunc_ownG rfl (by omega) (gf := 184) (lb := #[.pointer (some ⟨D + 1, 0, none⟩), .pointer (some ⟨D + 1 + 1, 0, none⟩), .pointer (some ⟨D + 1 + 1 + 1, 0, none⟩), .pointer (some ⟨D + 1 + 1 + 1 + 1, 0, none⟩)]) rfl trivial (enters_of Tryd.func184 (by kernel_rfl) rfl) (HST.out _ (Below.refl _ _)) (fun h k => k.trans h) (fun W l o o' hl _ _ _ => World.cell?_of_block (World.putObj_heap_other (by simp; omega))) (Below.refl _ _) (fun _ => rfl)
            (CollAt w D (.func (.func 146) #[] #[])) (fun _ _ _ => False) (CollAt.own w D _ _ (by omega)) (fun _ _ _ _ _ hs _ _ => hs)
            ⟨bF, ⟨_, bD, World.ownsRow_nil _ _ _ _, trivial⟩, hB4⟩
            (fun y => { tmps := #[.string u, .string v, .int .i64 p, .func (.func 146) #[] #[], undef, undef, undef, undef, .string ⟨#[]⟩, .int .i64 0, .string ⟨#[]⟩, undef, .pointer (some ⟨D, 0, none⟩), undef, .int .u8 (y.2.toNat : Int), .string u, .string v, .slice (some ⟨w.heap.size, 0, none⟩) 2 2, .bool true, .bool false, .bool false, .int .i64 p, .bool true, .bool false, .bool false, .bool false, .int .i64 p, .bool false, .bool false, .int .i64 p, .bool false, undef, undef, undef, undef, undef, undef, undef, undef, undef, undef, undef, undef, undef, undef, undef, undef, undef, undef, .string u, .string v, .int .i64 p, .int .u8 p, .func (.func 146) #[] #[], .func (.func 184) #[] #[.pointer (some ⟨D + 1, 0, none⟩), .pointer (some ⟨D + 1 + 1, 0, none⟩), .pointer (some ⟨D + 1 + 1 + 1, 0, none⟩), .pointer (some ⟨D + 1 + 1 + 1 + 1, 0, none⟩)], .int .i64 (y.1 : Int), .int .u8 (y.2.toNat : Int), undef, undef, undef, undef, undef, undef, undef, undef, undef, undef, undef], defers := [] }) ?assign ?body ?done ?stop
          case assign =>
            intro l y W K hK
            gi_wp2
            exact hK
          case body =>
            rintro l pre y W ⟨hF, ⟨v0, bv, hv, _⟩, hB1⟩ hlt
            obtain ⟨yi, yb⟩ := y
            have c1 := bv.cell
            have c2 := bv.frozen
            obtain ⟨i5, hi, hz0, hz1, hz2⟩ := info_parts info5
            have HV := Lib.hid hv
            have HBV := Lib.hid bv
            have HFX := Lib.hid hF
            have hsz := hB1.size
            have HB1 := Lib.hid hB1
            obtain ⟨pl, hpl⟩ : ∃ pl, pl = pre.length := ⟨_, rfl⟩
            have hpl' : pl ≤ 2000000 := by omega
            have HPL := Lib.hid hpl
            rw [← hpl] at HV
            clear hv bv hB1 hpl hlt hF
            gi_wp2_with (gi_at_builtin; refine wpListIn_append_own _ rfl _ _ 89 rfl w.heap.size 5 i5 (.int .u8 0) 1 1 Tryd.underlying89 hi hz0 hz1 hz2 rfl (by decide) _ _ _ rfl (HV.out.alloc _) ⟨W.heap.size, 0, none⟩ 1 1 [.int .u8 (yb.toNat : Int)] rfl rfl ?c1 ?c2 (by unfold maxLen; omega) (by omega) (by simp; omega) ?_)
            case c1 =>
              intro j u hj
              match j, hj with
              | 0, hj => simp at hj; subst hj; simp [Addr.add]
            case c2 =>
              intro u hu
              simp at hu
              rw [hu]; rfl
            intro v' w4 hown' hgrow hnil
            obtain ⟨g', cap', rfl⟩ := ownsRow_succ hown'
            obtain ⟨hb3, hb4, hr4, hk4, hbl4⟩ := Boxed.appended HBV.out (by decide) HV.out hsz (by omega) hown' hgrow
            have e3 := hb3.cell
            have e4 := hb3.frozen
            have hF4 := ((HFX.out.alloc (.cells #[.int .u8 (yb.toNat : Int)] 5)).kept hgrow (HFX.out.not_row (by decide) HV.out)).kept (grownBy_setCell' w4 D (.slice (some ⟨g', 0, none⟩) (pl + 1) cap')) (by simp; omega)
            have HF4 := Lib.hid hF4
            clear hF4
            gi_wp2
            refine ⟨hk4.from _, ?_, HF4.out, ⟨_, hb4, ?_, trivial⟩, HB1.out.trans hbl4⟩
            · show World.cell? _ _ = World.cell? _ _
              rw [HF4.out.cell, HFX.out.cell]
            · rw [List.map_append, List.length_append, ← HPL.out]
              exact hr4
          case done =>
            rintro DD ys W hDD hys ⟨hF, ⟨v0, bv, hv, _⟩, hB1⟩ hK
            have c1 := bv.cell
            have hl2 : ys.map (fun x => u8v x.2) = P.map u8v := by
              rw [hys]
              have := idx_snd P
              rw [show (fun x : Nat × UInt8 => u8v x.2) = u8v ∘ (fun x => x.2) from rfl, ← List.map_map, this]
            have hl3 : ys.length = P.length := by rw [hys, idx_length]
            rw [hl2, hl3] at hv
            have hPl : P.length ≤ 1000 := by rw [HPE.out, zipP_length, bts_length, bts_length]; omega
            obtain ⟨t, hconv, ht⟩ := conv_row hv
            have hts := size_of_bts ht
            have hts' : t.size ≤ 1000 := by omega
            have HT := Lib.hid ht
            have HB1 := Lib.hid hB1
            have HK := Lib.hid hK
            have HDD := Lib.hid hDD
            have HV := Lib.hid hv
            obtain ⟨va, vn, vc, hva⟩ : ∃ va vn vc, v0 = .slice va vn vc := by
              obtain ⟨_, ⟨e, _⟩ | ⟨g, cap, cur, e, _⟩⟩ := hv
              · exact ⟨_, _, _, e⟩
              · exact ⟨_, _, _, e⟩
            subst hva
            have hRS : (⟨#[]⟩ : ByteArray).size ≤ 2000 := by first | omega | decide
            have KCL := fun W => Lib.hid (clean_any (t ++ (⟨#[]⟩ : ByteArray)) W (by unfold maxLen; rw [ByteArray.size_append]; omega))
            obtain ⟨r, hr⟩ : ∃ r, r = cleanR (bts (t ++ (⟨#[]⟩ : ByteArray))) := ⟨_, rfl⟩
            have HR2 := Lib.hid (show bitsR opOr (bts u) (bts v) p = r by rw [HR.out, hr, bts_append, HT.out]; rfl)
            rw [← hr] at KCL
            clear hys hl2 hl3 hF bv hv hB1 hK ht hr hDD hts
            gi_wp2_with (refine ⟨trivial, ?_⟩; gi_at_call 151; refine CallsIn.mono (callsIn_wide.2 (KCL _).out) ?_; rintro e w6 ⟨t6, rfl, ht6, hb6⟩)
            have hDW := (Array.getElem?_eq_some_iff.1 HK.out).1
            have hK6 : w6.heap[DD]? = some (.deferred (some [])) := (hb6.block DD hDW).trans HK.out
            refine ⟨by simp, .inl ⟨_, _, rfl, run_takeDeferred hK6, ?_⟩⟩
            refine ⟨_, results_tmp2 rfl _ _ _, ?_⟩
            refine ⟨t6, by rw [HR2.out]; rfl, by rw [HR2.out]; exact ht6, ?_⟩
            have hDDw : w.heap.size ≤ DD := Nat.le_trans hB4.size HDD.out
            exact (Bl.step HB1.out hb6).trans (belowK_b (w := w) (Nat.le_refl _) w6 DD _ _ hDDw hK6 rfl rfl)
          case stop =>
            rintro DD c pre W _ _ h _
            exact h.elim
      · have HR := Lib.hid (show bitsR opOr (bts u) (bts v) p = ([], 1) by unfold bitsR guardR; simp [hp126])
        clear hv0 hv1
        rw [← callsIn_wide (n := 3)]
        refine callsIn_of_wp_marks Tryd.func144 rfl trivial ?_ rfl
        simp only [Tryd.ntmps144, List.size_toArray, List.length_cons, List.length_nil, Nat.reduceAdd, Nat.reduceSub, Array.replicate_succ, Array.replicate_zero, List.push_toArray, List.append_toArray, List.nil_append, List.cons_append]
        gi_wp2_with (first
          | (refine ⟨trivial, ?_⟩; gi_at_call 99; refine CallsIn.mono (callsIn_wide.2 (KVuv _ _ (by simp) (At.new2 _ _ _ _)).out) ?_; rintro e w1 ⟨rfl, hb1⟩; have B1 : Below w.heap.size w w1 := Bl.step (by repeat (first | assumption | exact Below.refl _ _ | refine Bl.alloc ?_ _ | refine Bl.drew ?_)) hb1)
          | (refine ⟨trivial, ?_⟩; gi_at_call 112; refine CallsIn.mono (callsIn_wide.2 (KMp _).out) ?_; rintro e w3 ⟨rfl, hb3⟩; have B3 : Below w.heap.size w w3 := Bl.step (by repeat (first | assumption | exact Below.refl _ _ | refine Bl.alloc ?_ _ | refine Bl.drew ?_)) hb3)
          | (refine ⟨trivial, ?_⟩; rename_i hKK; refine hKK _ _ ?_))
        gi_wp2
        exact ⟨_, results_tmp2 rfl _ _ _, givesS HR.out rfl (by repeat (first | assumption | exact Below.refl _ _ | refine Bl.alloc ?_ _ | refine Bl.drew ?_))⟩
set_option maxHeartbeats 1000000 in
theorem BitOr_any (u v : ByteArray) (p : Int) (w : World) (hsu : u.size ≤ maxLen) (hsv : v.size ≤ maxLen) (hp2 : p ≤ 9223372036854775807) :
    Calls Tryd.prog 81 #[.string u, .string v, .int .i64 p] w (GivesS w (bitsR opOr (bts u) (bts v) p)) := by
  have KC := Lib.hid (combinedOr_any u v p w hsu hsv hp2)
  clear hp2
  go_enter Tryd.func81, Tryd.ntmps81
  go_wp2_with (go_at_call 144; refine Calls.mono KC.out ?_; rintro e w3 ⟨t3, rfl, ht3, hb3⟩)
  go_ret2
  exact ⟨t3, rfl, ht3, hb3⟩
end Go.Proofs.YtoilgjlbpimcpaaDoor
