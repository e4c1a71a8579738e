/- Space. -/
import Derived.Test.YtoilgjlbpimcpaaDoorZc
import Derived.Test.YtoilgjlbpimcpaaDoorTp
import Derived.Lib.Join
namespace Go.Proofs.YtoilgjlbpimcpaaDoor
open Go.RowKit Go.Shelf Tx
set_option linter.unusedVariables false
set_option maxRecDepth 100000

namespace Tx
/-- The words of a string. -/
def wordsL (l : List UInt8) : List (List UInt8) := (spans l).map (wordL l)
theorem wordsL_length (l : List UInt8) : (wordsL l).length = (spans l).length := by unfold wordsL; simp
def spaceR (l : List UInt8) (n p : Int) : Res := guardR (validL l && padI p && decide (0 ≤ n))
  (if (spans l).length = 0 then ([], 0) else if 1000 < (Lib.lens (wordsL l) : Int) + timesS n (((spans l).length - 1 : Nat) : Int) then ([], 3) else (Lib.join (wordsL l) (List.replicate n.toNat (pb p)), 0))
theorem join_len {xs : List (List UInt8)} (sep : List UInt8) (h : 0 < xs.length) : (Lib.join xs sep).length = sep.length * (xs.length - 1) + Lib.lens xs := by
  cases xs with
  | nil => simp at h
  | cons x r => rw [Lib.join_length]; simp
theorem lens_wst (l : List UInt8) : ∀ k, Lib.lens ((wst l k).1.map (wordL l)) ≤ (wst l k).2 ∧ Lib.lens ((wst l k).1.map (wordL l)) ≤ k - 1
  | 0 => by simp [wst, Lib.lens]
  | k + 1 => by
    obtain ⟨h1, h2⟩ := lens_wst l k
    have h3 := wst_le l k
    by_cases h : k < l.length ∧ l[k]? ≠ some 32
    · rw [wst_go h.1 h.2]; omega
    · by_cases hf : (wst l k).2 < k
      · rw [wst_end h hf]
        have e : Lib.lens (((wst l k).1 ++ [((wst l k).2, k)]).map (wordL l)) ≤ Lib.lens ((wst l k).1.map (wordL l)) + (k - (wst l k).2) := by
          unfold Lib.lens
          simp [wordL]
          omega
        simp only
        omega
      · rw [wst_no h hf]
        simp only
        omega
theorem lens_words (l : List UInt8) : Lib.lens (wordsL l) ≤ l.length := (lens_wst l (l.length + 1)).2
end Tx
theorem str_row {w : World} {B : Nat} {v : Value} {s : ByteArray} {L : List (Nat × Nat)} (h : w.ownsRow B 9 1 v L.length (L.map (txt s))) (h0 : 0 < L.length) :
    ∃ g cap, v = .slice (some ⟨g, 0, none⟩) L.length cap ∧ L.length ≤ cap ∧ g < w.heap.size ∧ ∀ (j : Nat) x, (L.map fun p => s.extract p.1 p.2)[j]? = some x → w.cell? ⟨g, j, none⟩ = some (.string x) := by
  rcases h.2 with ⟨rfl, h1⟩ | ⟨g, cap, cur, rfl, hB, hg, hc, _⟩
  · omega
  · refine ⟨g, cap, rfl, hc, (Array.getElem?_eq_some_iff.1 hg).1, fun j x hx => ?_⟩
    have hj := (List.getElem?_eq_some_iff.1 hx).1
    rw [List.length_map] at hj
    rw [World.ownsRow.cellAt h j (by omega), List.getElem?_map]
    rw [List.getElem?_map] at hx
    cases hp : L[j]? with
    | none => rw [hp] at hx; cases hx
    | some p => rw [hp] at hx; cases hx; rfl
theorem ext_word (s : ByteArray) (L : List (Nat × Nat)) : (L.map fun p => s.extract p.1 p.2).map (·.data.toList) = L.map (wordL (bts s)) := by
  rw [List.map_map]
  apply List.map_congr_left
  intro p _
  show bts (s.extract p.1 p.2) = _
  rw [bts_extract]
  unfold wordL
  rw [List.drop_take]
/-- strings.Join of the words. -/
theorem join_any (s sep : ByteArray) (L : List (Nat × Nat)) (g cap : Nat) (W : World) (hc : ∀ (j : Nat) x, (L.map fun p => s.extract p.1 p.2)[j]? = some x → W.cell? ⟨g, j, none⟩ = some (.string x)) (hg : g < W.heap.size) (hcap : L.length ≤ cap) (hN : L.length ≤ 1000000)
    (hlen : (Lib.join (L.map (wordL (bts s))) (bts sep)).length ≤ 1000000) :
    Calls Tryd.prog 137 #[.slice (some ⟨g, 0, none⟩) L.length cap, .string sep] W fun e w' => ∃ t, e = .returned (.string t) ∧ Hid (bts t = Lib.join (L.map (wordL (bts s))) (bts sep)) ∧ Below W.heap.size W w' := by
  have hx : (L.map fun p => s.extract p.1 p.2).length = L.length := by simp
  have := Tryd.strings_Join g 0 cap (L.map fun p => s.extract p.1 p.2) sep W (fun j x h => by rw [Nat.zero_add]; exact hc j x h) hg (by rw [hx]; omega) (by rw [hx]; exact hcap) (by rw [ext_word]; exact Nat.le_trans hlen (by decide))
  rw [hx, ext_word] at this
  exact this.mono fun e w' ⟨h1, h2⟩ => ⟨_, h1, Lib.hid (bts_mk _), h2⟩
theorem padI_bd {x : Int} (h : padI x = true) : 0 ≤ x ∧ x < 256 := by
  unfold padI at h
  simp only [Bool.and_eq_true, decide_eq_true_eq] at h
  omega
set_option maxHeartbeats 8000000 in
theorem Space_any (s : ByteArray) (n x : Int) (w : World) (hss : s.size ≤ maxLen) (hn2 : n ≤ 9223372036854775807) :
    Calls Tryd.prog 68 #[.string s, .int .i64 n, .int .u8 x] w (GivesS w (spaceR (bts s) n x)) := by
  have KVs := fun (W : World) (pp : Nat) (hp : pp < W.heap.size) (hc : At W pp [.string s]) => Lib.hid (areValid1 pp s W hss hp hc)
  have KPx := fun (W : World) (pp : Nat) (hc : W.cell? ⟨pp, 0, none⟩ = some (.int .u8 x)) => Lib.hid (arePads1 pp x W hc)
  have KAn := fun (W : World) (pp : Nat) (hc : W.cell? ⟨pp, 0, none⟩ = some (.int .i64 n)) => Lib.hid (areAtLeast1 pp 0 n W hc)
  cases hv0 : validL (bts s) with
  | false =>
    rw [hv0] at KVs
    have HR := Lib.hid (show spaceR (bts s) n x = ([], 1) by unfold spaceR guardR; simp only [hv0, Bool.and_false, Bool.false_and, Bool.true_and, Bool.and_true]; rfl)
    clear hv0
    go_enter Tryd.func68, Tryd.ntmps68
    go_wp2_with (first
      | (go_at_call 99; refine Calls.mono (KVs _ _ (by simp) (At.new1 _ _ _)).out ?_; rintro e w1 ⟨rfl, hb1⟩; have B1 : Below w.heap.size w w1 := Bl.step (by repeat (first | assumption | exact Below.refl _ _ | refine Bl.alloc ?_ _ | refine Bl.drew ?_)) hb1))
    go_ret2
    exact givesS HR.out rfl (by repeat (first | assumption | exact Below.refl _ _ | refine Bl.alloc ?_ _ | refine Bl.drew ?_))
  | true =>
    rw [hv0] at KVs
    cases hv1 : padI x with
    | false =>
      rw [hv1] at KPx
      have HR := Lib.hid (show spaceR (bts s) n x = ([], 1) by unfold spaceR guardR; simp only [hv0, hv1, Bool.and_false, Bool.false_and, Bool.true_and, Bool.and_true]; rfl)
      clear hv0 hv1
      go_enter Tryd.func68, Tryd.ntmps68
      go_wp2_with (first
        | (go_at_call 99; refine Calls.mono (KVs _ _ (by simp) (At.new1 _ _ _)).out ?_; rintro e w1 ⟨rfl, hb1⟩; have B1 : Below w.heap.size w w1 := Bl.step (by repeat (first | assumption | exact Below.refl _ _ | refine Bl.alloc ?_ _ | refine Bl.drew ?_)) hb1)
        | (go_at_call 105; refine Calls.mono (KPx _ _ (cellAt (by simp))).out ?_; rintro e w2 ⟨rfl, rfl⟩))
      go_ret2
      exact givesS HR.out rfl (by repeat (first | assumption | exact Below.refl _ _ | refine Bl.alloc ?_ _ | refine Bl.drew ?_))
    | true =>
      rw [hv1] at KPx
      cases hv2 : decide (0 ≤ n) with
      | false =>
        rw [hv2] at KAn
        have HR := Lib.hid (show spaceR (bts s) n x = ([], 1) by unfold spaceR guardR; simp only [hv0, hv1, hv2, Bool.and_false, Bool.false_and, Bool.true_and, Bool.and_true]; rfl)
        clear hv0 hv1 hv2
        go_enter Tryd.func68, Tryd.ntmps68
        go_wp2_with (first
          | (go_at_call 99; refine Calls.mono (KVs _ _ (by simp) (At.new1 _ _ _)).out ?_; rintro e w1 ⟨rfl, hb1⟩; have B1 : Below w.heap.size w w1 := Bl.step (by repeat (first | assumption | exact Below.refl _ _ | refine Bl.alloc ?_ _ | refine Bl.drew ?_)) hb1)
          | (go_at_call 105; refine Calls.mono (KPx _ _ (cellAt (by simp))).out ?_; rintro e w2 ⟨rfl, rfl⟩)
          | (go_at_call 100; refine Calls.mono (KAn _ _ (cellAt (by simp))).out ?_; rintro e w2 ⟨rfl, rfl⟩))
        go_ret2
        exact givesS HR.out rfl (by repeat (first | assumption | exact Below.refl _ _ | refine Bl.alloc ?_ _ | refine Bl.drew ?_))
      | true =>
        rw [hv2] at KAn
        have hlen := valid_le hv0
        have hn0 := of_decide_eq_true hv2
        have hx01 := padI_bd hv1
        have KT := fun W => Lib.hid (wordTexts_any s W (by omega))
        have HR0 := Lib.hid (show spaceR (bts s) n x = (if (spans (bts s)).length = 0 then ([], 0) else if 1000 < (Lib.lens (wordsL (bts s)) : Int) + timesS n (((spans (bts s)).length - 1 : Nat) : Int) then ([], 3) else (Lib.join (wordsL (bts s)) (List.replicate n.toNat (pb x)), 0)) by unfold spaceR guardR; rw [hv0, hv1, hv2]; rfl)
        have hsl := spans_length (bts s)
        rw [bts_length] at hsl
        have hlw := lens_words (bts s)
        rw [bts_length] at hlw
        by_cases hk0 : (spans (bts s)).length = 0
        · have HR := Lib.hid (show spaceR (bts s) n x = ([], 0) by rw [HR0.out, if_pos hk0])
          clear hv0 hv1 hv2 hn2 hsl
          go_enter Tryd.func68, Tryd.ntmps68
          go_wp2_with (first
            | (go_at_call 99; refine Calls.mono (KVs _ _ (by simp) (At.new1 _ _ _)).out ?_; rintro e w1 ⟨rfl, hb1⟩; have B1 : Below w.heap.size w w1 := Bl.step (by repeat (first | assumption | exact Below.refl _ _ | refine Bl.alloc ?_ _ | refine Bl.drew ?_)) hb1)
            | (go_at_call 105; refine Calls.mono (KPx _ _ (cellAt (by simp))).out ?_; rintro e w2 ⟨rfl, rfl⟩)
            | (go_at_call 100; refine Calls.mono (KAn _ _ (cellAt (by simp))).out ?_; rintro e w2 ⟨rfl, rfl⟩)
            | (go_at_call 130; refine Calls.mono (KT _).out ?_; rintro e w4 ⟨v, rfl, hrow, hb4⟩; have B4 : Below w.heap.size w w4 := Bl.step (by repeat (first | assumption | exact Below.refl _ _ | refine Bl.alloc ?_ _ | refine Bl.drew ?_)) hb4; obtain ⟨ao, cap, rfl⟩ := own_shape hrow; rw [hk0]; clear hrow hb4))
          go_ret2
          exact givesS HR.out rfl (by repeat (first | assumption | exact Below.refl _ _ | refine Bl.alloc ?_ _ | refine Bl.drew ?_))
        · obtain ⟨k, hk⟩ : ∃ k, (spans (bts s)).length = k + 1 := ⟨(spans (bts s)).length - 1, by omega⟩
          obtain ⟨p0, hp0⟩ : ∃ p, (spans (bts s))[0]? = some p := ⟨_, List.getElem?_eq_getElem (by omega)⟩
          have HP0 := Lib.hid hp0
          obtain ⟨S, hS⟩ : ∃ S, S = Lib.lens (wordsL (bts s)) := ⟨_, rfl⟩
          have HJ0 := Lib.hid (show (Lib.join ((spans (bts s)).map (wordL (bts s))) (bts (⟨#[]⟩ : ByteArray))).length = S by
            rw [hS]
            have := join_len (xs := wordsL (bts s)) (bts (⟨#[]⟩ : ByteArray)) (by rw [wordsL_length]; omega)
            simpa [wordsL, bts] using this)
          rw [hk, if_neg (by omega), Nat.add_sub_cancel, ← hS] at HR0
          rw [← hS] at hlw
          have hw1 : IntKind.i64.wrap (((k + 1 : Nat) : Int) - 1) = (k : Int) := by rw [show ((k + 1 : Nat) : Int) - 1 = (k : Int) by omega]; exact IntWalk.i64_in _ (by omega)
          have hw2 : (k : Int) + 1 - 1 = (k : Int) := by omega
          have hw3 : IntKind.i64.wrap (k : Int) = (k : Int) := IntWalk.i64_in _ (by omega)
          have KTI := fun W => Lib.hid (times_any n (k : Int) W hn0 hn2 (by omega) (by omega))
          have htp := (timesS_spec (n := n) (len := (k : Int)) hn0 (by omega)).2
          have hti := (timesS_spec (n := n) (len := (k : Int)) hn0 (by omega)).1
          obtain ⟨z, hz⟩ : ∃ z, z = timesS n (k : Int) := ⟨_, rfl⟩
          have HZ := Lib.hid hz
          rw [← hz] at KTI htp HR0
          have KL := fun (W : World) (p : Nat) (hc : At W p [.int .i64 (S : Int), .int .i64 z]) => Lib.hid (isTooLong2 p (S : Int) z W (by omega) htp hc)
          by_cases hl : 1000 < (S : Int) + z
          · have HR := Lib.hid (show spaceR (bts s) n x = ([], 3) by rw [HR0.out, if_pos hl])
            rw [decide_eq_true hl] at KL
            clear hv0 hv1 hv2 hn2 htp hti hz hl hp0 hS hk0
            go_enter Tryd.func68, Tryd.ntmps68
            go_wp2_with (first
              | (go_at_call 99; refine Calls.mono (KVs _ _ (by simp) (At.new1 _ _ _)).out ?_; rintro e w1 ⟨rfl, hb1⟩; have B1 : Below w.heap.size w w1 := Bl.step (by repeat (first | assumption | exact Below.refl _ _ | refine Bl.alloc ?_ _ | refine Bl.drew ?_)) hb1)
              | (go_at_call 105; refine Calls.mono (KPx _ _ (cellAt (by simp))).out ?_; rintro e w2 ⟨rfl, rfl⟩)
              | (go_at_call 100; refine Calls.mono (KAn _ _ (cellAt (by simp))).out ?_; rintro e w2 ⟨rfl, rfl⟩)
              | (go_at_call 130; refine Calls.mono (KT _).out ?_; rintro e w4 ⟨v, rfl, hrow, hb4⟩; have B4 : Below w.heap.size w w4 := Bl.step (by repeat (first | assumption | exact Below.refl _ _ | refine Bl.alloc ?_ _ | refine Bl.drew ?_)) hb4; obtain ⟨g, cap, rfl, hcap, hgl, hcells⟩ := str_row hrow (by omega); have HCE := Lib.hid hcells; have HGL := Lib.hid hgl; have KJ0 := Lib.hid (join_any s ⟨#[]⟩ (spans (bts s)) g cap w4 hcells hgl hcap (by omega) (by rw [HJ0.out]; omega)); have c0 := hcells 0 (s.extract p0.1 p0.2) (by rw [List.getElem?_map, HP0.out]; rfl); rw [hk] at KJ0 ⊢; clear hcells hgl; clear hrow hb4)
              | (go_at_call 137; (with_reducible refine Calls.mono KJ0.out ?_); clear KJ0; rintro e w5 ⟨j0, rfl, hj0, hb5⟩; have HB5 := Lib.hid hb5; have B5 : Below w.heap.size w w5 := B4.trans (hb5.mono B4.size); have c5 := (hb5.cell (p := ⟨g, 0, none⟩) HGL.out).trans c0; have c6 := fun (o : Obj) => cellUp (o := o) c5 (Nat.lt_of_lt_of_le HGL.out hb5.size); have hj0s : j0.size = S := (by rw [size_of_bts hj0.out, HJ0.out]); have hj0i : (j0.size : Int) = (S : Int) := (by rw [hj0s]); clear hb5 hj0s)
              | (go_at_call 102; refine Calls.mono (KTI _).out ?_; rintro e w6 ⟨rfl, rfl⟩)
              | (go_at_call 101; refine Calls.mono (KL _ _ (At.new2 _ _ _ _)).out ?_; rintro e w7 ⟨rfl, rfl⟩))
            go_ret2
            exact givesS HR.out rfl (by repeat (first | assumption | exact Below.refl _ _ | refine Bl.alloc ?_ _ | refine Bl.drew ?_))
          · rw [decide_eq_false hl] at KL
            by_cases hkz : k = 0
            · have HR := Lib.hid (show spaceR (bts s) n x = (wordL (bts s) p0, 0) by
                rw [HR0.out, if_neg hl]
                have : wordsL (bts s) = [wordL (bts s) p0] := by
                  unfold wordsL
                  match hs : spans (bts s), hk, hp0 with
                  | [q], _, hp0 => simp at hp0; subst hp0; rfl
                  | [], hk, _ => simp at hk
                  | _ :: _ :: _, hk, _ => simp at hk; omega
                rw [this, Lib.join_one])
              have HX := Lib.hid (show bts (s.extract p0.1 p0.2) = wordL (bts s) p0 by rw [bts_extract]; unfold wordL; rw [List.drop_take])
              subst hkz
              have KTI2 := fun W => Lib.hid (show Calls Tryd.prog 102 #[.int .i64 n, .int .i64 0] W fun e w' => e = .returned (.int .i64 z) ∧ W = w' from (KTI W).out)
              have HK := Lib.hid (show (spans (bts s)).length = 1 from hk)
              clear hv0 hv1 hv2 hn2 htp hti hz hl hp0 hS hk0 hw1 hw2 hw3 KTI hk
              go_enter Tryd.func68, Tryd.ntmps68
              go_wp2_with (first
                | (go_at_call 99; refine Calls.mono (KVs _ _ (by simp) (At.new1 _ _ _)).out ?_; rintro e w1 ⟨rfl, hb1⟩; have B1 : Below w.heap.size w w1 := Bl.step (by repeat (first | assumption | exact Below.refl _ _ | refine Bl.alloc ?_ _ | refine Bl.drew ?_)) hb1)
                | (go_at_call 105; refine Calls.mono (KPx _ _ (cellAt (by simp))).out ?_; rintro e w2 ⟨rfl, rfl⟩)
                | (go_at_call 100; refine Calls.mono (KAn _ _ (cellAt (by simp))).out ?_; rintro e w2 ⟨rfl, rfl⟩)
                | (go_at_call 130; refine Calls.mono (KT _).out ?_; rintro e w4 ⟨v, rfl, hrow, hb4⟩; have B4 : Below w.heap.size w w4 := Bl.step (by repeat (first | assumption | exact Below.refl _ _ | refine Bl.alloc ?_ _ | refine Bl.drew ?_)) hb4; obtain ⟨g, cap, rfl, hcap, hgl, hcells⟩ := str_row hrow (by rw [HK.out]; omega); have HCE := Lib.hid hcells; have HGL := Lib.hid hgl; have KJ0 := Lib.hid (join_any s ⟨#[]⟩ (spans (bts s)) g cap w4 hcells hgl hcap (by rw [HK.out]; omega) (by rw [HJ0.out]; omega)); have c0 := hcells 0 (s.extract p0.1 p0.2) (by rw [List.getElem?_map, HP0.out]; rfl); rw [HK.out] at KJ0 ⊢; clear hcells hgl; clear hrow hb4)
                | (go_at_call 137; refine Calls.mono KJ0.out ?_; clear KJ0; rintro e w5 ⟨j0, rfl, hj0, hb5⟩; have HB5 := Lib.hid hb5; have B5 : Below w.heap.size w w5 := B4.trans (hb5.mono B4.size); have c5 := (hb5.cell (p := ⟨g, 0, none⟩) HGL.out).trans c0; have c6 := fun (o : Obj) => cellUp (o := o) c5 (Nat.lt_of_lt_of_le HGL.out hb5.size); have hj0s : j0.size = S := (by rw [size_of_bts hj0.out, HJ0.out]); have hj0i : (j0.size : Int) = (S : Int) := (by rw [hj0s]); clear hb5 hj0s)
                | (go_at_call 102; refine Calls.mono (KTI2 _).out ?_; rintro e w6 ⟨rfl, rfl⟩)
                | (go_at_call 101; refine Calls.mono (KL _ _ (At.new2 _ _ _ _)).out ?_; rintro e w7 ⟨rfl, rfl⟩))
              go_ret2
              exact givesS HR.out HX.out (by repeat (first | assumption | exact Below.refl _ _ | refine Bl.alloc ?_ _ | refine Bl.drew ?_))
            · have hkzi : ¬ (k : Int) = 0 := by omega
              have hn1 : n ≤ 1000 := by
                have h3 : ¬ 1000 < n * (k : Int) := fun h => by have := hti.2 h; omega
                have h4 : n * 1 ≤ n * (k : Int) := Int.mul_le_mul_of_nonneg_left (by omega) hn0
                omega
              obtain ⟨N, rfl⟩ : ∃ N : Nat, n = (N : Int) := ⟨n.toNat, by omega⟩
              have hN1 : N ≤ 1000 := by omega
              have KP := fun W => Lib.hid (pads_any N x W (by omega) hx01.1 hx01.2)
              have HR := Lib.hid (show spaceR (bts s) (N : Int) x = (Lib.join ((spans (bts s)).map (wordL (bts s))) (List.replicate N (pb x)), 0) by rw [HR0.out, if_neg hl]; rfl)
              have HJ1 := Lib.hid (show (Lib.join ((spans (bts s)).map (wordL (bts s))) (List.replicate N (pb x))).length ≤ 1000000 by
                have := join_len (xs := wordsL (bts s)) (List.replicate N (pb x)) (by rw [wordsL_length]; omega)
                rw [wordsL_length, hk, List.length_replicate, Nat.add_sub_cancel, ← hS] at this
                unfold wordsL at this
                rw [this]
                have h5 : N * k ≤ 1000 * k := Nat.mul_le_mul_right k hN1
                omega)
              clear hv0 hv1 hv2 hn2 htp hti hz hl hp0 hS hk0 hkz hn1
              go_enter Tryd.func68, Tryd.ntmps68
              go_wp2_with (first
                | (go_at_call 99; refine Calls.mono (KVs _ _ (by simp) (At.new1 _ _ _)).out ?_; rintro e w1 ⟨rfl, hb1⟩; have B1 : Below w.heap.size w w1 := Bl.step (by repeat (first | assumption | exact Below.refl _ _ | refine Bl.alloc ?_ _ | refine Bl.drew ?_)) hb1)
                | (go_at_call 105; refine Calls.mono (KPx _ _ (cellAt (by simp))).out ?_; rintro e w2 ⟨rfl, rfl⟩)
                | (go_at_call 100; refine Calls.mono (KAn _ _ (cellAt (by simp))).out ?_; rintro e w2 ⟨rfl, rfl⟩)
                | (go_at_call 130; refine Calls.mono (KT _).out ?_; rintro e w4 ⟨v, rfl, hrow, hb4⟩; have B4 : Below w.heap.size w w4 := Bl.step (by repeat (first | assumption | exact Below.refl _ _ | refine Bl.alloc ?_ _ | refine Bl.drew ?_)) hb4; obtain ⟨g, cap, rfl, hcap, hgl, hcells⟩ := str_row hrow (by omega); have HCE := Lib.hid hcells; have HGL := Lib.hid hgl; have KJ0 := Lib.hid (join_any s ⟨#[]⟩ (spans (bts s)) g cap w4 hcells hgl hcap (by omega) (by rw [HJ0.out]; omega)); have c0 := hcells 0 (s.extract p0.1 p0.2) (by rw [List.getElem?_map, HP0.out]; rfl); rw [hk] at KJ0 ⊢; clear hcells hgl; clear hrow hb4)
                | (go_at_call 137; (with_reducible refine Calls.mono KJ0.out ?_); clear KJ0; rintro e w5 ⟨j0, rfl, hj0, hb5⟩; have HB5 := Lib.hid hb5; have B5 : Below w.heap.size w w5 := B4.trans (hb5.mono B4.size); have c5 := (hb5.cell (p := ⟨g, 0, none⟩) HGL.out).trans c0; have c6 := fun (o : Obj) => cellUp (o := o) c5 (Nat.lt_of_lt_of_le HGL.out hb5.size); have hj0s : j0.size = S := (by rw [size_of_bts hj0.out, HJ0.out]); have hj0i : (j0.size : Int) = (S : Int) := (by rw [hj0s]); clear hb5 hj0s)
                | (go_at_call 102; refine Calls.mono (KTI _).out ?_; rintro e w6 ⟨rfl, rfl⟩)
                | (go_at_call 101; refine Calls.mono (KL _ _ (At.new2 _ _ _ _)).out ?_; rintro e w7 ⟨rfl, rfl⟩)
                | (go_at_call 138; refine Calls.mono (KP _).out ?_; rintro e w8 ⟨t8, rfl, ht8, hb8⟩; have B8 : Below w.heap.size w w8 := Bl.step (by repeat (first | assumption | exact Below.refl _ _ | refine Bl.alloc ?_ _ | refine Bl.drew ?_)) hb8; have hb9 : Below w4.heap.size w4 w8 := Bl.step (Bl.alloc HB5.out _) hb8; have KJ1 := Lib.hid (join_any s t8 (spans (bts s)) g cap w8 (fun j x hx => (hb9.cell (p := ⟨g, j, none⟩) HGL.out).trans (HCE.out j x hx)) (Nat.lt_of_lt_of_le HGL.out hb9.size) hcap (by omega) (by rw [ht8.out]; exact HJ1.out)); rw [hk, ht8.out] at KJ1; clear hb8 hb9)
                | (go_at_call 137; refine Calls.mono KJ1.out ?_; rintro e w9 ⟨t, rfl, ht, hb10⟩; have B10 : Below w.heap.size w w9 := B8.trans (hb10.mono B8.size)))
              go_ret2
              exact givesS HR.out ht.out (by repeat (first | assumption | exact Below.refl _ _ | refine Bl.alloc ?_ _ | refine Bl.drew ?_))
end Go.Proofs.YtoilgjlbpimcpaaDoor
