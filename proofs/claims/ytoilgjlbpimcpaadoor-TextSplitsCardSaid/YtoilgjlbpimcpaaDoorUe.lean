/- TextSplits. -/
import Derived.Test.YtoilgjlbpimcpaaDoorUd
namespace Go.Proofs.YtoilgjlbpimcpaaDoor
open Go.RowKit Go.Shelf Tx
set_option linter.unusedVariables false
set_option maxRecDepth 100000

theorem givesS_at {w : World} {l : List UInt8} {k : Int} {r : Res} {t0 : ByteArray} (hr : r = (l, k)) (ht0 : bts t0 = l) {e : Ending} {w' : World} (h : GivesS w r e w') : e = .returned (.tuple #[.string t0, .int .i64 k]) ∧ Below w.heap.size w w' := by
  subst hr
  obtain ⟨t, rfl, ht, hb⟩ := h
  rw [show t = t0 by rw [bts_eq ht.out, bts_eq ht0]]
  exact ⟨rfl, hb⟩
theorem str_ex (l : List UInt8) : ∃ t : ByteArray, bts t = l := ⟨⟨l.toArray⟩, bts_mk l⟩
theorem bts_inj {s t : ByteArray} (h : bts s = bts t) : s = t := by rw [bts_eq (t := s) rfl, bts_eq (t := t) rfl, h]

set_option maxHeartbeats 4000000 in
theorem TextSplits_any (s : ByteArray) (n m : Nat) (w : World) (hss : s.size ≤ maxLen) (hn : n ≤ 255) (hm : m ≤ 255) :
    Calls Tryd.prog 12 #[.string s, .int .u8 (n : Int), .int .u8 (m : Int)] w fun e w' => e = .returned (.bool true) ∧ Below w.heap.size w w' := by
  have KH := fun W => Lib.hid (head_any W)
  have KV := fun W => Lib.hid (Valid_any s W hss)
  cases hv : validL (bts s) with
  | false =>
    rw [hv] at KV
    clear hv
    go_enter Tryd.func12, Tryd.ntmps12
    go_wp2_with (first
      | (go_at_call 16; refine Calls.mono (KH _).out ?_; rintro e w1 ⟨rfl, hb1⟩)
      | (go_at_call 31; refine Calls.mono (KV _).out ?_; rintro e w2 ⟨rfl, hb2⟩))
    go_ret
    exact ⟨rfl, Bl.step hb1 hb2⟩
  | true =>
    rw [hv] at KV
    have hlen := valid_le hv
    obtain ⟨k, hk⟩ : ∃ k, k = min n s.size := ⟨_, rfl⟩
    have hkl : k ≤ (bts s).length := by rw [bts_length]; omega
    obtain ⟨sA, hA⟩ := str_ex ((bts s).take k)
    obtain ⟨sB, hB⟩ := str_ex ((bts s).drop k)
    obtain ⟨sR, hR⟩ := str_ex (bts s).reverse
    obtain ⟨sX, hX⟩ := str_ex (splX (bts s) m)
    obtain ⟨sY, hY⟩ := str_ex (splY (bts s) m)
    have zR : sR.size ≤ maxLen := by have := size_of_bts hR; rw [List.length_reverse, bts_length] at this; rw [this]; exact hss
    have zY : sY.size ≤ maxLen := by have := size_of_bts hY; have h1 := (valid_iff.1 (valid_y hv hm)).1; unfold maxLen; omega
    have K1 := fun W => Lib.hid ((Left_any s k 42 W hss (by omega) (by omega)).mono (fun e w' h => givesS_at (left_take hv hkl) hA h))
    have K2 := fun W => Lib.hid ((Substr_any s ((k : Int) + 1) (-1) 42 W hss (by omega) (by omega) (by omega)).mono (fun e w' h => givesS_at (substr_drop hv) hB h))
    have K3 := fun W => Lib.hid ((Reverse_any s W hss).mono (fun e w' h => givesS_at (reverse_once hv) hR h))
    have K4 := fun W => Lib.hid ((Reverse_any sR W zR).mono (fun e w' h => givesS_at (by rw [hR]; exact reverse_twice hv) (show bts s = bts s from rfl) h))
    have K5 := fun W => Lib.hid ((Left_any sR m 42 W zR (by omega) (by omega)).mono (fun e w' h => givesS_at (by rw [hR]; exact left_x hv hm) hX h))
    have K6 := fun W => Lib.hid ((Right_any s m 42 W hss (by omega) (by omega)).mono (fun e w' h => givesS_at (right_y hv hm) hY h))
    have K7 := fun W => Lib.hid ((Reverse_any sY W zY).mono (fun e w' h => givesS_at (by rw [hY]; exact reverse_once (valid_y hv hm)) (show bts sX = (splY (bts s) m).reverse by rw [hX, spl_rev]) h))
    have hAB : sA ++ sB = s := bts_inj (by rw [bts_append, hA, hB, List.take_append_drop])
    have hAB2 : (sA ++ sB).toList = s.toList := by rw [hAB]
    have zA : sA.size ≤ 1000 := by have := size_of_bts hA; rw [List.length_take, bts_length] at this; omega
    have zB : sB.size ≤ 1000 := by have := size_of_bts hB; rw [List.length_drop, bts_length] at this; omega
    clear hA hB hR hX hY zR zY hkl
    by_cases hnm : n + m ≤ s.size
    · obtain ⟨sP, hP⟩ := str_ex (splP (bts s) n m)
      obtain ⟨sQ, hQ⟩ := str_ex (splQ (bts s) n m)
      have hll : n + m ≤ (bts s).length := by rw [bts_length]; exact hnm
      have zP : sP.size = s.size - m := by rw [size_of_bts hP, splP_length hll, bts_length]
      have zQ : sQ.size = m := by rw [size_of_bts hQ, splQ_length hll]
      have K8 := fun W => Lib.hid ((DelStr_any s ((n : Int) + 1) m W hss (by omega)).mono (fun e w' h => givesS_at (del_p hv) hP h))
      have K9 := fun W => Lib.hid ((Substr_any s ((n : Int) + 1) m 42 W hss (by omega) (by omega) (by omega)).mono (fun e w' h => givesS_at (sub_q hv hm hll) hQ h))
      have K10 := fun W => Lib.hid ((Insert_any sQ sP n (-1) 42 W (by rw [zQ]; unfold maxLen; omega) (by rw [zP]; unfold maxLen; omega) (by omega) (by omega) (by omega)).mono (fun e w' h => givesS_at (by rw [hQ, hP]; exact spl_ins hv hm hll) (show bts s = bts s from rfl) h))
      have zP2 : (sP.size : Int) = (s.size : Int) - (m : Int) := by omega
      have hkn : k = n := by omega
      subst hkn
      have g1 : decide ((s.size : Int) < (k : Int)) = false := decide_eq_false (by omega)
      have g2 : decide ((s.size : Int) < (k : Int) + (m : Int)) = false := decide_eq_false (by omega)
      have hw1 : IntKind.i64.wrap ((k : Int) + 1) = (k : Int) + 1 := IntWalk.i64_in _ (by omega)
      have hw2 : IntKind.i64.wrap ((k : Int) + (m : Int)) = (k : Int) + (m : Int) := IntWalk.i64_in _ (by omega)
      clear hv hP hQ zP hll hk hss
      go_enter Tryd.func12, Tryd.ntmps12
      go_wp2_with (first
        | (go_at_call 16; refine Calls.mono (KH _).out ?_; rintro e w1 ⟨rfl, hb1⟩)
        | (go_at_call 31; refine Calls.mono (KV _).out ?_; rintro e w2 ⟨rfl, hb2⟩)
        | (go_at_call 18; first | ((with_reducible refine Calls.mono (K1 _).out ?_); rintro e w3 ⟨rfl, hb3⟩) | ((with_reducible refine Calls.mono (K5 _).out ?_); rintro e w7 ⟨rfl, hb7⟩))
        | (go_at_call 33; first | ((with_reducible refine Calls.mono (K2 _).out ?_); rintro e w4 ⟨rfl, hb4⟩) | ((with_reducible refine Calls.mono (K9 _).out ?_); rintro e w11 ⟨rfl, hb11⟩))
        | (go_at_call 22; first | ((with_reducible refine Calls.mono (K3 _).out ?_); rintro e w5 ⟨rfl, hb5⟩) | ((with_reducible refine Calls.mono (K4 _).out ?_); rintro e w6 ⟨rfl, hb6⟩) | ((with_reducible refine Calls.mono (K7 _).out ?_); rintro e w9 ⟨rfl, hb9⟩))
        | (go_at_call 19; refine Calls.mono (K6 _).out ?_; rintro e w8 ⟨rfl, hb8⟩)
        | (go_at_call 34; refine Calls.mono (K8 _).out ?_; rintro e w10 ⟨rfl, hb10⟩)
        | (go_at_call 35; refine Calls.mono (K10 _).out ?_; rintro e w12 ⟨rfl, hb12⟩))
      go_ret
      exact ⟨by first | rfl | simp, Bl.step (Bl.step (Bl.step (Bl.step (Bl.step (Bl.step (Bl.step (Bl.step (Bl.step (Bl.step (Bl.step (hb1) hb2) hb3) hb4) hb5) hb6) hb7) hb8) hb9) hb10) hb11) hb12⟩
    · by_cases hns : n ≤ s.size
      · have hkn : k = n := by omega
        subst hkn
        have K9 := K2
        have g1 : decide ((s.size : Int) < (k : Int)) = false := decide_eq_false (by omega)
        have g2 : decide ((s.size : Int) < (k : Int) + (m : Int)) = true := decide_eq_true (by omega)
        have hw1 : IntKind.i64.wrap ((k : Int) + 1) = (k : Int) + 1 := IntWalk.i64_in _ (by omega)
        have hw2 : IntKind.i64.wrap ((k : Int) + (m : Int)) = (k : Int) + (m : Int) := IntWalk.i64_in _ (by omega)
        clear hv hk hss
        go_enter Tryd.func12, Tryd.ntmps12
        go_wp2_with (first
          | (go_at_call 16; refine Calls.mono (KH _).out ?_; rintro e w1 ⟨rfl, hb1⟩)
          | (go_at_call 31; refine Calls.mono (KV _).out ?_; rintro e w2 ⟨rfl, hb2⟩)
          | (go_at_call 18; first | ((with_reducible refine Calls.mono (K1 _).out ?_); rintro e w3 ⟨rfl, hb3⟩) | ((with_reducible refine Calls.mono (K5 _).out ?_); rintro e w7 ⟨rfl, hb7⟩))
          | (go_at_call 33; first | ((with_reducible refine Calls.mono (K2 _).out ?_); rintro e w4 ⟨rfl, hb4⟩) | ((with_reducible refine Calls.mono (K9 _).out ?_); rintro e w11 ⟨rfl, hb11⟩))
          | (go_at_call 22; first | ((with_reducible refine Calls.mono (K3 _).out ?_); rintro e w5 ⟨rfl, hb5⟩) | ((with_reducible refine Calls.mono (K4 _).out ?_); rintro e w6 ⟨rfl, hb6⟩) | ((with_reducible refine Calls.mono (K7 _).out ?_); rintro e w9 ⟨rfl, hb9⟩))
          | (go_at_call 19; refine Calls.mono (K6 _).out ?_; rintro e w8 ⟨rfl, hb8⟩))
        go_ret
        exact ⟨rfl, Bl.step (Bl.step (Bl.step (Bl.step (Bl.step (Bl.step (Bl.step (Bl.step (hb1) hb2) hb3) hb4) hb5) hb6) hb7) hb8) hb9⟩
      · have hkn : k = s.size := by omega
        subst hkn
        have K9 := K2
        have g1 : decide ((s.size : Int) < (n : Int)) = true := decide_eq_true (by omega)
        have g2 : decide ((s.size : Int) < (n : Int) + (m : Int)) = true := decide_eq_true (by omega)
        have hw1 : IntKind.i64.wrap ((s.size : Int) + 1) = (s.size : Int) + 1 := IntWalk.i64_in _ (by omega)
        have hw2 : IntKind.i64.wrap ((n : Int) + (m : Int)) = (n : Int) + (m : Int) := IntWalk.i64_in _ (by omega)
        have hw3 : IntKind.i64.wrap ((n : Int) + 1) = (n : Int) + 1 := IntWalk.i64_in _ (by omega)
        clear hv hk hss
        go_enter Tryd.func12, Tryd.ntmps12
        go_wp2_with (first
          | (go_at_call 16; refine Calls.mono (KH _).out ?_; rintro e w1 ⟨rfl, hb1⟩)
          | (go_at_call 31; refine Calls.mono (KV _).out ?_; rintro e w2 ⟨rfl, hb2⟩)
          | (go_at_call 18; first | ((with_reducible refine Calls.mono (K1 _).out ?_); rintro e w3 ⟨rfl, hb3⟩) | ((with_reducible refine Calls.mono (K5 _).out ?_); rintro e w7 ⟨rfl, hb7⟩))
          | (go_at_call 33; first | ((with_reducible refine Calls.mono (K2 _).out ?_); rintro e w4 ⟨rfl, hb4⟩) | ((with_reducible refine Calls.mono (K9 _).out ?_); rintro e w11 ⟨rfl, hb11⟩))
          | (go_at_call 22; first | ((with_reducible refine Calls.mono (K3 _).out ?_); rintro e w5 ⟨rfl, hb5⟩) | ((with_reducible refine Calls.mono (K4 _).out ?_); rintro e w6 ⟨rfl, hb6⟩) | ((with_reducible refine Calls.mono (K7 _).out ?_); rintro e w9 ⟨rfl, hb9⟩))
          | (go_at_call 19; refine Calls.mono (K6 _).out ?_; rintro e w8 ⟨rfl, hb8⟩))
        go_ret
        exact ⟨rfl, Bl.step (Bl.step (Bl.step (Bl.step (Bl.step (Bl.step (Bl.step (Bl.step (hb1) hb2) hb3) hb4) hb5) hb6) hb7) hb8) hb9⟩
end Go.Proofs.YtoilgjlbpimcpaaDoor
