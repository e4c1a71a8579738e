/- TextConverts: where all is short enough. -/
import Derived.Test.YtoilgjlbpimcpaaDoorYf
namespace Go.Proofs.YtoilgjlbpimcpaaDoor
open Go.RowKit Go.Shelf Tx
set_option linter.unusedVariables false
set_option maxRecDepth 100000

set_option maxHeartbeats 8000000 in
theorem conv_short (s t i o : ByteArray) (w : World) (hss : s.size ≤ maxLen) (hst : t.size ≤ maxLen) (hsi : i.size ≤ maxLen) (hso : o.size ≤ maxLen) (hvs : validL (bts s) = true) (hvt : validL (bts t) = true) (hvi : validL (bts i) = true) (hvo : validL (bts o) = true) (hl : 2 * s.size ≤ 1000) (hl4 : 8 * s.size ≤ 1000) :
    Calls Tryd.prog 15 #[.string s, .string t, .string i, .string o] w fun e w' => e = .returned (.bool true) ∧ Below w.heap.size w w' := by
  have KH := fun W => Lib.hid (head_any W)
  have KVs := fun W => Lib.hid (Valid_any s W hss)
  rw [hvs] at KVs
  have KVt := fun W => Lib.hid (Valid_any t W hst)
  rw [hvt] at KVt
  have KVi := fun W => Lib.hid (Valid_any i W hsi)
  rw [hvi] at KVi
  have KVo := fun W => Lib.hid (Valid_any o W hso)
  rw [hvo] at KVo
  have hlen := valid_le hvs
  have KS := fun W => Lib.hid (shuffled_any i o W (by have := valid_le hvi; omega) (by have := valid_le hvo; omega))
  obtain ⟨sA, hA⟩ := str_ex ((splitL (bts s) 2 16).map hexB)
  have zA : sA.size = 2 * s.size := by have := size_of_bts hA; rw [List.length_map, splitL_length, bts_length] at this; omega
  have zAi : (sA.size : Int) = 2 * (s.size : Int) := by omega
  have zAm : sA.size ≤ maxLen := by unfold maxLen; omega
  have hl2 : (2 : Int) * (s.size : Int) ≤ 1000 := by omega
  have K1 := fun W => Lib.hid ((C2X_any s W hss).mono (fun e w' h => givesS_at (show c2xR (bts s) = ((splitL (bts s) 2 16).map hexB, 0) by unfold c2xR; rw [hvs, bts_length, if_pos rfl, if_neg (by omega)]) hA h))
  have K2 := fun W => Lib.hid ((X2C_any sA W zAm).mono (fun e w' h => givesS_at (by rw [hA]; exact conv_x2c hvs (by rw [bts_length]; exact hl)) (show bts s = bts s from rfl) h))
  have hsl : (splitL (bts s) 2 16).length = s.size * 2 := by rw [splitL_length, bts_length]
  obtain ⟨sC, hC⟩ := str_ex ((splitL (splitL (bts s) 2 16) 4 2).map hexB)
  have zC : sC.size ≤ maxLen := by have := size_of_bts hC; rw [List.length_map, splitL_length, hsl] at this; unfold maxLen; omega
  have K3 := fun W => Lib.hid ((X2B_any sA W zAm).mono (fun e w' h => givesS_at (show x2bR (bts sA) = ((splitL (splitL (bts s) 2 16) 4 2).map hexB, 0) by rw [hA, conv_x2b (by rw [bts_length]; exact hl), if_neg (by omega)]) hC h))
  have K4 := fun W => Lib.hid ((B2X_any sC W zC).mono (fun e w' h => givesS_at (show b2xR (bts sC) = ((splitL (bts s) 2 16).map hexB, 0) by rw [hC]; exact conv_b2x (by omega)) hA h))
  clear hA hC zA zAm zC hl hl4 hsl
  obtain ⟨x, k, hx⟩ := res_ex (bitsR opXor (bts s) (bts t) (-1))
  have K5 := fun W => Lib.hid ((BitXor_any s t (-1) W hss hst (by omega)).mono (fun e w' h => givesS_at hx rfl h))
  by_cases hk : k = 0
  · subst hk
    by_cases hts : t.size ≤ s.size
    · have hxs : x.size ≤ maxLen := xor_len hvs hvt (by rw [bts_length, bts_length]; exact hts) hx hss
      have K6 := fun W => Lib.hid ((BitXor_any x t (-1) W hxs hst (by omega)).mono (fun e w' h => givesS_at (xor_twice hvs hvt (by rw [bts_length, bts_length]; exact hts) hx) (show bts s = bts s from rfl) h))
      clear hx hxs
      cases hsh : shufL (bts i) (bts o) with
      | false =>
        rw [hsh] at KS
        clear hsh hvs hvt hvi hvo hss hst hsi hso
        go_enter Tryd.func15, Tryd.ntmps15
        go_wp2_with (first
          | (go_at_call 16; (with_reducible refine Calls.mono (KH _).out ?_); rintro e w1 ⟨rfl, hb0⟩)
          | (go_at_call 31; (with_reducible refine Calls.mono (KVs _).out ?_); rintro e w1 ⟨rfl, hvsb⟩)
          | (go_at_call 31; (with_reducible refine Calls.mono (KVt _).out ?_); rintro e w1 ⟨rfl, hvtb⟩)
          | (go_at_call 31; (with_reducible refine Calls.mono (KVi _).out ?_); rintro e w1 ⟨rfl, hvib⟩)
          | (go_at_call 31; (with_reducible refine Calls.mono (KVo _).out ?_); rintro e w1 ⟨rfl, hvob⟩)
          | (go_at_call 84; (with_reducible refine Calls.mono (K1 _).out ?_); rintro e w1 ⟨rfl, hb1⟩)
          | (go_at_call 85; (with_reducible refine Calls.mono (K2 _).out ?_); rintro e w1 ⟨rfl, hb2⟩)
          | (go_at_call 86; (with_reducible refine Calls.mono (K3 _).out ?_); rintro e w1 ⟨rfl, hb3⟩)
          | (go_at_call 87; (with_reducible refine Calls.mono (K4 _).out ?_); rintro e w1 ⟨rfl, hb4⟩)
          | (go_at_call 82; (with_reducible refine Calls.mono (K5 _).out ?_); rintro e w1 ⟨rfl, hb5⟩)
          | (go_at_call 82; (with_reducible refine Calls.mono (K6 _).out ?_); rintro e w1 ⟨rfl, hb6⟩)
          | (go_at_call 94; (with_reducible refine Calls.mono (KS _).out ?_); rintro e w1 ⟨rfl, hb7⟩))
        go_ret
        exact ⟨rfl, (by repeat (first | assumption | refine Bl.step ?_ (by assumption)))⟩
      | true =>
        rw [hsh] at KS
        obtain ⟨sU, hU⟩ := str_ex ((bts s).map (trT (bts i) (bts o)))
        have zU : sU.size ≤ maxLen := by have := size_of_bts hU; rw [List.length_map, bts_length] at this; rw [this]; exact hss
        have K8 := fun W => Lib.hid ((Translate_any s o i 42 W hss hso hsi (by omega) (by omega)).mono (fun e w' h => givesS_at (tr_once hvs hvo hvi hsh) hU h))
        have K9 := fun W => Lib.hid ((Translate_any sU i o 42 W zU hsi hso (by omega) (by omega)).mono (fun e w' h => givesS_at (by rw [hU]; exact tr_twice hvs hvo hvi hsh) (show bts s = bts s from rfl) h))
        clear hsh hU zU hvs hvt hvi hvo hss hst hsi hso
        go_enter Tryd.func15, Tryd.ntmps15
        go_wp2_with (first
          | (go_at_call 16; (with_reducible refine Calls.mono (KH _).out ?_); rintro e w1 ⟨rfl, hb0⟩)
          | (go_at_call 31; (with_reducible refine Calls.mono (KVs _).out ?_); rintro e w1 ⟨rfl, hvsb⟩)
          | (go_at_call 31; (with_reducible refine Calls.mono (KVt _).out ?_); rintro e w1 ⟨rfl, hvtb⟩)
          | (go_at_call 31; (with_reducible refine Calls.mono (KVi _).out ?_); rintro e w1 ⟨rfl, hvib⟩)
          | (go_at_call 31; (with_reducible refine Calls.mono (KVo _).out ?_); rintro e w1 ⟨rfl, hvob⟩)
          | (go_at_call 84; (with_reducible refine Calls.mono (K1 _).out ?_); rintro e w1 ⟨rfl, hb1⟩)
          | (go_at_call 85; (with_reducible refine Calls.mono (K2 _).out ?_); rintro e w1 ⟨rfl, hb2⟩)
          | (go_at_call 86; (with_reducible refine Calls.mono (K3 _).out ?_); rintro e w1 ⟨rfl, hb3⟩)
          | (go_at_call 87; (with_reducible refine Calls.mono (K4 _).out ?_); rintro e w1 ⟨rfl, hb4⟩)
          | (go_at_call 82; (with_reducible refine Calls.mono (K5 _).out ?_); rintro e w1 ⟨rfl, hb5⟩)
          | (go_at_call 82; (with_reducible refine Calls.mono (K6 _).out ?_); rintro e w1 ⟨rfl, hb6⟩)
          | (go_at_call 94; (with_reducible refine Calls.mono (KS _).out ?_); rintro e w1 ⟨rfl, hb7⟩)
          | (go_at_call 74; (with_reducible refine Calls.mono (K8 _).out ?_); rintro e w1 ⟨rfl, hb8⟩)
          | (go_at_call 74; (with_reducible refine Calls.mono (K9 _).out ?_); rintro e w1 ⟨rfl, hb9⟩))
        go_ret
        exact ⟨rfl, (by repeat (first | assumption | refine Bl.step ?_ (by assumption)))⟩
    · have hts2 : ¬ (t.size : Int) ≤ (s.size : Int) := by omega
      clear hx
      cases hsh : shufL (bts i) (bts o) with
      | false =>
        rw [hsh] at KS
        clear hsh hvs hvt hvi hvo hss hst hsi hso
        go_enter Tryd.func15, Tryd.ntmps15
        go_wp2_with (first
          | (go_at_call 16; (with_reducible refine Calls.mono (KH _).out ?_); rintro e w1 ⟨rfl, hb0⟩)
          | (go_at_call 31; (with_reducible refine Calls.mono (KVs _).out ?_); rintro e w1 ⟨rfl, hvsb⟩)
          | (go_at_call 31; (with_reducible refine Calls.mono (KVt _).out ?_); rintro e w1 ⟨rfl, hvtb⟩)
          | (go_at_call 31; (with_reducible refine Calls.mono (KVi _).out ?_); rintro e w1 ⟨rfl, hvib⟩)
          | (go_at_call 31; (with_reducible refine Calls.mono (KVo _).out ?_); rintro e w1 ⟨rfl, hvob⟩)
          | (go_at_call 84; (with_reducible refine Calls.mono (K1 _).out ?_); rintro e w1 ⟨rfl, hb1⟩)
          | (go_at_call 85; (with_reducible refine Calls.mono (K2 _).out ?_); rintro e w1 ⟨rfl, hb2⟩)
          | (go_at_call 86; (with_reducible refine Calls.mono (K3 _).out ?_); rintro e w1 ⟨rfl, hb3⟩)
          | (go_at_call 87; (with_reducible refine Calls.mono (K4 _).out ?_); rintro e w1 ⟨rfl, hb4⟩)
          | (go_at_call 82; (with_reducible refine Calls.mono (K5 _).out ?_); rintro e w1 ⟨rfl, hb5⟩)
          | (go_at_call 94; (with_reducible refine Calls.mono (KS _).out ?_); rintro e w1 ⟨rfl, hb7⟩))
        go_ret
        exact ⟨rfl, (by repeat (first | assumption | refine Bl.step ?_ (by assumption)))⟩
      | true =>
        rw [hsh] at KS
        obtain ⟨sU, hU⟩ := str_ex ((bts s).map (trT (bts i) (bts o)))
        have zU : sU.size ≤ maxLen := by have := size_of_bts hU; rw [List.length_map, bts_length] at this; rw [this]; exact hss
        have K8 := fun W => Lib.hid ((Translate_any s o i 42 W hss hso hsi (by omega) (by omega)).mono (fun e w' h => givesS_at (tr_once hvs hvo hvi hsh) hU h))
        have K9 := fun W => Lib.hid ((Translate_any sU i o 42 W zU hsi hso (by omega) (by omega)).mono (fun e w' h => givesS_at (by rw [hU]; exact tr_twice hvs hvo hvi hsh) (show bts s = bts s from rfl) h))
        clear hsh hU zU hvs hvt hvi hvo hss hst hsi hso
        go_enter Tryd.func15, Tryd.ntmps15
        go_wp2_with (first
          | (go_at_call 16; (with_reducible refine Calls.mono (KH _).out ?_); rintro e w1 ⟨rfl, hb0⟩)
          | (go_at_call 31; (with_reducible refine Calls.mono (KVs _).out ?_); rintro e w1 ⟨rfl, hvsb⟩)
          | (go_at_call 31; (with_reducible refine Calls.mono (KVt _).out ?_); rintro e w1 ⟨rfl, hvtb⟩)
          | (go_at_call 31; (with_reducible refine Calls.mono (KVi _).out ?_); rintro e w1 ⟨rfl, hvib⟩)
          | (go_at_call 31; (with_reducible refine Calls.mono (KVo _).out ?_); rintro e w1 ⟨rfl, hvob⟩)
          | (go_at_call 84; (with_reducible refine Calls.mono (K1 _).out ?_); rintro e w1 ⟨rfl, hb1⟩)
          | (go_at_call 85; (with_reducible refine Calls.mono (K2 _).out ?_); rintro e w1 ⟨rfl, hb2⟩)
          | (go_at_call 86; (with_reducible refine Calls.mono (K3 _).out ?_); rintro e w1 ⟨rfl, hb3⟩)
          | (go_at_call 87; (with_reducible refine Calls.mono (K4 _).out ?_); rintro e w1 ⟨rfl, hb4⟩)
          | (go_at_call 82; (with_reducible refine Calls.mono (K5 _).out ?_); rintro e w1 ⟨rfl, hb5⟩)
          | (go_at_call 94; (with_reducible refine Calls.mono (KS _).out ?_); rintro e w1 ⟨rfl, hb7⟩)
          | (go_at_call 74; (with_reducible refine Calls.mono (K8 _).out ?_); rintro e w1 ⟨rfl, hb8⟩)
          | (go_at_call 74; (with_reducible refine Calls.mono (K9 _).out ?_); rintro e w1 ⟨rfl, hb9⟩))
        go_ret
        exact ⟨rfl, (by repeat (first | assumption | refine Bl.step ?_ (by assumption)))⟩
  · have hkb : (k == 0) = false := by simpa using hk
    clear hx
    cases hsh : shufL (bts i) (bts o) with
    | false =>
      rw [hsh] at KS
      clear hsh hvs hvt hvi hvo hss hst hsi hso
      go_enter Tryd.func15, Tryd.ntmps15
      go_wp2_with (first
        | (go_at_call 16; (with_reducible refine Calls.mono (KH _).out ?_); rintro e w1 ⟨rfl, hb0⟩)
        | (go_at_call 31; (with_reducible refine Calls.mono (KVs _).out ?_); rintro e w1 ⟨rfl, hvsb⟩)
        | (go_at_call 31; (with_reducible refine Calls.mono (KVt _).out ?_); rintro e w1 ⟨rfl, hvtb⟩)
        | (go_at_call 31; (with_reducible refine Calls.mono (KVi _).out ?_); rintro e w1 ⟨rfl, hvib⟩)
        | (go_at_call 31; (with_reducible refine Calls.mono (KVo _).out ?_); rintro e w1 ⟨rfl, hvob⟩)
        | (go_at_call 84; (with_reducible refine Calls.mono (K1 _).out ?_); rintro e w1 ⟨rfl, hb1⟩)
        | (go_at_call 85; (with_reducible refine Calls.mono (K2 _).out ?_); rintro e w1 ⟨rfl, hb2⟩)
        | (go_at_call 86; (with_reducible refine Calls.mono (K3 _).out ?_); rintro e w1 ⟨rfl, hb3⟩)
        | (go_at_call 87; (with_reducible refine Calls.mono (K4 _).out ?_); rintro e w1 ⟨rfl, hb4⟩)
        | (go_at_call 82; (with_reducible refine Calls.mono (K5 _).out ?_); rintro e w1 ⟨rfl, hb5⟩)
        | (go_at_call 94; (with_reducible refine Calls.mono (KS _).out ?_); rintro e w1 ⟨rfl, hb7⟩))
      go_ret
      exact ⟨rfl, (by repeat (first | assumption | refine Bl.step ?_ (by assumption)))⟩
    | true =>
      rw [hsh] at KS
      obtain ⟨sU, hU⟩ := str_ex ((bts s).map (trT (bts i) (bts o)))
      have zU : sU.size ≤ maxLen := by have := size_of_bts hU; rw [List.length_map, bts_length] at this; rw [this]; exact hss
      have K8 := fun W => Lib.hid ((Translate_any s o i 42 W hss hso hsi (by omega) (by omega)).mono (fun e w' h => givesS_at (tr_once hvs hvo hvi hsh) hU h))
      have K9 := fun W => Lib.hid ((Translate_any sU i o 42 W zU hsi hso (by omega) (by omega)).mono (fun e w' h => givesS_at (by rw [hU]; exact tr_twice hvs hvo hvi hsh) (show bts s = bts s from rfl) h))
      clear hsh hU zU hvs hvt hvi hvo hss hst hsi hso
      go_enter Tryd.func15, Tryd.ntmps15
      go_wp2_with (first
        | (go_at_call 16; (with_reducible refine Calls.mono (KH _).out ?_); rintro e w1 ⟨rfl, hb0⟩)
        | (go_at_call 31; (with_reducible refine Calls.mono (KVs _).out ?_); rintro e w1 ⟨rfl, hvsb⟩)
        | (go_at_call 31; (with_reducible refine Calls.mono (KVt _).out ?_); rintro e w1 ⟨rfl, hvtb⟩)
        | (go_at_call 31; (with_reducible refine Calls.mono (KVi _).out ?_); rintro e w1 ⟨rfl, hvib⟩)
        | (go_at_call 31; (with_reducible refine Calls.mono (KVo _).out ?_); rintro e w1 ⟨rfl, hvob⟩)
        | (go_at_call 84; (with_reducible refine Calls.mono (K1 _).out ?_); rintro e w1 ⟨rfl, hb1⟩)
        | (go_at_call 85; (with_reducible refine Calls.mono (K2 _).out ?_); rintro e w1 ⟨rfl, hb2⟩)
        | (go_at_call 86; (with_reducible refine Calls.mono (K3 _).out ?_); rintro e w1 ⟨rfl, hb3⟩)
        | (go_at_call 87; (with_reducible refine Calls.mono (K4 _).out ?_); rintro e w1 ⟨rfl, hb4⟩)
        | (go_at_call 82; (with_reducible refine Calls.mono (K5 _).out ?_); rintro e w1 ⟨rfl, hb5⟩)
        | (go_at_call 94; (with_reducible refine Calls.mono (KS _).out ?_); rintro e w1 ⟨rfl, hb7⟩)
        | (go_at_call 74; (with_reducible refine Calls.mono (K8 _).out ?_); rintro e w1 ⟨rfl, hb8⟩)
        | (go_at_call 74; (with_reducible refine Calls.mono (K9 _).out ?_); rintro e w1 ⟨rfl, hb9⟩))
      go_ret
      exact ⟨rfl, (by repeat (first | assumption | refine Bl.step ?_ (by assumption)))⟩
end Go.Proofs.YtoilgjlbpimcpaaDoor
