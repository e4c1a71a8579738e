/- TextConverts: where the digits are too many. -/
import Derived.Test.YtoilgjlbpimcpaaDoorYd
namespace Go.Proofs.YtoilgjlbpimcpaaDoor
open Go.RowKit Go.Shelf Tx
set_option linter.unusedVariables false
set_option maxRecDepth 100000

theorem xor_len {s t x : ByteArray} (hvs : validL (bts s) = true) (hvt : validL (bts t) = true) (h : (bts t).length ≤ (bts s).length) (hx : bitsR opXor (bts s) (bts t) (-1) = (bts x, 0)) (hs : s.size ≤ maxLen) : x.size ≤ maxLen := by
  have hll : (bts s).length ≤ 1000 := by rw [bts_length]; exact valid_le hvs
  rw [bitsR_eq hvs hvt rfl (by omega) hll h] at hx
  have hlen := bitT_length (f := opXor) (p := -1) h
  unfold outR at hx
  rw [if_neg (by omega)] at hx
  unfold cleanR at hx
  split at hx
  · have hxe : bitT opXor (bts s) (bts t) (-1) = bts x := by injection hx
    have := size_of_bts hxe.symm
    unfold maxLen
    omega
  · injection hx with h1 h2
    omega
set_option maxHeartbeats 8000000 in
theorem conv_long (s t i o : ByteArray) (w : World) (hss : s.size ≤ maxLen) (hst : t.size ≤ maxLen) (hsi : i.size ≤ maxLen) (hso : o.size ≤ maxLen) (hvs : validL (bts s) = true) (hvt : validL (bts t) = true) (hvi : validL (bts i) = true) (hvo : validL (bts o) = true) (hl : ¬ 2 * s.size ≤ 1000) :
    Calls Tryd.prog 15 #[.string s, .string t, .string i, .string o] w fun e w' => e = .returned (.bool true) ∧ Below w.heap.size w w' := by
  have KH := fun W => Lib.hid (head_any W)
  have KVs := fun W => Lib.hid (Valid_any s W hss)
  rw [hvs] at KVs
  have KVt := fun W => Lib.hid (Valid_any t W hst)
  rw [hvt] at KVt
  have KVi := fun W => Lib.hid (Valid_any i W hsi)
  rw [hvi] at KVi
  have KVo := fun W => Lib.hid (Valid_any o W hso)
  rw [hvo] at KVo
  have hlen := valid_le hvs
  have KS := fun W => Lib.hid (shuffled_any i o W (by have := valid_le hvi; omega) (by have := valid_le hvo; omega))
  have hl2 : ¬ (2 : Int) * (s.size : Int) ≤ 1000 := by omega
  have K1 := fun W => Lib.hid ((C2X_any s W hss).mono (fun e w' h => givesS_at (show c2xR (bts s) = ([], 3) by unfold c2xR; rw [hvs, bts_length, if_pos rfl, if_pos (by omega)]) (show bts ⟨#[]⟩ = [] from rfl) h))
  clear hl
  obtain ⟨x, k, hx⟩ := res_ex (bitsR opXor (bts s) (bts t) (-1))
  have K5 := fun W => Lib.hid ((BitXor_any s t (-1) W hss hst (by omega)).mono (fun e w' h => givesS_at hx rfl h))
  by_cases hk : k = 0
  · subst hk
    by_cases hts : t.size ≤ s.size
    · have hxs : x.size ≤ maxLen := xor_len hvs hvt (by rw [bts_length, bts_length]; exact hts) hx hss
      have K6 := fun W => Lib.hid ((BitXor_any x t (-1) W hxs hst (by omega)).mono (fun e w' h => givesS_at (xor_twice hvs hvt (by rw [bts_length, bts_length]; exact hts) hx) (show bts s = bts s from rfl) h))
      clear hx hxs
      cases hsh : shufL (bts i) (bts o) with
      | false =>
        rw [hsh] at KS
        clear hsh hvs hvt hvi hvo hss hst hsi hso
        go_enter Tryd.func15, Tryd.ntmps15
        go_wp2_with (first
          | (go_at_call 16; (with_reducible refine Calls.mono (KH _).out ?_); rintro e w1 ⟨rfl, hb0⟩)
          | (go_at_call 31; (with_reducible refine Calls.mono (KVs _).out ?_); rintro e w1 ⟨rfl, hvsb⟩)
          | (go_at_call 31; (with_reducible refine Calls.mono (KVt _).out ?_); rintro e w1 ⟨rfl, hvtb⟩)
          | (go_at_call 31; (with_reducible refine Calls.mono (KVi _).out ?_); rintro e w1 ⟨rfl, hvib⟩)
          | (go_at_call 31; (with_reducible refine Calls.mono (KVo _).out ?_); rintro e w1 ⟨rfl, hvob⟩)
          | (go_at_call 84; (with_reducible refine Calls.mono (K1 _).out ?_); rintro e w1 ⟨rfl, hb1⟩)
          | (go_at_call 82; (with_reducible refine Calls.mono (K5 _).out ?_); rintro e w1 ⟨rfl, hb5⟩)
          | (go_at_call 82; (with_reducible refine Calls.mono (K6 _).out ?_); rintro e w1 ⟨rfl, hb6⟩)
          | (go_at_call 94; (with_reducible refine Calls.mono (KS _).out ?_); rintro e w1 ⟨rfl, hb7⟩))
        go_ret
        exact ⟨rfl, (by repeat (first | assumption | refine Bl.step ?_ (by assumption)))⟩
      | true =>
        rw [hsh] at KS
        obtain ⟨sU, hU⟩ := str_ex ((bts s).map (trT (bts i) (bts o)))
        have zU : sU.size ≤ maxLen := by have := size_of_bts hU; rw [List.length_map, bts_length] at this; rw [this]; exact hss
        have K8 := fun W => Lib.hid ((Translate_any s o i 42 W hss hso hsi (by omega) (by omega)).mono (fun e w' h => givesS_at (tr_once hvs hvo hvi hsh) hU h))
        have K9 := fun W => Lib.hid ((Translate_any sU i o 42 W zU hsi hso (by omega) (by omega)).mono (fun e w' h => givesS_at (by rw [hU]; exact tr_twice hvs hvo hvi hsh) (show bts s = bts s from rfl) h))
        clear hsh hU zU hvs hvt hvi hvo hss hst hsi hso
        go_enter Tryd.func15, Tryd.ntmps15
        go_wp2_with (first
          | (go_at_call 16; (with_reducible refine Calls.mono (KH _).out ?_); rintro e w1 ⟨rfl, hb0⟩)
          | (go_at_call 31; (with_reducible refine Calls.mono (KVs _).out ?_); rintro e w1 ⟨rfl, hvsb⟩)
          | (go_at_call 31; (with_reducible refine Calls.mono (KVt _).out ?_); rintro e w1 ⟨rfl, hvtb⟩)
          | (go_at_call 31; (with_reducible refine Calls.mono (KVi _).out ?_); rintro e w1 ⟨rfl, hvib⟩)
          | (go_at_call 31; (with_reducible refine Calls.mono (KVo _).out ?_); rintro e w1 ⟨rfl, hvob⟩)
          | (go_at_call 84; (with_reducible refine Calls.mono (K1 _).out ?_); rintro e w1 ⟨rfl, hb1⟩)
          | (go_at_call 82; (with_reducible refine Calls.mono (K5 _).out ?_); rintro e w1 ⟨rfl, hb5⟩)
          | (go_at_call 82; (with_reducible refine Calls.mono (K6 _).out ?_); rintro e w1 ⟨rfl, hb6⟩)
          | (go_at_call 94; (with_reducible refine Calls.mono (KS _).out ?_); rintro e w1 ⟨rfl, hb7⟩)
          | (go_at_call 74; (with_reducible refine Calls.mono (K8 _).out ?_); rintro e w1 ⟨rfl, hb8⟩)
          | (go_at_call 74; (with_reducible refine Calls.mono (K9 _).out ?_); rintro e w1 ⟨rfl, hb9⟩))
        go_ret
        exact ⟨rfl, (by repeat (first | assumption | refine Bl.step ?_ (by assumption)))⟩
    · have hts2 : ¬ (t.size : Int) ≤ (s.size : Int) := by omega
      clear hx
      cases hsh : shufL (bts i) (bts o) with
      | false =>
        rw [hsh] at KS
        clear hsh hvs hvt hvi hvo hss hst hsi hso
        go_enter Tryd.func15, Tryd.ntmps15
        go_wp2_with (first
          | (go_at_call 16; (with_reducible refine Calls.mono (KH _).out ?_); rintro e w1 ⟨rfl, hb0⟩)
          | (go_at_call 31; (with_reducible refine Calls.mono (KVs _).out ?_); rintro e w1 ⟨rfl, hvsb⟩)
          | (go_at_call 31; (with_reducible refine Calls.mono (KVt _).out ?_); rintro e w1 ⟨rfl, hvtb⟩)
          | (go_at_call 31; (with_reducible refine Calls.mono (KVi _).out ?_); rintro e w1 ⟨rfl, hvib⟩)
          | (go_at_call 31; (with_reducible refine Calls.mono (KVo _).out ?_); rintro e w1 ⟨rfl, hvob⟩)
          | (go_at_call 84; (with_reducible refine Calls.mono (K1 _).out ?_); rintro e w1 ⟨rfl, hb1⟩)
          | (go_at_call 82; (with_reducible refine Calls.mono (K5 _).out ?_); rintro e w1 ⟨rfl, hb5⟩)
          | (go_at_call 94; (with_reducible refine Calls.mono (KS _).out ?_); rintro e w1 ⟨rfl, hb7⟩))
        go_ret
        exact ⟨rfl, (by repeat (first | assumption | refine Bl.step ?_ (by assumption)))⟩
      | true =>
        rw [hsh] at KS
        obtain ⟨sU, hU⟩ := str_ex ((bts s).map (trT (bts i) (bts o)))
        have zU : sU.size ≤ maxLen := by have := size_of_bts hU; rw [List.length_map, bts_length] at this; rw [this]; exact hss
        have K8 := fun W => Lib.hid ((Translate_any s o i 42 W hss hso hsi (by omega) (by omega)).mono (fun e w' h => givesS_at (tr_once hvs hvo hvi hsh) hU h))
        have K9 := fun W => Lib.hid ((Translate_any sU i o 42 W zU hsi hso (by omega) (by omega)).mono (fun e w' h => givesS_at (by rw [hU]; exact tr_twice hvs hvo hvi hsh) (show bts s = bts s from rfl) h))
        clear hsh hU zU hvs hvt hvi hvo hss hst hsi hso
        go_enter Tryd.func15, Tryd.ntmps15
        go_wp2_with (first
          | (go_at_call 16; (with_reducible refine Calls.mono (KH _).out ?_); rintro e w1 ⟨rfl, hb0⟩)
          | (go_at_call 31; (with_reducible refine Calls.mono (KVs _).out ?_); rintro e w1 ⟨rfl, hvsb⟩)
          | (go_at_call 31; (with_reducible refine Calls.mono (KVt _).out ?_); rintro e w1 ⟨rfl, hvtb⟩)
          | (go_at_call 31; (with_reducible refine Calls.mono (KVi _).out ?_); rintro e w1 ⟨rfl, hvib⟩)
          | (go_at_call 31; (with_reducible refine Calls.mono (KVo _).out ?_); rintro e w1 ⟨rfl, hvob⟩)
          | (go_at_call 84; (with_reducible refine Calls.mono (K1 _).out ?_); rintro e w1 ⟨rfl, hb1⟩)
          | (go_at_call 82; (with_reducible refine Calls.mono (K5 _).out ?_); rintro e w1 ⟨rfl, hb5⟩)
          | (go_at_call 94; (with_reducible refine Calls.mono (KS _).out ?_); rintro e w1 ⟨rfl, hb7⟩)
          | (go_at_call 74; (with_reducible refine Calls.mono (K8 _).out ?_); rintro e w1 ⟨rfl, hb8⟩)
          | (go_at_call 74; (with_reducible refine Calls.mono (K9 _).out ?_); rintro e w1 ⟨rfl, hb9⟩))
        go_ret
        exact ⟨rfl, (by repeat (first | assumption | refine Bl.step ?_ (by assumption)))⟩
  · have hkb : (k == 0) = false := by simpa using hk
    clear hx
    cases hsh : shufL (bts i) (bts o) with
    | false =>
      rw [hsh] at KS
      clear hsh hvs hvt hvi hvo hss hst hsi hso
      go_enter Tryd.func15, Tryd.ntmps15
      go_wp2_with (first
        | (go_at_call 16; (with_reducible refine Calls.mono (KH _).out ?_); rintro e w1 ⟨rfl, hb0⟩)
        | (go_at_call 31; (with_reducible refine Calls.mono (KVs _).out ?_); rintro e w1 ⟨rfl, hvsb⟩)
        | (go_at_call 31; (with_reducible refine Calls.mono (KVt _).out ?_); rintro e w1 ⟨rfl, hvtb⟩)
        | (go_at_call 31; (with_reducible refine Calls.mono (KVi _).out ?_); rintro e w1 ⟨rfl, hvib⟩)
        | (go_at_call 31; (with_reducible refine Calls.mono (KVo _).out ?_); rintro e w1 ⟨rfl, hvob⟩)
        | (go_at_call 84; (with_reducible refine Calls.mono (K1 _).out ?_); rintro e w1 ⟨rfl, hb1⟩)
        | (go_at_call 82; (with_reducible refine Calls.mono (K5 _).out ?_); rintro e w1 ⟨rfl, hb5⟩)
        | (go_at_call 94; (with_reducible refine Calls.mono (KS _).out ?_); rintro e w1 ⟨rfl, hb7⟩))
      go_ret
      exact ⟨rfl, (by repeat (first | assumption | refine Bl.step ?_ (by assumption)))⟩
    | true =>
      rw [hsh] at KS
      obtain ⟨sU, hU⟩ := str_ex ((bts s).map (trT (bts i) (bts o)))
      have zU : sU.size ≤ maxLen := by have := size_of_bts hU; rw [List.length_map, bts_length] at this; rw [this]; exact hss
      have K8 := fun W => Lib.hid ((Translate_any s o i 42 W hss hso hsi (by omega) (by omega)).mono (fun e w' h => givesS_at (tr_once hvs hvo hvi hsh) hU h))
      have K9 := fun W => Lib.hid ((Translate_any sU i o 42 W zU hsi hso (by omega) (by omega)).mono (fun e w' h => givesS_at (by rw [hU]; exact tr_twice hvs hvo hvi hsh) (show bts s = bts s from rfl) h))
      clear hsh hU zU hvs hvt hvi hvo hss hst hsi hso
      go_enter Tryd.func15, Tryd.ntmps15
      go_wp2_with (first
        | (go_at_call 16; (with_reducible refine Calls.mono (KH _).out ?_); rintro e w1 ⟨rfl, hb0⟩)
        | (go_at_call 31; (with_reducible refine Calls.mono (KVs _).out ?_); rintro e w1 ⟨rfl, hvsb⟩)
        | (go_at_call 31; (with_reducible refine Calls.mono (KVt _).out ?_); rintro e w1 ⟨rfl, hvtb⟩)
        | (go_at_call 31; (with_reducible refine Calls.mono (KVi _).out ?_); rintro e w1 ⟨rfl, hvib⟩)
        | (go_at_call 31; (with_reducible refine Calls.mono (KVo _).out ?_); rintro e w1 ⟨rfl, hvob⟩)
        | (go_at_call 84; (with_reducible refine Calls.mono (K1 _).out ?_); rintro e w1 ⟨rfl, hb1⟩)
        | (go_at_call 82; (with_reducible refine Calls.mono (K5 _).out ?_); rintro e w1 ⟨rfl, hb5⟩)
        | (go_at_call 94; (with_reducible refine Calls.mono (KS _).out ?_); rintro e w1 ⟨rfl, hb7⟩)
        | (go_at_call 74; (with_reducible refine Calls.mono (K8 _).out ?_); rintro e w1 ⟨rfl, hb8⟩)
        | (go_at_call 74; (with_reducible refine Calls.mono (K9 _).out ?_); rintro e w1 ⟨rfl, hb9⟩))
      go_ret
      exact ⟨rfl, (by repeat (first | assumption | refine Bl.step ?_ (by assumption)))⟩
end Go.Proofs.YtoilgjlbpimcpaaDoor
