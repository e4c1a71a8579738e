/- The other program's Translate. -/
import Derived.Test.YtoilgjlbpimcpaaDoorXa
import Derived.Test.YtoilgjlbpimcpaaDoorTt
import Derived.Test.YtoilgjlbpimcpaaDoorVc
namespace Go.Proofs.YtoilgjlbpimcpaaDoor
open Go.RowKit Go.Shelf Tx
set_option linter.unusedVariables false
set_option maxRecDepth 100000

namespace Tx
theorem trT_skip {inn out : List UInt8} {x : UInt8} : ∀ {k : Nat}, k ≤ inn.length → inn.length ≤ out.length → (∀ j, j < k → inn[j]? ≠ some x) → trT inn out x = trT (inn.drop k) (out.drop k) x
  | 0, _, _, _ => rfl
  | k + 1, hk, ho, h => by
    rw [trT_skip (k := k) (by omega) ho (fun j hj => h j (by omega))]
    obtain ⟨a, ha⟩ : ∃ a, inn[k]? = some a := ⟨_, List.getElem?_eq_getElem (by omega)⟩
    obtain ⟨b, hb⟩ : ∃ b, out[k]? = some b := ⟨_, List.getElem?_eq_getElem (by omega)⟩
    have hne := h k (by omega)
    rw [trT_step ha hb, if_neg (fun e => hne (by rw [ha, e]))]
theorem trT_hit {inn out : List UInt8} {x b : UInt8} {k : Nat} (hk : k < inn.length) (ho : inn.length ≤ out.length) (h : ∀ j, j < k → inn[j]? ≠ some x) (ha : inn[k]? = some x) (hb : out[k]? = some b) : trT inn out x = b := by
  rw [trT_skip (by omega) ho h, trT_step ha hb, if_pos rfl]
theorem trT_none {inn out : List UInt8} {x : UInt8} (ho : inn.length ≤ out.length) (h : ∀ j, j < inn.length → inn[j]? ≠ some x) : trT inn out x = x := by
  rw [trT_skip (Nat.le_refl _) ho h, List.drop_of_length_le (Nat.le_refl inn.length)]
  cases out.drop inn.length <;> rfl
theorem fit_get1 {l : List UInt8} {n k : Nat} {p : UInt8} {b : UInt8} (hk : k < n) (h : l[k]? = some b) : (fitL l n p)[k]? = some b := by
  have hl := (List.getElem?_eq_some_iff.1 h).1
  unfold fitL
  rw [List.getElem?_append_left (by simp; omega), List.getElem?_take, if_pos hk, h]
theorem fit_get2 {l : List UInt8} {n k : Nat} {p : UInt8} (hk : k < n) (h : l.length ≤ k) : (fitL l n p)[k]? = some p := by
  unfold fitL
  rw [List.getElem?_append_right (by simp; omega), List.getElem?_replicate, if_pos (by simp; omega)]
theorem trT_clean {inn out : List UInt8} (hc : cleanL out = true) : ∀ (x : UInt8), padI (x.toNat : Int) = true → padI ((trT inn out x).toNat : Int) = true := by
  induction inn generalizing out with
  | nil => intro x hx; exact hx
  | cons a inn ih =>
    intro x hx
    cases out with
    | nil => exact hx
    | cons b out =>
      unfold cleanL at hc
      rw [List.all_cons, Bool.and_eq_true] at hc
      unfold trT
      split
      · exact hc.1
      · exact ih hc.2 x hx
end Tx
theorem str_cell_ne {s : ByteArray} {k : Nat} {c : UInt8} (h : k < s.size) (hne : ¬ s[k] = c) : (bts s)[k]? ≠ some c := by
  rw [bts_get s h]; intro e; cases e; exact hne rfl
theorem bys_drew {w : World} {b : Nat} {l : List UInt8} (h : Bys w b l) : Bys w.drew b l := h.of_block rfl
theorem bys_set1 {w : World} {b k : Nat} {l : List UInt8} {x : UInt8} (h : Bys w b l) : Bys (w.setCell ⟨b, k, none⟩ (.int .u8 (x.toNat : Int))) b (l.set k x) := h.set
theorem bys_set2 {w : World} {b k : Nat} {l : List UInt8} {x y : UInt8} (h : Bys w b l) : Bys ((w.setCell ⟨b, k, none⟩ (.int .u8 (x.toNat : Int))).setCell ⟨b, k, none⟩ (.int .u8 (y.toNat : Int))) b (l.set k y) := by
  have := (h.set (i := k) (x := x)).set (i := k) (x := y)
  rwa [List.set_set] at this
set_option maxHeartbeats 4000000 in
theorem RTranslate_any (s u i : ByteArray) (c : UInt8) (w : World) (hss : s.size ≤ maxLen) (hsu : u.size ≤ maxLen) (hsi : i.size ≤ maxLen) :
    Calls Tryd.prog 78 #[.string s, .string u, .string i, .int .u8 (c.toNat : Int)] w (GivesA w (translateR (bts s) (bts u) (bts i) (c.toNat : Int))) := by
  have KVs := fun (W : World) => Lib.hid (RValid_any s W hss)
  have KVu := fun (W : World) => Lib.hid (RValid_any u W hsu)
  have KVi := fun (W : World) => Lib.hid (RValid_any i W hsi)
  have KPc := fun (W : World) => Lib.hid (RPad_any (c.toNat : Int) W)
  cases hv0 : validL (bts s) with
  | false =>
    rw [hv0] at KVs
    have HR := Lib.hid (show translateR (bts s) (bts u) (bts i) (c.toNat : Int) = ([], 1) by unfold translateR guardR; simp only [hv0, Bool.and_false, Bool.false_and, Bool.true_and, Bool.and_true]; rfl)
    clear hv0
    go_enter Tryd.func78, Tryd.ntmps78
    go_wp2_with (first
      | (go_at_call 32; (with_reducible refine Calls.mono (KVs _).out ?_); rintro e w1 ⟨rfl, rfl⟩))
    refine bodyPost_ret (v := .agg #[.string ⟨#[]⟩, .int .i64 1]) (by simp [results, Tryd.results78, go_sem]) rfl ?_
    exact givesA HR.out rfl ((Below.refl _ w).alloc (Nat.le_refl _) _)
  | true =>
    rw [hv0] at KVs
    cases hv1 : validL (bts u) with
    | false =>
      rw [hv1] at KVu
      have HR := Lib.hid (show translateR (bts s) (bts u) (bts i) (c.toNat : Int) = ([], 1) by unfold translateR guardR; simp only [hv0, hv1, Bool.and_false, Bool.false_and, Bool.true_and, Bool.and_true]; rfl)
      clear hv0 hv1
      go_enter Tryd.func78, Tryd.ntmps78
      go_wp2_with (first
        | (go_at_call 32; (with_reducible refine Calls.mono (KVs _).out ?_); rintro e w1 ⟨rfl, rfl⟩)
        | (go_at_call 32; (with_reducible refine Calls.mono (KVu _).out ?_); rintro e w1 ⟨rfl, rfl⟩))
      refine bodyPost_ret (v := .agg #[.string ⟨#[]⟩, .int .i64 1]) (by simp [results, Tryd.results78, go_sem]) rfl ?_
      exact givesA HR.out rfl ((Below.refl _ w).alloc (Nat.le_refl _) _)
    | true =>
      rw [hv1] at KVu
      cases hv2 : validL (bts i) with
      | false =>
        rw [hv2] at KVi
        have HR := Lib.hid (show translateR (bts s) (bts u) (bts i) (c.toNat : Int) = ([], 1) by unfold translateR guardR; simp only [hv0, hv1, hv2, Bool.and_false, Bool.false_and, Bool.true_and, Bool.and_true]; rfl)
        clear hv0 hv1 hv2
        go_enter Tryd.func78, Tryd.ntmps78
        go_wp2_with (first
          | (go_at_call 32; (with_reducible refine Calls.mono (KVs _).out ?_); rintro e w1 ⟨rfl, rfl⟩)
          | (go_at_call 32; (with_reducible refine Calls.mono (KVu _).out ?_); rintro e w1 ⟨rfl, rfl⟩)
          | (go_at_call 32; (with_reducible refine Calls.mono (KVi _).out ?_); rintro e w1 ⟨rfl, rfl⟩))
        refine bodyPost_ret (v := .agg #[.string ⟨#[]⟩, .int .i64 1]) (by simp [results, Tryd.results78, go_sem]) rfl ?_
        exact givesA HR.out rfl ((Below.refl _ w).alloc (Nat.le_refl _) _)
      | true =>
        rw [hv2] at KVi
        cases hv3 : padI (c.toNat : Int) with
        | false =>
          rw [hv3] at KPc
          have HR := Lib.hid (show translateR (bts s) (bts u) (bts i) (c.toNat : Int) = ([], 1) by unfold translateR guardR; simp only [hv0, hv1, hv2, hv3, Bool.and_false, Bool.false_and, Bool.true_and, Bool.and_true]; rfl)
          clear hv0 hv1 hv2 hv3
          go_enter Tryd.func78, Tryd.ntmps78
          go_wp2_with (first
            | (go_at_call 32; (with_reducible refine Calls.mono (KVs _).out ?_); rintro e w1 ⟨rfl, rfl⟩)
            | (go_at_call 32; (with_reducible refine Calls.mono (KVu _).out ?_); rintro e w1 ⟨rfl, rfl⟩)
            | (go_at_call 32; (with_reducible refine Calls.mono (KVi _).out ?_); rintro e w1 ⟨rfl, rfl⟩)
            | (go_at_call 107; (with_reducible refine Calls.mono (KPc _).out ?_); rintro e w1 ⟨rfl, rfl⟩))
          refine bodyPost_ret (v := .agg #[.string ⟨#[]⟩, .int .i64 1]) (by simp [results, Tryd.results78, go_sem]) rfl ?_
          exact givesA HR.out rfl ((Below.refl _ w).alloc (Nat.le_refl _) _)
        | true =>
          rw [hv3] at KPc
          have hlen := valid_le hv0
          have hlenu := valid_le hv1
          have hleni := valid_le hv2
          obtain ⟨f, hf⟩ : ∃ f, f = trT (bts i) (fitL (bts u) i.size c) := ⟨_, rfl⟩
          have HF := Lib.hid hf
          have HFL := Lib.hid (show (bts i).length ≤ (fitL (bts u) i.size c).length by rw [fitL_length, bts_length]; exact Nat.le_refl _)
          obtain ⟨⟨rl, rk⟩, hrr⟩ : ∃ r, translateR (bts s) (bts u) (bts i) (c.toNat : Int) = r := ⟨_, rfl⟩
          have HRR := Lib.hid hrr
          have HR := Lib.hid (show outR ((bts s).map f) = (rl, rk) by
            rw [← hrr, outR_ok (clean_map (valid_clean hv0) (by rw [hf]; exact trT_clean (clean_fit (valid_clean hv1) hv3 _))) (by simpa [bts_length] using hlen)]
            unfold translateR guardR
            rw [hv0, hv1, hv2, hv3, hf, pb_u8, bts_length]
            rfl)
          obtain ⟨cap, w1, hconv, hby0, hb0⟩ := conv_bytes1 s w
          have HBY0 := Lib.hid hby0
          have HB0 := Lib.hid hb0
          clear hss hsu hsi hv0 hv1 hv2 hv3 hrr hby0 hb0 hf
          go_enter Tryd.func78, Tryd.ntmps78
          go_wp2_with (first
            | (go_at_call 32; (with_reducible refine Calls.mono (KVs _).out ?_); rintro e w1 ⟨rfl, rfl⟩)
            | (go_at_call 32; (with_reducible refine Calls.mono (KVu _).out ?_); rintro e w1 ⟨rfl, rfl⟩)
            | (go_at_call 32; (with_reducible refine Calls.mono (KVi _).out ?_); rintro e w1 ⟨rfl, rfl⟩)
            | (go_at_call 107; (with_reducible refine Calls.mono (KPc _).out ?_); rintro e w1 ⟨rfl, rfl⟩))
          go_loopw [10] (fun v wr => ∃ k : Nat, v = .int .i64 k ∧ k ≤ s.size ∧ Hid (Bys wr (w.heap.size + 1) (((bts s).take k).map f ++ (bts s).drop k)) ∧ Hid (SbB w wr)) (fun v _ => s.size - (intOf v).toNat)
          case atStart => exact ⟨0, rfl, Nat.zero_le _, Lib.hid (by simpa using HBY0.out), HB0⟩
          case round =>
            obtain ⟨k, rfl, hk, hby, hb⟩ := hrel
            have hlen2 : (((bts s).take k).map f ++ (bts s).drop k).length = s.size := by simp [bts_length]; omega
            by_cases hlt : k < s.size
            · have hg := bts_get s hlt
              have c2 := hby.out.frozen (i := k) (by rw [hlen2]; exact hlt)
              have c1 := hby.out.cell (get_step (f := f) hg)
              have HGS := Lib.hid (get_step (f := f) hg)
              have HKL := Lib.hid (show k < (((bts s).take k).map f ++ (bts s).drop k).length by rw [hlen2]; exact hlt)
              have HS := Lib.hid (set_step (f := f) hg)
              have HSA := Lib.hid (step_same (f := f) hg)
              obtain ⟨x, hx⟩ : ∃ x, x = s[k] := ⟨_, rfl⟩
              have hxx : s[k] = x := hx.symm
              rw [← hx] at c1 HS HSA HGS
              clear hx hg hlen2 c1 c2
              go_wp2
              go_loopw [11] (fun v wi => ∃ j : Nat, v = .int .i64 j ∧ j ≤ i.size ∧ Hid (∀ q, q < j → (bts i)[q]? ≠ some x) ∧ Hid (Bys wi (w.heap.size + 1) (((bts s).take k).map f ++ (bts s).drop k)) ∧ Hid (SbB w wi)) (fun v _ => i.size - (intOf v).toNat)
              case atStart => exact ⟨0, rfl, Nat.zero_le _, Lib.hid (fun q h => by omega), hby, hb⟩
              case round =>
                obtain ⟨j, rfl, hj, hq, hbi, hbs⟩ := hrel
                have d1 := hbi.out.cell HGS.out
                have d2 := hbi.out.frozen (i := k) HKL.out
                by_cases hjt : j < i.size
                · have hgi := bts_get i hjt
                  by_cases hix : i[j] = x
                  · have hix2 : (i[j].toNat : Int) = (x.toNat : Int) := by rw [hix]
                    rw [hix] at hgi
                    by_cases hju : j < u.size
                    · have HFX := Lib.hid (show f x = u[j] by rw [HF.out]; exact trT_hit (by rw [bts_length]; exact hjt) HFL.out hq.out hgi (fit_get1 hjt (bts_get u hju)))
                      obtain ⟨y, hy⟩ : ∃ y, y = u[j] := ⟨_, rfl⟩
                      have hyy : u[j] = y := hy.symm
                      rw [← hy] at HFX
                      rw [HFX.out] at HS
                      clear hy hgi
                      go_wp2
                      go_region
                      go_wp2
                      go_roundw
                      case rel => exact ⟨k + 1, by go_num, by omega, Lib.hid (by rw [← HS.out]; exact (bys_set2 (bys_drew hbi.out))), Lib.hid (SbB.low (B := w.heap.size + 1) hbs.out (((Below.refl _ _).drew.setCell (p := ⟨w.heap.size + 1, k, none⟩) (Nat.le_refl _) _).setCell (p := ⟨w.heap.size + 1, k, none⟩) (Nat.le_refl _) _) (Nat.le_refl _))⟩
                      case measure => simp [intOf]; omega
                    · have HFX := Lib.hid (show f x = c by rw [HF.out]; exact trT_hit (by rw [bts_length]; exact hjt) HFL.out hq.out hgi (fit_get2 hjt (by rw [bts_length]; omega)))
                      rw [HFX.out] at HS
                      clear hgi
                      go_wp2
                      go_region
                      go_wp2
                      go_roundw
                      case rel => exact ⟨k + 1, by go_num, by omega, Lib.hid (by rw [← HS.out]; exact (bys_set1 (bys_drew hbi.out))), Lib.hid (SbB.low (B := w.heap.size + 1) hbs.out ((Below.refl _ _).drew.setCell (p := ⟨w.heap.size + 1, k, none⟩) (Nat.le_refl _) _) (Nat.le_refl _))⟩
                      case measure => simp [intOf]; omega
                  · have hix2 : ¬ (i[j].toNat : Int) = (x.toNat : Int) := fun h => hix (UInt8.toNat_inj.1 (by omega))
                    have HN := Lib.hid (show ∀ q, q < j + 1 → (bts i)[q]? ≠ some x from fun q h => by
                      by_cases e : q = j
                      · subst e; exact str_cell_ne hjt hix
                      · exact hq.out q (by omega))
                    clear hgi
                    go_wp2
                    go_region
                    go_wp2
                    go_roundw
                    case rel => exact ⟨j + 1, by go_num, by omega, HN, Lib.hid (bys_drew hbi.out), Lib.hid (SbB.low (B := w.heap.size + 1) hbs.out (Below.refl _ _).drew (Nat.le_refl _))⟩
                    case measure => simp [intOf]; omega
                · have HE := Lib.hid (HSA.out (by rw [HF.out]; exact trT_none HFL.out (fun q h => hq.out q (by rw [bts_length] at h; omega))))
                  go_wp2
                  go_roundw
                  case rel => exact ⟨k + 1, by go_num, by omega, Lib.hid (by rw [← HE.out]; exact hbi.out), hbs⟩
                  case measure => simp [intOf]; omega
            · obtain rfl : k = s.size := by omega
              have KO0 := Rout_any _ _ wr (hby.out.rd (cap := cap) (n := s.size) hlen2) (by rw [hlen2]; omega)
              rw [show ((bts s).take s.size).map f ++ (bts s).drop s.size = (bts s).map f by rw [List.take_of_length_le (by rw [bts_length]; exact Nat.le_refl _), List.drop_of_length_le (by rw [bts_length]; exact Nat.le_refl _), List.append_nil], HR.out] at KO0
              have KO := Lib.hid KO0
              clear KO0 hlen2
              go_wp2_with (go_at_call 108; refine Calls.mono KO.out ?_; rintro e w8 ⟨t, rfl, ht, hb5⟩; have HB5 := Lib.hid (hb.out.step hb5); obtain ⟨p1, p2, f1, f2⟩ := HB5.out.facts; clear hb5)
              refine bodyPost_ret (v := .agg #[.string t, .int .i64 rk]) (by simp [results, Tryd.results78, go_sem, p1, p2]) rfl ?_
              rw [HRR.out]
              exact ⟨t, rfl, ht, HB5.out.fin _ _⟩
end Go.Proofs.YtoilgjlbpimcpaaDoor
