/- The other program's bitwise operations. -/
import Derived.Test.YtoilgjlbpimcpaaDoorVb
namespace Go.Proofs.YtoilgjlbpimcpaaDoor
open Go.RowKit Go.Shelf Tx
set_option linter.unusedVariables false
set_option maxRecDepth 100000

namespace Tx
/-- The bytes that the loop leaves, where m is not the longer one. -/
def bitT (f : UInt8 → UInt8 → UInt8) (l m : List UInt8) (p : Int) : List UInt8 :=
  if p = -1 then List.zipWith f l m ++ l.drop m.length else List.zipWith f l (fitL m l.length (pb p))
theorem zip_take (f : UInt8 → UInt8 → UInt8) : ∀ l m : List UInt8, List.zipWith f (l.take m.length) m = List.zipWith f l m
  | [], m => by simp
  | a :: l, [] => by simp
  | a :: l, b :: m => by simp [zip_take f l m]
theorem fit_self (l : List UInt8) (p : UInt8) : fitL l l.length p = l := by unfold fitL; simp
theorem bitT_length {f : UInt8 → UInt8 → UInt8} {l m : List UInt8} {p : Int} (h : m.length ≤ l.length) : (bitT f l m p).length = l.length := by
  unfold bitT
  split
  · simp; omega
  · simp [fitL_length]
theorem bitT_get1 {f : UInt8 → UInt8 → UInt8} {l m : List UInt8} {p : Int} {k : Nat} {a b : UInt8} (ha : l[k]? = some a) (hb : m[k]? = some b) : (bitT f l m p)[k]? = some (f a b) := by
  have h1 := (List.getElem?_eq_some_iff.1 ha).1
  have h2 := (List.getElem?_eq_some_iff.1 hb).1
  unfold bitT
  split
  · rw [List.getElem?_append_left (by simp; omega), List.getElem?_zipWith, ha, hb]
  · unfold fitL
    rw [List.getElem?_zipWith, ha, List.getElem?_append_left (by simp; omega), List.getElem?_take, if_pos h1, hb]
theorem bitT_get2 {f : UInt8 → UInt8 → UInt8} {l m : List UInt8} {p : Int} {k : Nat} {a : UInt8} (hp : p ≠ -1) (ha : l[k]? = some a) (hb : m.length ≤ k) : (bitT f l m p)[k]? = some (f a (pb p)) := by
  have h1 := (List.getElem?_eq_some_iff.1 ha).1
  unfold bitT
  rw [if_neg hp]
  unfold fitL
  rw [List.getElem?_zipWith, ha, List.getElem?_append_right (by simp; omega), List.getElem?_replicate, if_pos (by simp; omega)]
theorem bitT_end {f : UInt8 → UInt8 → UInt8} {l m : List UInt8} {k : Nat} (hm : m.length ≤ l.length) (hb : m.length ≤ k) : (bitT f l m (-1)).take k ++ l.drop k = bitT f l m (-1) := by
  have : (bitT f l m (-1)).drop k = l.drop k := by
    unfold bitT
    rw [if_pos rfl, List.drop_append, List.drop_of_length_le (by simp; omega), List.nil_append, List.drop_drop]
    congr 1
    simp
    omega
  rw [← this, List.take_append_drop]
theorem bit_step {T l : List UInt8} {k : Nat} {x y : UInt8} (h : l[k]? = some x) (hT : T[k]? = some y) : (T.take k ++ l.drop k).set k y = T.take (k + 1) ++ l.drop (k + 1) := by
  have hk := (List.getElem?_eq_some_iff.1 h).1
  have hk2 := (List.getElem?_eq_some_iff.1 hT).1
  have e : l.drop k = x :: l.drop (k + 1) := by
    rw [List.drop_eq_getElem_cons hk]
    congr 1
    exact (List.getElem?_eq_some_iff.1 h).2
  rw [List.set_append_right _ _ (by simp; omega), e]
  have e2 : k - (T.take k).length = 0 := by simp; omega
  rw [e2, List.set_cons_zero, List.take_add_one, hT]
  simp
theorem bit_get {T l : List UInt8} {k : Nat} {x : UInt8} (h : l[k]? = some x) (hT : k ≤ T.length) : (T.take k ++ l.drop k)[k]? = some x := by
  have hk := (List.getElem?_eq_some_iff.1 h).1
  rw [List.getElem?_append_right (by simp; omega), List.getElem?_drop]
  have e2 : k + (k - (T.take k).length) = k := by simp; omega
  rw [e2, h]
theorem bitsR_eq {f : UInt8 → UInt8 → UInt8} {l m : List UInt8} {p : Int} (hl : validL l = true) (hm : validL m = true) (hp : (decide (p = -1) || decide (32 ≤ p)) = true) (hp2 : p ≤ 126) (hll : l.length ≤ 1000) (h : m.length ≤ l.length) : bitsR f l m p = outR (bitT f l m p) := by
  unfold bitsR guardR bitsB
  rw [hl, hm, hp, decide_eq_true hp2]
  simp only [Bool.and_self, if_true]
  have ho : outR (bitT f l m p) = cleanR (bitT f l m p) := by unfold outR; rw [if_neg (by rw [bitT_length h]; omega)]
  rw [ho]
  unfold bitT zipP
  by_cases e : p = -1
  · rw [if_pos e, if_pos e, Nat.min_eq_right h, List.take_of_length_le (Nat.le_refl m.length), List.drop_of_length_le (Nat.le_refl m.length), List.append_nil]
    rw [show max (l.take m.length).length m.length = m.length by rw [List.length_take]; omega]
    have e1 : fitL (l.take m.length) m.length 255 = l.take m.length := by
      have := fit_self (l.take m.length) 255
      rwa [List.length_take, Nat.min_eq_left h] at this
    rw [e1, fit_self, zip_take]
  · rw [if_neg e, if_neg e, List.append_nil, Nat.max_eq_left h, fit_self]
theorem zip_comm {f : UInt8 → UInt8 → UInt8} (hf : ∀ a b, f a b = f b a) : ∀ l m : List UInt8, List.zipWith f l m = List.zipWith f m l
  | [], m => by simp
  | a :: l, [] => by simp
  | a :: l, b :: m => by simp [zip_comm hf l m, hf a b]
theorem bitsR_comm {f : UInt8 → UInt8 → UInt8} (hf : ∀ a b, f a b = f b a) (l m : List UInt8) (p : Int) : bitsR f l m p = bitsR f m l p := by
  unfold bitsR
  rw [Bool.and_comm (validL l)]
  congr 1
  unfold bitsB zipP
  simp only [zip_comm hf (fitL l _ _), zip_comm hf (fitL (l.take _) _ _), Nat.max_comm l.length, Nat.min_comm l.length]
  rw [Nat.max_comm (l.take (min m.length l.length)).length]
  by_cases e : p = -1
  · rw [if_pos e, if_pos e]
    congr 2
    by_cases h : l.length ≤ m.length
    · rw [Nat.min_eq_right h, List.drop_of_length_le (Nat.le_refl l.length)]; simp
    · rw [Nat.min_eq_left (by omega), List.drop_of_length_le (Nat.le_refl m.length)]; simp
  · rw [if_neg e, if_neg e]
theorem opAnd_comm (a b : UInt8) : opAnd a b = opAnd b a := by unfold opAnd; exact UInt8.and_comm a b
theorem opOr_comm (a b : UInt8) : opOr a b = opOr b a := by unfold opOr; exact UInt8.or_comm a b
theorem opXor_comm (a b : UInt8) : opXor a b = opXor b a := by unfold opXor; exact UInt8.xor_comm a b
end Tx
theorem conv_bytes1 (s : ByteArray) (w : World) : ∃ cap w1, (convert 9 89 (.string s)).run Tryd.prog (w.alloc (.cells #[.string ⟨#[]⟩, .int .i64 0] 31)) = .ok (.slice (some ⟨w.heap.size + 1, 0, none⟩) s.size cap) w1 ∧ Bys w1 (w.heap.size + 1) (bts s) ∧ SbB w w1 := by
  obtain ⟨cap, w1, h1, h2, h3, h4⟩ := conv_bytes s (w.alloc (.cells #[.string ⟨#[]⟩, .int .i64 0] 31))
  rw [sbB_size] at h1 h2
  exact ⟨cap, w1, h1, h2, (sbB_new w).step h4⟩

set_option maxHeartbeats 4000000 in
theorem RBitsXor_le (u v : ByteArray) (p : Int) (w : World) (hsu : u.size ≤ maxLen) (hsv : v.size ≤ maxLen) (hp9 : p ≤ 9223372036854775807) (hle : v.size ≤ u.size) :
    Calls Tryd.prog 83 #[.int .i64 2, .string u, .string v, .int .i64 p] w (GivesA w (bitsR opXor (bts u) (bts v) p)) := by
  have KVu := fun (W : World) => Lib.hid (RValid_any u W hsu)
  have KVv := fun (W : World) => Lib.hid (RValid_any v W hsv)
  cases hv0 : validL (bts u) with
  | false =>
    rw [hv0] at KVu
    have HR := Lib.hid (show bitsR opXor (bts u) (bts v) p = ([], 1) by unfold bitsR guardR; simp only [hv0, Bool.and_false, Bool.false_and, Bool.true_and, Bool.and_true]; rfl)
    clear hv0
    go_enter Tryd.func83, Tryd.ntmps83
    go_wp2_with (first
      | (go_at_call 32; (with_reducible refine Calls.mono (KVu _).out ?_); rintro e w1 ⟨rfl, rfl⟩))
    refine bodyPost_ret (v := .agg #[.string ⟨#[]⟩, .int .i64 1]) (by simp [results, Tryd.results83, go_sem]) rfl ?_
    exact givesA HR.out rfl ((Below.refl _ w).alloc (Nat.le_refl _) _)
  | true =>
    rw [hv0] at KVu
    cases hv1 : validL (bts v) with
    | false =>
      rw [hv1] at KVv
      have HR := Lib.hid (show bitsR opXor (bts u) (bts v) p = ([], 1) by unfold bitsR guardR; simp only [hv0, hv1, Bool.and_false, Bool.false_and, Bool.true_and, Bool.and_true]; rfl)
      clear hv0 hv1
      go_enter Tryd.func83, Tryd.ntmps83
      go_wp2_with (first
        | (go_at_call 32; (with_reducible refine Calls.mono (KVu _).out ?_); rintro e w1 ⟨rfl, rfl⟩)
        | (go_at_call 32; (with_reducible refine Calls.mono (KVv _).out ?_); rintro e w1 ⟨rfl, rfl⟩))
      refine bodyPost_ret (v := .agg #[.string ⟨#[]⟩, .int .i64 1]) (by simp [results, Tryd.results83, go_sem]) rfl ?_
      exact givesA HR.out rfl ((Below.refl _ w).alloc (Nat.le_refl _) _)
    | true =>
      rw [hv1] at KVv
      have hlen1 := valid_le hv0
      have hlen2 := valid_le hv1
      by_cases hm : p = -1
      · subst hm
        have hwp : IntKind.u8.wrap (-1) = 255 := by decide
        obtain ⟨cap, w1, hconv, hby0, hb0⟩ := conv_bytes1 u w
        have HBY0 := Lib.hid hby0
        have HB0 := Lib.hid hb0
        obtain ⟨T, hT⟩ : ∃ T, T = bitT opXor (bts u) (bts v) (-1) := ⟨_, rfl⟩
        have HTT := Lib.hid hT
        have HTL := Lib.hid (show T.length = u.size by rw [hT, bitT_length (by rw [bts_length, bts_length]; exact hle), bts_length])
        obtain ⟨⟨rl, rk⟩, hrr⟩ : ∃ r, bitsR opXor (bts u) (bts v) (-1) = r := ⟨_, rfl⟩
        have HRR := Lib.hid hrr
        have HR := Lib.hid (show outR T = (rl, rk) by rw [← hrr, hT]; exact (bitsR_eq hv0 hv1 (by rfl) (by omega) (by rw [bts_length]; exact hlen1) (by rw [bts_length, bts_length]; exact hle)).symm)
        clear hby0 hb0 hT hrr hv0 hv1 hsu hsv hp9
        go_enter Tryd.func83, Tryd.ntmps83
        go_wp2_with (first
          | (go_at_call 32; (with_reducible refine Calls.mono (KVu _).out ?_); rintro e w1 ⟨rfl, rfl⟩)
          | (go_at_call 32; (with_reducible refine Calls.mono (KVv _).out ?_); rintro e w1 ⟨rfl, rfl⟩))
        go_loopw [10] (fun i wr => ∃ k : Nat, i = .int .i64 k ∧ k ≤ u.size ∧ Hid (Bys wr (w.heap.size + 1) (T.take k ++ (bts u).drop k)) ∧ Hid (SbB w wr)) (fun i _ => u.size - (intOf i).toNat)
        case atStart => exact ⟨0, rfl, Nat.zero_le _, Lib.hid (by rw [List.take_zero, List.drop_zero, List.nil_append]; exact HBY0.out), HB0⟩
        case round =>
          obtain ⟨k, rfl, hk, hby, hb⟩ := hrel
          have hlen : (T.take k ++ (bts u).drop k).length = u.size := by rw [List.length_append, List.length_take, HTL.out, List.length_drop, bts_length]; omega
          by_cases hlt : k < u.size
          · have hg := bts_get u hlt
            by_cases hkv : k < v.size
            · have HTG := Lib.hid (show T[k]? = some (opXor u[k] v[k]) by rw [HTT.out]; exact bitT_get1 hg (bts_get v hkv))
              have c1 := hby.out.cell (bit_get hg (by rw [HTL.out]; omega))
              have c2 := hby.out.frozen (i := k) (by rw [hlen]; exact hlt)
              have HSS := Lib.hid (bit_step hg HTG.out)
              obtain ⟨x, hx⟩ : ∃ x, x = u[k] := ⟨_, rfl⟩
              obtain ⟨y, hy⟩ : ∃ y, y = v[k] := ⟨_, rfl⟩
              rw [← hx] at c1 HSS
              rw [← hy] at HSS
              have hbit := bits_Xor x y
              obtain ⟨z, hz⟩ : ∃ z, z = opXor x y := ⟨_, rfl⟩
              rw [← hz] at HSS hbit
              have hyv : v[k] = y := hy.symm
              clear hy
              clear hx hz hg hlen
              go_wp2
              go_roundw
              case rel => exact ⟨k + 1, by go_num, by omega, Lib.hid (by rw [← HSS.out]; exact hby.out.set), Lib.hid (SbB.low (B := w.heap.size + 1) hb.out ((Below.refl _ wr).setCell (p := ⟨w.heap.size + 1, k, none⟩) (Nat.le_refl _) _) (Nat.le_refl _))⟩
              case measure => simp [intOf]; omega
            · have HEE := Lib.hid (show T.take k ++ (bts u).drop k = T by rw [HTT.out]; exact bitT_end (by rw [bts_length, bts_length]; exact hle) (by rw [bts_length]; omega))
              have KO0 := Rout_any _ _ wr (hby.out.rd (cap := cap) (n := u.size) hlen) (by rw [hlen]; omega)
              rw [HEE.out, HR.out] at KO0
              have KO := Lib.hid KO0
              clear KO0 hlen
              clear hg
              go_wp2_with (go_at_call 108; refine Calls.mono KO.out ?_; rintro e w8 ⟨t, rfl, ht, hb5⟩; have HB5 := Lib.hid (hb.out.step hb5); obtain ⟨p1, p2, f1, f2⟩ := HB5.out.facts; clear hb5)
              refine bodyPost_ret (v := .agg #[.string t, .int .i64 rk]) (by simp [results, Tryd.results83, go_sem, p1, p2]) rfl ?_
              rw [HRR.out]
              exact ⟨t, rfl, ht, HB5.out.fin _ _⟩
          · obtain rfl : k = u.size := by omega
            have KO0 := Rout_any _ _ wr (hby.out.rd (cap := cap) (n := u.size) hlen) (by rw [hlen]; omega)
            rw [(show T.take u.size ++ (bts u).drop u.size = T by rw [List.take_of_length_le (by rw [HTL.out]; exact Nat.le_refl _), List.drop_of_length_le (by rw [bts_length]; exact Nat.le_refl _), List.append_nil]), HR.out] at KO0
            have KO := Lib.hid KO0
            clear KO0 hlen
            go_wp2_with (go_at_call 108; refine Calls.mono KO.out ?_; rintro e w8 ⟨t, rfl, ht, hb5⟩; have HB5 := Lib.hid (hb.out.step hb5); obtain ⟨p1, p2, f1, f2⟩ := HB5.out.facts; clear hb5)
            refine bodyPost_ret (v := .agg #[.string t, .int .i64 rk]) (by simp [results, Tryd.results83, go_sem, p1, p2]) rfl ?_
            rw [HRR.out]
            exact ⟨t, rfl, ht, HB5.out.fin _ _⟩
      · have hmb : (p == -1) = false := by simpa using hm
        by_cases h32 : 32 ≤ p
        · by_cases h126 : p ≤ 126
          · have hwp : IntKind.u8.wrap p = p := by unfold IntKind.wrap; simp [IntKind.signed, IntKind.bits]; omega
            have hpb := Lib.hid (show ((pb p).toNat : Int) = p from pb_toNat (by unfold padI; rw [decide_eq_true h32, decide_eq_true h126]; rfl))
            have hpm := Lib.hid (show p ≠ -1 from hm)
            obtain ⟨cap, w1, hconv, hby0, hb0⟩ := conv_bytes1 u w
            have HBY0 := Lib.hid hby0
            have HB0 := Lib.hid hb0
            obtain ⟨T, hT⟩ : ∃ T, T = bitT opXor (bts u) (bts v) p := ⟨_, rfl⟩
            have HTT := Lib.hid hT
            have HTL := Lib.hid (show T.length = u.size by rw [hT, bitT_length (by rw [bts_length, bts_length]; exact hle), bts_length])
            obtain ⟨⟨rl, rk⟩, hrr⟩ : ∃ r, bitsR opXor (bts u) (bts v) p = r := ⟨_, rfl⟩
            have HRR := Lib.hid hrr
            have HR := Lib.hid (show outR T = (rl, rk) by rw [← hrr, hT]; exact (bitsR_eq hv0 hv1 (by rw [decide_eq_true h32, Bool.or_true]) (by omega) (by rw [bts_length]; exact hlen1) (by rw [bts_length, bts_length]; exact hle)).symm)
            clear hby0 hb0 hT hrr hv0 hv1 hsu hsv hp9 hm
            go_enter Tryd.func83, Tryd.ntmps83
            go_wp2_with (first
              | (go_at_call 32; (with_reducible refine Calls.mono (KVu _).out ?_); rintro e w1 ⟨rfl, rfl⟩)
              | (go_at_call 32; (with_reducible refine Calls.mono (KVv _).out ?_); rintro e w1 ⟨rfl, rfl⟩))
            go_loopw [10] (fun i wr => ∃ k : Nat, i = .int .i64 k ∧ k ≤ u.size ∧ Hid (Bys wr (w.heap.size + 1) (T.take k ++ (bts u).drop k)) ∧ Hid (SbB w wr)) (fun i _ => u.size - (intOf i).toNat)
            case atStart => exact ⟨0, rfl, Nat.zero_le _, Lib.hid (by rw [List.take_zero, List.drop_zero, List.nil_append]; exact HBY0.out), HB0⟩
            case round =>
              obtain ⟨k, rfl, hk, hby, hb⟩ := hrel
              have hlen : (T.take k ++ (bts u).drop k).length = u.size := by rw [List.length_append, List.length_take, HTL.out, List.length_drop, bts_length]; omega
              by_cases hlt : k < u.size
              · have hg := bts_get u hlt
                by_cases hkv : k < v.size
                · have HTG := Lib.hid (show T[k]? = some (opXor u[k] v[k]) by rw [HTT.out]; exact bitT_get1 hg (bts_get v hkv))
                  have c1 := hby.out.cell (bit_get hg (by rw [HTL.out]; omega))
                  have c2 := hby.out.frozen (i := k) (by rw [hlen]; exact hlt)
                  have HSS := Lib.hid (bit_step hg HTG.out)
                  obtain ⟨x, hx⟩ : ∃ x, x = u[k] := ⟨_, rfl⟩
                  obtain ⟨y, hy⟩ : ∃ y, y = v[k] := ⟨_, rfl⟩
                  rw [← hx] at c1 HSS
                  rw [← hy] at HSS
                  have hbit := bits_Xor x y
                  obtain ⟨z, hz⟩ : ∃ z, z = opXor x y := ⟨_, rfl⟩
                  rw [← hz] at HSS hbit
                  have hyv : v[k] = y := hy.symm
                  clear hy
                  clear hx hz hg hlen
                  go_wp2
                  go_roundw
                  case rel => exact ⟨k + 1, by go_num, by omega, Lib.hid (by rw [← HSS.out]; exact hby.out.set), Lib.hid (SbB.low (B := w.heap.size + 1) hb.out ((Below.refl _ wr).setCell (p := ⟨w.heap.size + 1, k, none⟩) (Nat.le_refl _) _) (Nat.le_refl _))⟩
                  case measure => simp [intOf]; omega
                · have HTG := Lib.hid (show T[k]? = some (opXor u[k] (pb p)) by rw [HTT.out]; exact bitT_get2 hpm.out hg (by rw [bts_length]; omega))
                  have c1 := hby.out.cell (bit_get hg (by rw [HTL.out]; omega))
                  have c2 := hby.out.frozen (i := k) (by rw [hlen]; exact hlt)
                  have HSS := Lib.hid (bit_step hg HTG.out)
                  obtain ⟨x, hx⟩ : ∃ x, x = u[k] := ⟨_, rfl⟩
                  obtain ⟨y, hy⟩ : ∃ y, y = pb p := ⟨_, rfl⟩
                  rw [← hx] at c1 HSS
                  rw [← hy] at HSS
                  have hbit := bits_Xor x y
                  obtain ⟨z, hz⟩ : ∃ z, z = opXor x y := ⟨_, rfl⟩
                  rw [← hz] at HSS hbit
                  have hyp : ((pb p).toNat : Int) = p := hpb.out
                  rw [← hy] at hyp
                  rw [hyp] at hbit
                  clear hy hyp
                  clear hx hz hg hlen
                  go_wp2
                  go_roundw
                  case rel => exact ⟨k + 1, by go_num, by omega, Lib.hid (by rw [← HSS.out]; exact hby.out.set), Lib.hid (SbB.low (B := w.heap.size + 1) hb.out ((Below.refl _ wr).setCell (p := ⟨w.heap.size + 1, k, none⟩) (Nat.le_refl _) _) (Nat.le_refl _))⟩
                  case measure => simp [intOf]; omega
              · obtain rfl : k = u.size := by omega
                have KO0 := Rout_any _ _ wr (hby.out.rd (cap := cap) (n := u.size) hlen) (by rw [hlen]; omega)
                rw [(show T.take u.size ++ (bts u).drop u.size = T by rw [List.take_of_length_le (by rw [HTL.out]; exact Nat.le_refl _), List.drop_of_length_le (by rw [bts_length]; exact Nat.le_refl _), List.append_nil]), HR.out] at KO0
                have KO := Lib.hid KO0
                clear KO0 hlen
                go_wp2_with (go_at_call 108; refine Calls.mono KO.out ?_; rintro e w8 ⟨t, rfl, ht, hb5⟩; have HB5 := Lib.hid (hb.out.step hb5); obtain ⟨p1, p2, f1, f2⟩ := HB5.out.facts; clear hb5)
                refine bodyPost_ret (v := .agg #[.string t, .int .i64 rk]) (by simp [results, Tryd.results83, go_sem, p1, p2]) rfl ?_
                rw [HRR.out]
                exact ⟨t, rfl, ht, HB5.out.fin _ _⟩
          · have HR := Lib.hid (show bitsR opXor (bts u) (bts v) p = ([], 1) by unfold bitsR guardR; rw [hv0, hv1, decide_eq_false h126]; simp)
            clear hv0 hv1 hp9 hm
            go_enter Tryd.func83, Tryd.ntmps83
            go_wp2_with (first
              | (go_at_call 32; (with_reducible refine Calls.mono (KVu _).out ?_); rintro e w1 ⟨rfl, rfl⟩)
              | (go_at_call 32; (with_reducible refine Calls.mono (KVv _).out ?_); rintro e w1 ⟨rfl, rfl⟩))
            refine bodyPost_ret (v := .agg #[.string ⟨#[]⟩, .int .i64 1]) (by simp [results, Tryd.results83, go_sem]) rfl ?_
            exact givesA HR.out rfl ((Below.refl _ w).alloc (Nat.le_refl _) _)
        · have HR := Lib.hid (show bitsR opXor (bts u) (bts v) p = ([], 1) by unfold bitsR guardR; rw [hv0, hv1, decide_eq_false h32, decide_eq_false hm]; simp)
          clear hv0 hv1 hp9
          go_enter Tryd.func83, Tryd.ntmps83
          go_wp2_with (first
            | (go_at_call 32; (with_reducible refine Calls.mono (KVu _).out ?_); rintro e w1 ⟨rfl, rfl⟩)
            | (go_at_call 32; (with_reducible refine Calls.mono (KVv _).out ?_); rintro e w1 ⟨rfl, rfl⟩))
          refine bodyPost_ret (v := .agg #[.string ⟨#[]⟩, .int .i64 1]) (by simp [results, Tryd.results83, go_sem]) rfl ?_
          exact givesA HR.out rfl ((Below.refl _ w).alloc (Nat.le_refl _) _)
set_option maxHeartbeats 4000000 in
theorem RBitsXor_any (u v : ByteArray) (p : Int) (w : World) (hsu : u.size ≤ maxLen) (hsv : v.size ≤ maxLen) (hp9 : p ≤ 9223372036854775807) :
    Calls Tryd.prog 83 #[.int .i64 2, .string u, .string v, .int .i64 p] w (GivesA w (bitsR opXor (bts u) (bts v) p)) := by
  by_cases hle : v.size ≤ u.size
  · exact RBitsXor_le u v p w hsu hsv hp9 hle
  · have KS := fun W => RBitsXor_le v u p W hsv hsu hp9 (by omega)
    rw [bitsR_comm opXor_comm (bts v)] at KS
    obtain ⟨⟨rl, rk⟩, hrr⟩ : ∃ r, bitsR opXor (bts u) (bts v) p = r := ⟨_, rfl⟩
    rw [hrr] at KS
    have HRR := Lib.hid hrr
    have HKS := fun W => Lib.hid (KS W)
    clear KS
    have KVu := fun (W : World) => Lib.hid (RValid_any u W hsu)
    have KVv := fun (W : World) => Lib.hid (RValid_any v W hsv)
    cases hv0 : validL (bts u) with
    | false =>
      rw [hv0] at KVu
      have HR := Lib.hid (show bitsR opXor (bts u) (bts v) p = ([], 1) by unfold bitsR guardR; simp only [hv0, Bool.and_false, Bool.false_and, Bool.true_and, Bool.and_true]; rfl)
      clear hv0
      go_enter Tryd.func83, Tryd.ntmps83
      go_wp2_with (first
        | (go_at_call 32; (with_reducible refine Calls.mono (KVu _).out ?_); rintro e w1 ⟨rfl, rfl⟩))
      refine bodyPost_ret (v := .agg #[.string ⟨#[]⟩, .int .i64 1]) (by simp [results, Tryd.results83, go_sem]) rfl ?_
      exact givesA HR.out rfl ((Below.refl _ w).alloc (Nat.le_refl _) _)
    | true =>
      rw [hv0] at KVu
      cases hv1 : validL (bts v) with
      | false =>
        rw [hv1] at KVv
        have HR := Lib.hid (show bitsR opXor (bts u) (bts v) p = ([], 1) by unfold bitsR guardR; simp only [hv0, hv1, Bool.and_false, Bool.false_and, Bool.true_and, Bool.and_true]; rfl)
        clear hv0 hv1
        go_enter Tryd.func83, Tryd.ntmps83
        go_wp2_with (first
          | (go_at_call 32; (with_reducible refine Calls.mono (KVu _).out ?_); rintro e w1 ⟨rfl, rfl⟩)
          | (go_at_call 32; (with_reducible refine Calls.mono (KVv _).out ?_); rintro e w1 ⟨rfl, rfl⟩))
        refine bodyPost_ret (v := .agg #[.string ⟨#[]⟩, .int .i64 1]) (by simp [results, Tryd.results83, go_sem]) rfl ?_
        exact givesA HR.out rfl ((Below.refl _ w).alloc (Nat.le_refl _) _)
      | true =>
        rw [hv1] at KVv
        clear hsu hsv
        by_cases hm : p = -1
        · subst hm
          clear hv0 hv1 hp9 hrr
          go_enter Tryd.func83, Tryd.ntmps83
          go_wp2_with (first
            | (go_at_call 32; (with_reducible refine Calls.mono (KVu _).out ?_); rintro e w1 ⟨rfl, rfl⟩)
            | (go_at_call 32; (with_reducible refine Calls.mono (KVv _).out ?_); rintro e w1 ⟨rfl, rfl⟩)
            | (go_at_call 83; refine Calls.mono (HKS _).out ?_; rintro e w8 ⟨t, rfl, ht, hb5⟩; have HB5 := Lib.hid ((sbB_new w).step hb5); obtain ⟨p1, p2, f1, f2⟩ := HB5.out.facts; clear hb5))
          refine bodyPost_ret (v := .agg #[.string t, .int .i64 rk]) (by simp [results, Tryd.results83, go_sem, p1, p2]) rfl ?_
          rw [HRR.out]
          exact ⟨t, rfl, ht, HB5.out.fin _ _⟩
        · have hmb : (p == -1) = false := by simpa using hm
          by_cases h32 : 32 ≤ p
          · by_cases h126 : p ≤ 126
            · clear hv0 hv1 hp9 hrr hm
              go_enter Tryd.func83, Tryd.ntmps83
              go_wp2_with (first
                | (go_at_call 32; (with_reducible refine Calls.mono (KVu _).out ?_); rintro e w1 ⟨rfl, rfl⟩)
                | (go_at_call 32; (with_reducible refine Calls.mono (KVv _).out ?_); rintro e w1 ⟨rfl, rfl⟩)
                | (go_at_call 83; refine Calls.mono (HKS _).out ?_; rintro e w8 ⟨t, rfl, ht, hb5⟩; have HB5 := Lib.hid ((sbB_new w).step hb5); obtain ⟨p1, p2, f1, f2⟩ := HB5.out.facts; clear hb5))
              refine bodyPost_ret (v := .agg #[.string t, .int .i64 rk]) (by simp [results, Tryd.results83, go_sem, p1, p2]) rfl ?_
              rw [HRR.out]
              exact ⟨t, rfl, ht, HB5.out.fin _ _⟩
            · have HR := Lib.hid (show (rl, rk) = (([] : List UInt8), (1 : Int)) by rw [← hrr]; unfold bitsR guardR; rw [hv0, hv1, decide_eq_false h126]; simp)
              clear hv0 hv1 hp9 hm hrr
              go_enter Tryd.func83, Tryd.ntmps83
              go_wp2_with (first
                | (go_at_call 32; (with_reducible refine Calls.mono (KVu _).out ?_); rintro e w1 ⟨rfl, rfl⟩)
                | (go_at_call 32; (with_reducible refine Calls.mono (KVv _).out ?_); rintro e w1 ⟨rfl, rfl⟩))
              refine bodyPost_ret (v := .agg #[.string ⟨#[]⟩, .int .i64 1]) (by simp [results, Tryd.results83, go_sem]) rfl ?_
              rw [HRR.out]
              exact givesA HR.out rfl ((Below.refl _ w).alloc (Nat.le_refl _) _)
          · have HR := Lib.hid (show (rl, rk) = (([] : List UInt8), (1 : Int)) by rw [← hrr]; unfold bitsR guardR; rw [hv0, hv1, decide_eq_false h32, decide_eq_false hm]; simp)
            clear hv0 hv1 hp9 hrr
            go_enter Tryd.func83, Tryd.ntmps83
            go_wp2_with (first
              | (go_at_call 32; (with_reducible refine Calls.mono (KVu _).out ?_); rintro e w1 ⟨rfl, rfl⟩)
              | (go_at_call 32; (with_reducible refine Calls.mono (KVv _).out ?_); rintro e w1 ⟨rfl, rfl⟩))
            refine bodyPost_ret (v := .agg #[.string ⟨#[]⟩, .int .i64 1]) (by simp [results, Tryd.results83, go_sem]) rfl ?_
            rw [HRR.out]
            exact givesA HR.out rfl ((Below.refl _ w).alloc (Nat.le_refl _) _)
end Go.Proofs.YtoilgjlbpimcpaaDoor
