/- TextOccurs, as a call. -/
import Derived.Test.YtoilgjlbpimcpaaDoorOa
import Derived.Test.YtoilgjlbpimcpaaDoorRf
import Derived.Test.YtoilgjlbpimcpaaDoorRb
import Derived.Test.YtoilgjlbpimcpaaDoorZj
namespace Go.Proofs.YtoilgjlbpimcpaaDoor
open Go.RowKit Go.Shelf Tx
set_option linter.unusedVariables false
set_option maxRecDepth 100000

set_option maxHeartbeats 2000000 in
theorem stands_any (p s : ByteArray) (i : Nat) (w : World) (hp : p.size ≤ 1000) (hs : s.size ≤ 1000) (hi : i ≤ 2000) :
    Calls Tryd.prog 92 #[.string p, .string s, .int .i64 ((i : Int) + 1)] w fun e w' => e = .returned (.bool (atB (bts s) (bts p) i)) ∧ w = w' := by
  have hw1 : IntKind.i64.wrap ((i : Int) + 1 - 1) = (i : Int) := by rw [show (i : Int) + 1 - 1 = (i : Int) by omega]; exact IntWalk.i64_in _ (by omega)
  have hw2 : IntKind.i64.wrap ((i : Int)) = (i : Int) := IntWalk.i64_in _ (by omega)
  have hw : IntKind.i64.wrap ((i : Int) + (p.size : Int)) = (i : Int) + (p.size : Int) := IntWalk.i64_in _ (by omega)
  have h1 : (1 : Int) ≤ (i : Int) + 1 := by omega
  by_cases h : i + p.size ≤ s.size
  · have hI : (i : Int) + (p.size : Int) ≤ (s.size : Int) := by omega
    have hI0 : (0 : Int) ≤ (i : Int) + (p.size : Int) := by omega
    have hI1 : (i : Int) ≤ (i : Int) + (p.size : Int) := by omega
    have ht : ((i : Int) + (p.size : Int)).toNat = i + p.size := by omega
    have hx : bts (s.extract i (i + p.size)) = ((bts s).drop i).take p.size := by rw [bts_extract, Nat.add_sub_cancel_left]
    by_cases he : ((bts s).drop i).take p.size = bts p
    · have HR := Lib.hid (show atB (bts s) (bts p) i = true by unfold atB; rw [bts_length, bts_length, he]; simp [h])
      have heq : (s.extract i (i + p.size)).toList = p.toList := by rw [toList_bts, toList_bts, hx, he]
      clear he hx
      go_enter Tryd.func92, Tryd.ntmps92
      go_wp2
      go_ret
      exact ⟨ret_b (by rw [HR.out]; first | done | simp [heq]), rfl⟩
    · have HR := Lib.hid (show atB (bts s) (bts p) i = false by unfold atB; rw [bts_length, bts_length]; simp [he])
      have heq : ¬ (s.extract i (i + p.size)).toList = p.toList := by rw [toList_bts, toList_bts, hx]; exact he
      clear he hx
      go_enter Tryd.func92, Tryd.ntmps92
      go_wp2
      go_ret
      exact ⟨ret_b (by rw [HR.out]; first | done | simp [heq]), rfl⟩
  · have HR := Lib.hid (show atB (bts s) (bts p) i = false by unfold atB; rw [bts_length, bts_length]; simp [h])
    have hI : ¬ (i : Int) + (p.size : Int) ≤ (s.size : Int) := by omega
    clear h
    go_enter Tryd.func92, Tryd.ntmps92
    go_wp2
    go_ret
    exact ⟨ret_b (by rw [HR.out]), rfl⟩
theorem Tx.valid_rev {l : List UInt8} (h : validL l = true) : validL l.reverse = true := by
  rw [valid_iff] at h ⊢
  rw [List.length_reverse]
  exact ⟨h.1, fun c hc => h.2 c (List.mem_reverse.1 hc)⟩
theorem Tx.pos_from (p l : List UInt8) (a : Nat) : posB p l ((a : Int) + 1) = fromB p l (a : Int) + 1 := by unfold posB fromB; rw [show (a : Int) + 1 - 1 = (a : Int) by omega]
theorem str_ex' (l : List UInt8) : ∃ t : ByteArray, bts t = l := ⟨⟨l.toArray⟩, bts_mk l⟩
theorem givesS_to {w : World} {l : List UInt8} {k : Int} {r : Res} {t0 : ByteArray} (hr : r = (l, k)) (ht0 : bts t0 = l) {e : Ending} {w' : World} (h : GivesS w r e w') : e = .returned (.tuple #[.string t0, .int .i64 k]) ∧ Below w.heap.size w w' := by
  subst hr
  obtain ⟨t, rfl, ht, hb⟩ := h
  rw [show t = t0 by rw [bts_eq ht.out, bts_eq ht0]]
  exact ⟨rfl, hb⟩
set_option maxHeartbeats 8000000 in
theorem TextOccurs_nat (p s u : ByteArray) (c : Nat) (w : World) (hsp : p.size ≤ maxLen) (hss : s.size ≤ maxLen) (hsu : u.size ≤ maxLen) (hc : c ≤ 255) :
    Calls Tryd.prog 13 #[.string p, .string s, .string u, .int .u8 (c : Int)] w fun e w' => e = .returned (.bool true) ∧ Below w.heap.size w w' := by
  have KH := fun W => Lib.hid (head_any W)
  have KVp := fun W => Lib.hid (Valid_any p W hsp)
  have KVs := fun W => Lib.hid (Valid_any s W hss)
  have KVu := fun W => Lib.hid (Valid_any u W hsu)
  cases hv0 : validL (bts p) with
  | false =>
    rw [hv0] at KVp
    clear hv0
    go_enter Tryd.func13, Tryd.ntmps13
    go_wp2_with (first
      | (go_at_call 16; refine Calls.mono (KH _).out ?_; rintro e w1 ⟨rfl, hb0⟩)
      | (go_at_call 31; (with_reducible refine Calls.mono (KVp _).out ?_); rintro e w1 ⟨rfl, hb1⟩))
    go_ret
    exact ⟨by first | rfl | simp, (by repeat (first | assumption | refine Bl.step ?_ (by assumption)))⟩
  | true =>
    rw [hv0] at KVp
    cases hv1 : validL (bts s) with
    | false =>
      rw [hv1] at KVs
      clear hv0 hv1
      go_enter Tryd.func13, Tryd.ntmps13
      go_wp2_with (first
        | (go_at_call 16; refine Calls.mono (KH _).out ?_; rintro e w1 ⟨rfl, hb0⟩)
        | (go_at_call 31; (with_reducible refine Calls.mono (KVp _).out ?_); rintro e w1 ⟨rfl, hb1⟩)
        | (go_at_call 31; (with_reducible refine Calls.mono (KVs _).out ?_); rintro e w1 ⟨rfl, hb2⟩))
      go_ret
      exact ⟨by first | rfl | simp, (by repeat (first | assumption | refine Bl.step ?_ (by assumption)))⟩
    | true =>
      rw [hv1] at KVs
      cases hv2 : validL (bts u) with
      | false =>
        rw [hv2] at KVu
        clear hv0 hv1 hv2
        go_enter Tryd.func13, Tryd.ntmps13
        go_wp2_with (first
          | (go_at_call 16; refine Calls.mono (KH _).out ?_; rintro e w1 ⟨rfl, hb0⟩)
          | (go_at_call 31; (with_reducible refine Calls.mono (KVp _).out ?_); rintro e w1 ⟨rfl, hb1⟩)
          | (go_at_call 31; (with_reducible refine Calls.mono (KVs _).out ?_); rintro e w1 ⟨rfl, hb2⟩)
          | (go_at_call 31; (with_reducible refine Calls.mono (KVu _).out ?_); rintro e w1 ⟨rfl, hb3⟩))
        go_ret
        exact ⟨by first | rfl | simp, (by repeat (first | assumption | refine Bl.step ?_ (by assumption)))⟩
      | true =>
        rw [hv2] at KVu
        have hlen := valid_le hv0
        have hlen2 := valid_le hv1
        have hlen3 := valid_le hv2
        obtain ⟨rp, hrp⟩ := str_ex' (bts p).reverse
        obtain ⟨rs, hrs⟩ := str_ex' (bts s).reverse
        have zrp : rp.size ≤ 1000 := by have := size_of_bts hrp; rw [List.length_reverse, bts_length] at this; omega
        have zrs : rs.size ≤ 1000 := by have := size_of_bts hrs; rw [List.length_reverse, bts_length] at this; omega
        have KRP := fun W => Lib.hid ((Reverse_any p W hsp).mono (fun e w' h => givesS_to (show reverseR (bts p) = ((bts p).reverse, 0) from reverse_once hv0) hrp h))
        have KRS := fun W => Lib.hid ((Reverse_any s W hss).mono (fun e w' h => givesS_to (show reverseR (bts s) = ((bts s).reverse, 0) from reverse_once hv1) hrs h))
        obtain ⟨q, hq0⟩ : ∃ q, q = posB (bts p).reverse (bts s).reverse 1 := ⟨_, rfl⟩
        have KQ := fun W => Lib.hid ((Pos_any rp rs 1 W (by unfold maxLen; omega) (by unfold maxLen; omega) (by omega)).mono (fun e w' h => givesN_at (show posR (bts rp) (bts rs) 1 = (q, 0) by unfold posR guardN; rw [hrp, hrs, valid_rev hv0, valid_rev hv1, hq0]; rfl) h))
        have hqb : 0 ≤ q ∧ q ≤ 1000001 := by
          have := firstIn_ge (bts p).reverse (bts s).reverse (run (1 - 1) 1 (((bts s).reverse.length : Int) - (bts p).reverse.length + 1 - (1 - 1)).toNat) (fun x hx => by obtain ⟨i, hi, rfl⟩ := mem_run hx; rw [List.length_reverse, List.length_reverse, bts_length, bts_length] at hi; omega)
          rw [hq0]; unfold posB; omega
        obtain ⟨lb, hlb0⟩ : ∃ lb, lb = lastB (bts p) (bts s) := ⟨_, rfl⟩
        have HLB := Lib.hid (show lb = if q = 0 then 0 else (s.size : Int) - p.size + 2 - q by rw [hlb0, last_rev, ← hq0, bts_length, bts_length])
        have KL := fun W => Lib.hid ((LastPos_any p s (-1) W hsp hss (by omega)).mono (fun e w' h => givesN_at (show lastPosR (bts p) (bts s) (-1) = (lb, 0) by unfold lastPosR guardN; rw [hv0, hv1, hlb0]; rfl) h))
        obtain ⟨n, hn0⟩ : ∃ n, n = (occs (bts p) (bts s)).length := ⟨_, rfl⟩
        have hn1 : n ≤ 1001 := by rw [hn0]; exact Nat.le_trans (occs_len _ _) (by rw [bts_length]; omega)
        have KC := fun W => Lib.hid ((Count_any p s W hsp hss).mono (fun e w' h => givesN_at (show countR (bts p) (bts s) = ((n : Int), 0) by unfold countR guardN; rw [hv0, hv1, hn0]; rfl) h))
        have KX := fun W => Lib.hid ((Change_any p s p W hsp hss hsp).mono (fun e w' h => givesS_to (show changeR (bts p) (bts s) (bts p) = (bts s, 0) by unfold changeR guardR; rw [hv0, hv1, changed_same, outR_ok (valid_clean hv1) (by rw [bts_length]; omega)]; rfl) rfl h))
        obtain ⟨y, hy⟩ := str_ex' (changedL (bts p) (bts s) (bts u))
        obtain ⟨Z, hZ⟩ : ∃ Z : Int, Z = (s.size : Int) + n * ((u.size : Int) - p.size) := ⟨_, rfl⟩
        have hyz : ((changedL (bts p) (bts s) (bts u)).length : Int) = Z := by rw [changed_len, hZ, hn0, bts_length, bts_length, bts_length]
        have HYS := Lib.hid (show ¬ 1000 < Z → (y.size : Int) = Z from fun _ => by rw [← hyz, size_of_bts hy])
        have KYB := fun (hb : 1000 < Z) W => (Change_any p s u W hsp hss hsu).mono (fun e w' h => givesS_to (t0 := ⟨#[]⟩) (show changeR (bts p) (bts s) (bts u) = ([], 3) by unfold changeR guardR; rw [hv0, hv1, hv2, outR_long (by omega)]; rfl) rfl h)
        have KYS := fun (hb : ¬ 1000 < Z) W => (Change_any p s u W hsp hss hsu).mono (fun e w' h => givesS_to (show changeR (bts p) (bts s) (bts u) = (changedL (bts p) (bts s) (bts u), 0) by unfold changeR guardR; rw [hv0, hv1, hv2, outR_ok (show cleanL (changedL (bts p) (bts s) (bts u)) = true from clean_chZ (valid_clean hv1) (valid_clean hv2) _ _ _) (by omega)]; rfl) hy h)
        obtain ⟨E, hE⟩ : ∃ E : Int, E = (n : Int) * ((u.size : Int) - p.size) := ⟨_, rfl⟩
        have hEb : -1001000 ≤ E ∧ E ≤ 1001000 := by
          have h1 : (n : Int) * ((u.size : Int) - p.size) = ((n * u.size : Nat) : Int) - ((n * p.size : Nat) : Int) := by rw [Int.mul_sub, Int.natCast_mul, Int.natCast_mul]
          have h2 : n * u.size ≤ 1001 * 1000 := Nat.mul_le_mul hn1 hlen3
          have h3 : n * p.size ≤ 1001 * 1000 := Nat.mul_le_mul hn1 hlen
          rw [hE, h1]; omega
        rw [← hE] at hZ
        have hwd : IntKind.i64.wrap ((u.size : Int) - (p.size : Int)) = (u.size : Int) - (p.size : Int) := IntWalk.i64_in _ (by omega)
        have hwm : IntKind.i64.wrap ((n : Int) * ((u.size : Int) - (p.size : Int))) = E := by rw [← hE]; exact IntWalk.i64_in _ (by omega)
        have hws : IntKind.i64.wrap ((s.size : Int) + E) = Z := by rw [← hZ]; exact IntWalk.i64_in _ (by omega)
        have hwa : IntKind.i64.wrap ((s.size : Int) - (p.size : Int)) = (s.size : Int) - (p.size : Int) := IntWalk.i64_in _ (by omega)
        have hwb : IntKind.i64.wrap ((s.size : Int) - (p.size : Int) + 2) = (s.size : Int) - (p.size : Int) + 2 := IntWalk.i64_in _ (by omega)
        have hwc : IntKind.i64.wrap ((s.size : Int) - (p.size : Int) + 2 - q) = (s.size : Int) - (p.size : Int) + 2 - q := IntWalk.i64_in _ (by omega)
        have hwst : IntKind.i64.wrap ((c : Int) + 1) = (c : Int) + 1 := IntWalk.i64_in _ (by omega)
        have KPR := fun (x : Int) (hx : fromB (bts p) (bts s) (c : Int) = x) W => (Pos_any p s ((c : Int) + 1) W hsp hss (by omega)).mono (fun e w' h => givesN_at (show posR (bts p) (bts s) ((c : Int) + 1) = (x + 1, 0) by unfold posR guardN; rw [hv0, hv1, decide_eq_true (show (1 : Int) ≤ (c : Int) + 1 by omega), pos_from, hx]; rfl) h)
        have HFS := from_specs (bts p) (bts s) c
        have KST0 := fun (i : Nat) (hi : i ≤ 2000) (b : Bool) (hb : atB (bts s) (bts p) i = b) W => Lib.hid (show Calls Tryd.prog 92 #[.string p, .string s, .int .i64 ((i : Int) + 1)] W fun e w' => e = .returned (.bool b) ∧ W = w' by rw [← hb]; exact stands_any p s i W hlen hlen2 hi)
        clear hv0 hv1 hv2 hrp hrs hq0 hlb0 hn0 hy hyz hE hZ hn1 hEb zrp zrs hsp hss hsu
        by_cases hpe : p.size = 0
        · have hpn : bts p = [] := List.eq_nil_of_length_eq_zero (by rw [bts_length]; exact hpe)
          have hf : fromB (bts p) (bts s) (c : Int) = -1 := from_nil hpn
          have KP := fun W => Lib.hid (show Calls Tryd.prog 41 #[.string p, .string s, .int .i64 ((c : Int) + 1)] W fun e w' => e = .returned (.tuple #[.int .i64 0, .int .i64 0]) ∧ Below W.heap.size W w' from KPR (-1) hf W)
          have hte : p.toList = [] := toList_nil hpe
          have hte2 : p.toList.isEmpty = true := by rw [hte]; rfl
          have hte3 : (!p.toList.isEmpty) = false := by rw [hte]; rfl
          clear hf HFS KPR hpn KST0 hpe
          go_enter Tryd.func13, Tryd.ntmps13
          go_wp2_with (first
            | (go_at_call 16; refine Calls.mono (KH _).out ?_; rintro e w1 ⟨rfl, hb0⟩)
            | (go_at_call 31; (with_reducible refine Calls.mono (KVp _).out ?_); rintro e w1 ⟨rfl, hb1⟩)
            | (go_at_call 31; (with_reducible refine Calls.mono (KVs _).out ?_); rintro e w1 ⟨rfl, hb2⟩)
            | (go_at_call 31; (with_reducible refine Calls.mono (KVu _).out ?_); rintro e w1 ⟨rfl, hb3⟩)
            | (go_at_call 41; (with_reducible refine Calls.mono (KP _).out ?_); rintro e w1 ⟨rfl, hb4⟩))
          go_loop [14] (fun v => v = .int .i64 ((c : Int) + 1)) (fun _ => 0)
          case atStart => rfl
          case round =>
            subst hrel
            by_cases hcs : (c : Int) + 1 ≤ (s.size : Int)
            · skip
              by_cases hq : q = 0
              · have hlb := HLB.out
                rw [if_pos hq] at hlb
                subst hq
                subst hlb
                by_cases hbig : 1000 < Z
                · have KY := fun W => Lib.hid (KYB (by omega) W)
                  have hz1 : ¬ Z ≤ 1000 := by omega
                  have hz2 : decide (Z ≤ 1000) = false := decide_eq_false hz1
                  go_wp2_with (first
                    | (go_at_call 22; (with_reducible refine Calls.mono (KRP _).out ?_); rintro e w1 ⟨rfl, hb5⟩)
                    | (go_at_call 22; (with_reducible refine Calls.mono (KRS _).out ?_); rintro e w1 ⟨rfl, hb6⟩)
                    | (go_at_call 41; (with_reducible refine Calls.mono (KQ _).out ?_); rintro e w1 ⟨rfl, hb7⟩)
                    | (go_at_call 42; (with_reducible refine Calls.mono (KL _).out ?_); rintro e w1 ⟨rfl, hb8⟩)
                    | (go_at_call 43; (with_reducible refine Calls.mono (KC _).out ?_); rintro e w1 ⟨rfl, hb9⟩)
                    | (go_at_call 44; (with_reducible refine Calls.mono (KX _).out ?_); rintro e w1 ⟨rfl, hb10⟩)
                    | (go_at_call 44; (with_reducible refine Calls.mono (KY _).out ?_); rintro e w1 ⟨rfl, hb11⟩))
                  go_ret
                  exact ⟨by first | rfl | simp, (by repeat (first | assumption | refine Bl.step ?_ (by assumption)))⟩
                · have KY := fun W => Lib.hid (KYS (by omega) W)
                  have hz1 : Z ≤ 1000 := by omega
                  have hz2 : decide (Z ≤ 1000) = true := decide_eq_true hz1
                  have hys := HYS.out (by omega)
                  go_wp2_with (first
                    | (go_at_call 22; (with_reducible refine Calls.mono (KRP _).out ?_); rintro e w1 ⟨rfl, hb5⟩)
                    | (go_at_call 22; (with_reducible refine Calls.mono (KRS _).out ?_); rintro e w1 ⟨rfl, hb6⟩)
                    | (go_at_call 41; (with_reducible refine Calls.mono (KQ _).out ?_); rintro e w1 ⟨rfl, hb7⟩)
                    | (go_at_call 42; (with_reducible refine Calls.mono (KL _).out ?_); rintro e w1 ⟨rfl, hb8⟩)
                    | (go_at_call 43; (with_reducible refine Calls.mono (KC _).out ?_); rintro e w1 ⟨rfl, hb9⟩)
                    | (go_at_call 44; (with_reducible refine Calls.mono (KX _).out ?_); rintro e w1 ⟨rfl, hb10⟩)
                    | (go_at_call 44; (with_reducible refine Calls.mono (KY _).out ?_); rintro e w1 ⟨rfl, hb11⟩))
                  go_ret
                  exact ⟨by first | rfl | simp, (by repeat (first | assumption | refine Bl.step ?_ (by assumption)))⟩
              · have hlb := HLB.out
                rw [if_neg hq] at hlb
                subst hlb
                have hqb : (q == 0) = false := by simpa using hq
                have hqd : decide (q = 0) = false := decide_eq_false hq
                by_cases hbig : 1000 < Z
                · have KY := fun W => Lib.hid (KYB (by omega) W)
                  have hz1 : ¬ Z ≤ 1000 := by omega
                  have hz2 : decide (Z ≤ 1000) = false := decide_eq_false hz1
                  go_wp2_with (first
                    | (go_at_call 22; (with_reducible refine Calls.mono (KRP _).out ?_); rintro e w1 ⟨rfl, hb5⟩)
                    | (go_at_call 22; (with_reducible refine Calls.mono (KRS _).out ?_); rintro e w1 ⟨rfl, hb6⟩)
                    | (go_at_call 41; (with_reducible refine Calls.mono (KQ _).out ?_); rintro e w1 ⟨rfl, hb7⟩)
                    | (go_at_call 42; (with_reducible refine Calls.mono (KL _).out ?_); rintro e w1 ⟨rfl, hb8⟩)
                    | (go_at_call 43; (with_reducible refine Calls.mono (KC _).out ?_); rintro e w1 ⟨rfl, hb9⟩)
                    | (go_at_call 44; (with_reducible refine Calls.mono (KX _).out ?_); rintro e w1 ⟨rfl, hb10⟩)
                    | (go_at_call 44; (with_reducible refine Calls.mono (KY _).out ?_); rintro e w1 ⟨rfl, hb11⟩))
                  go_ret
                  exact ⟨by first | rfl | simp, (by repeat (first | assumption | refine Bl.step ?_ (by assumption)))⟩
                · have KY := fun W => Lib.hid (KYS (by omega) W)
                  have hz1 : Z ≤ 1000 := by omega
                  have hz2 : decide (Z ≤ 1000) = true := decide_eq_true hz1
                  have hys := HYS.out (by omega)
                  go_wp2_with (first
                    | (go_at_call 22; (with_reducible refine Calls.mono (KRP _).out ?_); rintro e w1 ⟨rfl, hb5⟩)
                    | (go_at_call 22; (with_reducible refine Calls.mono (KRS _).out ?_); rintro e w1 ⟨rfl, hb6⟩)
                    | (go_at_call 41; (with_reducible refine Calls.mono (KQ _).out ?_); rintro e w1 ⟨rfl, hb7⟩)
                    | (go_at_call 42; (with_reducible refine Calls.mono (KL _).out ?_); rintro e w1 ⟨rfl, hb8⟩)
                    | (go_at_call 43; (with_reducible refine Calls.mono (KC _).out ?_); rintro e w1 ⟨rfl, hb9⟩)
                    | (go_at_call 44; (with_reducible refine Calls.mono (KX _).out ?_); rintro e w1 ⟨rfl, hb10⟩)
                    | (go_at_call 44; (with_reducible refine Calls.mono (KY _).out ?_); rintro e w1 ⟨rfl, hb11⟩))
                  go_ret
                  exact ⟨by first | rfl | simp, (by repeat (first | assumption | refine Bl.step ?_ (by assumption)))⟩
            · skip
              by_cases hq : q = 0
              · have hlb := HLB.out
                rw [if_pos hq] at hlb
                subst hq
                subst hlb
                by_cases hbig : 1000 < Z
                · have KY := fun W => Lib.hid (KYB (by omega) W)
                  have hz1 : ¬ Z ≤ 1000 := by omega
                  have hz2 : decide (Z ≤ 1000) = false := decide_eq_false hz1
                  go_wp2_with (first
                    | (go_at_call 22; (with_reducible refine Calls.mono (KRP _).out ?_); rintro e w1 ⟨rfl, hb5⟩)
                    | (go_at_call 22; (with_reducible refine Calls.mono (KRS _).out ?_); rintro e w1 ⟨rfl, hb6⟩)
                    | (go_at_call 41; (with_reducible refine Calls.mono (KQ _).out ?_); rintro e w1 ⟨rfl, hb7⟩)
                    | (go_at_call 42; (with_reducible refine Calls.mono (KL _).out ?_); rintro e w1 ⟨rfl, hb8⟩)
                    | (go_at_call 43; (with_reducible refine Calls.mono (KC _).out ?_); rintro e w1 ⟨rfl, hb9⟩)
                    | (go_at_call 44; (with_reducible refine Calls.mono (KX _).out ?_); rintro e w1 ⟨rfl, hb10⟩)
                    | (go_at_call 44; (with_reducible refine Calls.mono (KY _).out ?_); rintro e w1 ⟨rfl, hb11⟩))
                  go_ret
                  exact ⟨by first | rfl | simp, (by repeat (first | assumption | refine Bl.step ?_ (by assumption)))⟩
                · have KY := fun W => Lib.hid (KYS (by omega) W)
                  have hz1 : Z ≤ 1000 := by omega
                  have hz2 : decide (Z ≤ 1000) = true := decide_eq_true hz1
                  have hys := HYS.out (by omega)
                  go_wp2_with (first
                    | (go_at_call 22; (with_reducible refine Calls.mono (KRP _).out ?_); rintro e w1 ⟨rfl, hb5⟩)
                    | (go_at_call 22; (with_reducible refine Calls.mono (KRS _).out ?_); rintro e w1 ⟨rfl, hb6⟩)
                    | (go_at_call 41; (with_reducible refine Calls.mono (KQ _).out ?_); rintro e w1 ⟨rfl, hb7⟩)
                    | (go_at_call 42; (with_reducible refine Calls.mono (KL _).out ?_); rintro e w1 ⟨rfl, hb8⟩)
                    | (go_at_call 43; (with_reducible refine Calls.mono (KC _).out ?_); rintro e w1 ⟨rfl, hb9⟩)
                    | (go_at_call 44; (with_reducible refine Calls.mono (KX _).out ?_); rintro e w1 ⟨rfl, hb10⟩)
                    | (go_at_call 44; (with_reducible refine Calls.mono (KY _).out ?_); rintro e w1 ⟨rfl, hb11⟩))
                  go_ret
                  exact ⟨by first | rfl | simp, (by repeat (first | assumption | refine Bl.step ?_ (by assumption)))⟩
              · have hlb := HLB.out
                rw [if_neg hq] at hlb
                subst hlb
                have hqb : (q == 0) = false := by simpa using hq
                have hqd : decide (q = 0) = false := decide_eq_false hq
                by_cases hbig : 1000 < Z
                · have KY := fun W => Lib.hid (KYB (by omega) W)
                  have hz1 : ¬ Z ≤ 1000 := by omega
                  have hz2 : decide (Z ≤ 1000) = false := decide_eq_false hz1
                  go_wp2_with (first
                    | (go_at_call 22; (with_reducible refine Calls.mono (KRP _).out ?_); rintro e w1 ⟨rfl, hb5⟩)
                    | (go_at_call 22; (with_reducible refine Calls.mono (KRS _).out ?_); rintro e w1 ⟨rfl, hb6⟩)
                    | (go_at_call 41; (with_reducible refine Calls.mono (KQ _).out ?_); rintro e w1 ⟨rfl, hb7⟩)
                    | (go_at_call 42; (with_reducible refine Calls.mono (KL _).out ?_); rintro e w1 ⟨rfl, hb8⟩)
                    | (go_at_call 43; (with_reducible refine Calls.mono (KC _).out ?_); rintro e w1 ⟨rfl, hb9⟩)
                    | (go_at_call 44; (with_reducible refine Calls.mono (KX _).out ?_); rintro e w1 ⟨rfl, hb10⟩)
                    | (go_at_call 44; (with_reducible refine Calls.mono (KY _).out ?_); rintro e w1 ⟨rfl, hb11⟩))
                  go_ret
                  exact ⟨by first | rfl | simp, (by repeat (first | assumption | refine Bl.step ?_ (by assumption)))⟩
                · have KY := fun W => Lib.hid (KYS (by omega) W)
                  have hz1 : Z ≤ 1000 := by omega
                  have hz2 : decide (Z ≤ 1000) = true := decide_eq_true hz1
                  have hys := HYS.out (by omega)
                  go_wp2_with (first
                    | (go_at_call 22; (with_reducible refine Calls.mono (KRP _).out ?_); rintro e w1 ⟨rfl, hb5⟩)
                    | (go_at_call 22; (with_reducible refine Calls.mono (KRS _).out ?_); rintro e w1 ⟨rfl, hb6⟩)
                    | (go_at_call 41; (with_reducible refine Calls.mono (KQ _).out ?_); rintro e w1 ⟨rfl, hb7⟩)
                    | (go_at_call 42; (with_reducible refine Calls.mono (KL _).out ?_); rintro e w1 ⟨rfl, hb8⟩)
                    | (go_at_call 43; (with_reducible refine Calls.mono (KC _).out ?_); rintro e w1 ⟨rfl, hb9⟩)
                    | (go_at_call 44; (with_reducible refine Calls.mono (KX _).out ?_); rintro e w1 ⟨rfl, hb10⟩)
                    | (go_at_call 44; (with_reducible refine Calls.mono (KY _).out ?_); rintro e w1 ⟨rfl, hb11⟩))
                  go_ret
                  exact ⟨by first | rfl | simp, (by repeat (first | assumption | refine Bl.step ?_ (by assumption)))⟩
        · have hpn : bts p ≠ [] := by intro e; have := bts_length p; rw [e] at this; simp at this; omega
          have hne : p.toList ≠ [] := by rw [toList_bts]; exact hpn
          have hte2 : p.toList.isEmpty = false := by simpa using hne
          have hte3 : (!p.toList.isEmpty) = true := by simpa using hne
          rcases HFS with ⟨hf, hno⟩ | ⟨z, hf, hcz, _, hat, hno⟩
          · have KP := fun W => Lib.hid (show Calls Tryd.prog 41 #[.string p, .string s, .int .i64 ((c : Int) + 1)] W fun e w' => e = .returned (.tuple #[.int .i64 0, .int .i64 0]) ∧ Below W.heap.size W w' from KPR (-1) hf W)
            have KST1 := Lib.hid (fun (i : Nat) (hi : i ≤ 2000) (hc : c ≤ i) => KST0 i hi false (hno hpn i hc))
            clear hf KPR KST0 hno hpn hne
            go_enter Tryd.func13, Tryd.ntmps13
            go_wp2_with (first
              | (go_at_call 16; refine Calls.mono (KH _).out ?_; rintro e w1 ⟨rfl, hb0⟩)
              | (go_at_call 31; (with_reducible refine Calls.mono (KVp _).out ?_); rintro e w1 ⟨rfl, hb1⟩)
              | (go_at_call 31; (with_reducible refine Calls.mono (KVs _).out ?_); rintro e w1 ⟨rfl, hb2⟩)
              | (go_at_call 31; (with_reducible refine Calls.mono (KVu _).out ?_); rintro e w1 ⟨rfl, hb3⟩)
              | (go_at_call 41; (with_reducible refine Calls.mono (KP _).out ?_); rintro e w1 ⟨rfl, hb4⟩))
            go_loop [14] (fun v => ∃ i : Nat, v = .int .i64 ((i : Int) + 1) ∧ c ≤ i ∧ (i ≤ s.size ∨ i = c)) (fun v => s.size + 2 - (intOf v).toNat)
            case atStart => exact ⟨c, rfl, Nat.le_refl _, .inr rfl⟩
            case round =>
              obtain ⟨i, rfl, hci, hi⟩ := hrel
              by_cases hlt : (i : Int) + 1 ≤ (s.size : Int)
              · have KST := fun (j : Int) (_ : (0:Int) = 0) W => KST1.out i (by omega) hci W
                have hwi : IntKind.i64.wrap ((i : Int) + 1 + 1) = (i : Int) + 1 + 1 := IntWalk.i64_in _ (by omega)
                clear hi
                go_wp2_with (go_at_call 92; (with_reducible refine Calls.mono (KST 0 rfl _).out ?_); rintro e w1 ⟨rfl, rfl⟩)
                go_round
                case rel => exact ⟨i + 1, by go_num, by omega, .inl (by omega)⟩
                case measure => simp [intOf]; omega
              · skip
                by_cases hq : q = 0
                · have hlb := HLB.out
                  rw [if_pos hq] at hlb
                  subst hq
                  subst hlb
                  by_cases hbig : 1000 < Z
                  · have KY := fun W => Lib.hid (KYB (by omega) W)
                    have hz1 : ¬ Z ≤ 1000 := by omega
                    have hz2 : decide (Z ≤ 1000) = false := decide_eq_false hz1
                    go_wp2_with (first
                      | (go_at_call 22; (with_reducible refine Calls.mono (KRP _).out ?_); rintro e w1 ⟨rfl, hb5⟩)
                      | (go_at_call 22; (with_reducible refine Calls.mono (KRS _).out ?_); rintro e w1 ⟨rfl, hb6⟩)
                      | (go_at_call 41; (with_reducible refine Calls.mono (KQ _).out ?_); rintro e w1 ⟨rfl, hb7⟩)
                      | (go_at_call 42; (with_reducible refine Calls.mono (KL _).out ?_); rintro e w1 ⟨rfl, hb8⟩)
                      | (go_at_call 43; (with_reducible refine Calls.mono (KC _).out ?_); rintro e w1 ⟨rfl, hb9⟩)
                      | (go_at_call 44; (with_reducible refine Calls.mono (KX _).out ?_); rintro e w1 ⟨rfl, hb10⟩)
                      | (go_at_call 44; (with_reducible refine Calls.mono (KY _).out ?_); rintro e w1 ⟨rfl, hb11⟩))
                    go_ret
                    exact ⟨by first | rfl | simp, (by repeat (first | assumption | refine Bl.step ?_ (by assumption)))⟩
                  · have KY := fun W => Lib.hid (KYS (by omega) W)
                    have hz1 : Z ≤ 1000 := by omega
                    have hz2 : decide (Z ≤ 1000) = true := decide_eq_true hz1
                    have hys := HYS.out (by omega)
                    go_wp2_with (first
                      | (go_at_call 22; (with_reducible refine Calls.mono (KRP _).out ?_); rintro e w1 ⟨rfl, hb5⟩)
                      | (go_at_call 22; (with_reducible refine Calls.mono (KRS _).out ?_); rintro e w1 ⟨rfl, hb6⟩)
                      | (go_at_call 41; (with_reducible refine Calls.mono (KQ _).out ?_); rintro e w1 ⟨rfl, hb7⟩)
                      | (go_at_call 42; (with_reducible refine Calls.mono (KL _).out ?_); rintro e w1 ⟨rfl, hb8⟩)
                      | (go_at_call 43; (with_reducible refine Calls.mono (KC _).out ?_); rintro e w1 ⟨rfl, hb9⟩)
                      | (go_at_call 44; (with_reducible refine Calls.mono (KX _).out ?_); rintro e w1 ⟨rfl, hb10⟩)
                      | (go_at_call 44; (with_reducible refine Calls.mono (KY _).out ?_); rintro e w1 ⟨rfl, hb11⟩))
                    go_ret
                    exact ⟨by first | rfl | simp, (by repeat (first | assumption | refine Bl.step ?_ (by assumption)))⟩
                · have hlb := HLB.out
                  rw [if_neg hq] at hlb
                  subst hlb
                  have hqb : (q == 0) = false := by simpa using hq
                  have hqd : decide (q = 0) = false := decide_eq_false hq
                  by_cases hbig : 1000 < Z
                  · have KY := fun W => Lib.hid (KYB (by omega) W)
                    have hz1 : ¬ Z ≤ 1000 := by omega
                    have hz2 : decide (Z ≤ 1000) = false := decide_eq_false hz1
                    go_wp2_with (first
                      | (go_at_call 22; (with_reducible refine Calls.mono (KRP _).out ?_); rintro e w1 ⟨rfl, hb5⟩)
                      | (go_at_call 22; (with_reducible refine Calls.mono (KRS _).out ?_); rintro e w1 ⟨rfl, hb6⟩)
                      | (go_at_call 41; (with_reducible refine Calls.mono (KQ _).out ?_); rintro e w1 ⟨rfl, hb7⟩)
                      | (go_at_call 42; (with_reducible refine Calls.mono (KL _).out ?_); rintro e w1 ⟨rfl, hb8⟩)
                      | (go_at_call 43; (with_reducible refine Calls.mono (KC _).out ?_); rintro e w1 ⟨rfl, hb9⟩)
                      | (go_at_call 44; (with_reducible refine Calls.mono (KX _).out ?_); rintro e w1 ⟨rfl, hb10⟩)
                      | (go_at_call 44; (with_reducible refine Calls.mono (KY _).out ?_); rintro e w1 ⟨rfl, hb11⟩))
                    go_ret
                    exact ⟨by first | rfl | simp, (by repeat (first | assumption | refine Bl.step ?_ (by assumption)))⟩
                  · have KY := fun W => Lib.hid (KYS (by omega) W)
                    have hz1 : Z ≤ 1000 := by omega
                    have hz2 : decide (Z ≤ 1000) = true := decide_eq_true hz1
                    have hys := HYS.out (by omega)
                    go_wp2_with (first
                      | (go_at_call 22; (with_reducible refine Calls.mono (KRP _).out ?_); rintro e w1 ⟨rfl, hb5⟩)
                      | (go_at_call 22; (with_reducible refine Calls.mono (KRS _).out ?_); rintro e w1 ⟨rfl, hb6⟩)
                      | (go_at_call 41; (with_reducible refine Calls.mono (KQ _).out ?_); rintro e w1 ⟨rfl, hb7⟩)
                      | (go_at_call 42; (with_reducible refine Calls.mono (KL _).out ?_); rintro e w1 ⟨rfl, hb8⟩)
                      | (go_at_call 43; (with_reducible refine Calls.mono (KC _).out ?_); rintro e w1 ⟨rfl, hb9⟩)
                      | (go_at_call 44; (with_reducible refine Calls.mono (KX _).out ?_); rintro e w1 ⟨rfl, hb10⟩)
                      | (go_at_call 44; (with_reducible refine Calls.mono (KY _).out ?_); rintro e w1 ⟨rfl, hb11⟩))
                    go_ret
                    exact ⟨by first | rfl | simp, (by repeat (first | assumption | refine Bl.step ?_ (by assumption)))⟩
          · have hzs := (at_le hat).1
            rw [bts_length, bts_length] at hzs
            have KP := fun W => Lib.hid (show Calls Tryd.prog 41 #[.string p, .string s, .int .i64 ((c : Int) + 1)] W fun e w' => e = .returned (.tuple #[.int .i64 ((z : Int) + 1), .int .i64 0]) ∧ Below W.heap.size W w' from KPR z hf W)
            have KST2 := fun W => KST0 z (by omega) true hat W
            have KST1 := Lib.hid (fun (i : Nat) (hi : i ≤ 2000) (hc : c ≤ i) (hz : i < z) => KST0 i hi false (hno i hc hz))
            have hz0 : ((z : Int) + 1 != 0) = true := by rw [bne_iff_ne]; omega
            have hz1 : ¬ (z : Int) + 1 = 0 := by omega
            have hz1b : ((z : Int) + 1 == 0) = false := by simpa using hz1
            have hz2 : ¬ (z : Int) + 1 < (c : Int) + 1 := by omega
            have hz2b : decide ((z : Int) + 1 < (c : Int) + 1) = false := decide_eq_false hz2
            have hz2c : decide ((z : Int) < (c : Int)) = false := decide_eq_false (by omega)
            have hz2e : decide (z < c) = false := decide_eq_false (by omega)
            have hz2f : ¬ z < c := by omega
            have hz2d : ¬ (z : Int) < (c : Int) := by omega
            have hz3 : IntKind.i64.wrap ((z : Int) + 1 - 1) = (z : Int) := by rw [show (z : Int) + 1 - 1 = (z : Int) by omega]; exact IntWalk.i64_in _ (by omega)
            clear hf KPR KST0 hno hpn hat hne
            go_enter Tryd.func13, Tryd.ntmps13
            go_wp2_with (first
              | (go_at_call 16; refine Calls.mono (KH _).out ?_; rintro e w1 ⟨rfl, hb0⟩)
              | (go_at_call 31; (with_reducible refine Calls.mono (KVp _).out ?_); rintro e w1 ⟨rfl, hb1⟩)
              | (go_at_call 31; (with_reducible refine Calls.mono (KVs _).out ?_); rintro e w1 ⟨rfl, hb2⟩)
              | (go_at_call 31; (with_reducible refine Calls.mono (KVu _).out ?_); rintro e w1 ⟨rfl, hb3⟩)
              | (go_at_call 41; (with_reducible refine Calls.mono (KP _).out ?_); rintro e w1 ⟨rfl, hb4⟩)
              | (go_at_call 92; (with_reducible refine Calls.mono (KST2 _).out ?_); rintro e w1 ⟨rfl, rfl⟩))
            go_loop [14] (fun v => ∃ i : Nat, v = .int .i64 ((i : Int) + 1) ∧ c ≤ i ∧ Hid (i ≤ z)) (fun v => z + 2 - (intOf v).toNat)
            case atStart => exact ⟨c, rfl, Nat.le_refl _, Lib.hid hcz⟩
            case round =>
              obtain ⟨i, rfl, hci, hiz⟩ := hrel
              have hi := hiz.out
              by_cases hlt : (i : Int) + 1 ≤ (z : Int)
              · have KST := fun (j : Int) (_ : (0:Int) = 0) W => KST1.out i (by omega) hci (by omega) W
                have hwi : IntKind.i64.wrap ((i : Int) + 1 + 1) = (i : Int) + 1 + 1 := IntWalk.i64_in _ (by omega)
                clear hi
                go_wp2_with (go_at_call 92; (with_reducible refine Calls.mono (KST 0 rfl _).out ?_); rintro e w1 ⟨rfl, rfl⟩)
                go_round
                case rel => exact ⟨i + 1, by go_num, by omega, Lib.hid (by omega)⟩
                case measure => simp [intOf]; omega
              · skip
                by_cases hq : q = 0
                · have hlb := HLB.out
                  rw [if_pos hq] at hlb
                  subst hq
                  subst hlb
                  by_cases hbig : 1000 < Z
                  · have KY := fun W => Lib.hid (KYB (by omega) W)
                    have hz1 : ¬ Z ≤ 1000 := by omega
                    have hz2 : decide (Z ≤ 1000) = false := decide_eq_false hz1
                    go_wp2_with (first
                      | (go_at_call 22; (with_reducible refine Calls.mono (KRP _).out ?_); rintro e w1 ⟨rfl, hb5⟩)
                      | (go_at_call 22; (with_reducible refine Calls.mono (KRS _).out ?_); rintro e w1 ⟨rfl, hb6⟩)
                      | (go_at_call 41; (with_reducible refine Calls.mono (KQ _).out ?_); rintro e w1 ⟨rfl, hb7⟩)
                      | (go_at_call 42; (with_reducible refine Calls.mono (KL _).out ?_); rintro e w1 ⟨rfl, hb8⟩)
                      | (go_at_call 43; (with_reducible refine Calls.mono (KC _).out ?_); rintro e w1 ⟨rfl, hb9⟩)
                      | (go_at_call 44; (with_reducible refine Calls.mono (KX _).out ?_); rintro e w1 ⟨rfl, hb10⟩)
                      | (go_at_call 44; (with_reducible refine Calls.mono (KY _).out ?_); rintro e w1 ⟨rfl, hb11⟩))
                    go_ret
                    exact ⟨by first | rfl | simp, (by repeat (first | assumption | refine Bl.step ?_ (by assumption)))⟩
                  · have KY := fun W => Lib.hid (KYS (by omega) W)
                    have hz1 : Z ≤ 1000 := by omega
                    have hz2 : decide (Z ≤ 1000) = true := decide_eq_true hz1
                    have hys := HYS.out (by omega)
                    go_wp2_with (first
                      | (go_at_call 22; (with_reducible refine Calls.mono (KRP _).out ?_); rintro e w1 ⟨rfl, hb5⟩)
                      | (go_at_call 22; (with_reducible refine Calls.mono (KRS _).out ?_); rintro e w1 ⟨rfl, hb6⟩)
                      | (go_at_call 41; (with_reducible refine Calls.mono (KQ _).out ?_); rintro e w1 ⟨rfl, hb7⟩)
                      | (go_at_call 42; (with_reducible refine Calls.mono (KL _).out ?_); rintro e w1 ⟨rfl, hb8⟩)
                      | (go_at_call 43; (with_reducible refine Calls.mono (KC _).out ?_); rintro e w1 ⟨rfl, hb9⟩)
                      | (go_at_call 44; (with_reducible refine Calls.mono (KX _).out ?_); rintro e w1 ⟨rfl, hb10⟩)
                      | (go_at_call 44; (with_reducible refine Calls.mono (KY _).out ?_); rintro e w1 ⟨rfl, hb11⟩))
                    go_ret
                    exact ⟨by first | rfl | simp, (by repeat (first | assumption | refine Bl.step ?_ (by assumption)))⟩
                · have hlb := HLB.out
                  rw [if_neg hq] at hlb
                  subst hlb
                  have hqb : (q == 0) = false := by simpa using hq
                  have hqd : decide (q = 0) = false := decide_eq_false hq
                  by_cases hbig : 1000 < Z
                  · have KY := fun W => Lib.hid (KYB (by omega) W)
                    have hz1 : ¬ Z ≤ 1000 := by omega
                    have hz2 : decide (Z ≤ 1000) = false := decide_eq_false hz1
                    go_wp2_with (first
                      | (go_at_call 22; (with_reducible refine Calls.mono (KRP _).out ?_); rintro e w1 ⟨rfl, hb5⟩)
                      | (go_at_call 22; (with_reducible refine Calls.mono (KRS _).out ?_); rintro e w1 ⟨rfl, hb6⟩)
                      | (go_at_call 41; (with_reducible refine Calls.mono (KQ _).out ?_); rintro e w1 ⟨rfl, hb7⟩)
                      | (go_at_call 42; (with_reducible refine Calls.mono (KL _).out ?_); rintro e w1 ⟨rfl, hb8⟩)
                      | (go_at_call 43; (with_reducible refine Calls.mono (KC _).out ?_); rintro e w1 ⟨rfl, hb9⟩)
                      | (go_at_call 44; (with_reducible refine Calls.mono (KX _).out ?_); rintro e w1 ⟨rfl, hb10⟩)
                      | (go_at_call 44; (with_reducible refine Calls.mono (KY _).out ?_); rintro e w1 ⟨rfl, hb11⟩))
                    go_ret
                    exact ⟨by first | rfl | simp, (by repeat (first | assumption | refine Bl.step ?_ (by assumption)))⟩
                  · have KY := fun W => Lib.hid (KYS (by omega) W)
                    have hz1 : Z ≤ 1000 := by omega
                    have hz2 : decide (Z ≤ 1000) = true := decide_eq_true hz1
                    have hys := HYS.out (by omega)
                    go_wp2_with (first
                      | (go_at_call 22; (with_reducible refine Calls.mono (KRP _).out ?_); rintro e w1 ⟨rfl, hb5⟩)
                      | (go_at_call 22; (with_reducible refine Calls.mono (KRS _).out ?_); rintro e w1 ⟨rfl, hb6⟩)
                      | (go_at_call 41; (with_reducible refine Calls.mono (KQ _).out ?_); rintro e w1 ⟨rfl, hb7⟩)
                      | (go_at_call 42; (with_reducible refine Calls.mono (KL _).out ?_); rintro e w1 ⟨rfl, hb8⟩)
                      | (go_at_call 43; (with_reducible refine Calls.mono (KC _).out ?_); rintro e w1 ⟨rfl, hb9⟩)
                      | (go_at_call 44; (with_reducible refine Calls.mono (KX _).out ?_); rintro e w1 ⟨rfl, hb10⟩)
                      | (go_at_call 44; (with_reducible refine Calls.mono (KY _).out ?_); rintro e w1 ⟨rfl, hb11⟩))
                    go_ret
                    exact ⟨by first | rfl | simp, (by repeat (first | assumption | refine Bl.step ?_ (by assumption)))⟩

theorem TextOccurs_any (p s u : ByteArray) (c : UInt8) (w : World) (hsp : p.size ≤ maxLen) (hss : s.size ≤ maxLen) (hsu : u.size ≤ maxLen) :
    Calls Tryd.prog 13 #[.string p, .string s, .string u, .int .u8 (c.toNat : Int)] w fun e w' => e = .returned (.bool true) ∧ Below w.heap.size w w' :=
  TextOccurs_nat p s u c.toNat w hsp hss hsu (by have := c.toNat_lt; omega)
end Go.Proofs.YtoilgjlbpimcpaaDoor
