/- The other program's Change. -/
import Derived.Test.YtoilgjlbpimcpaaDoorZt
import Derived.Test.YtoilgjlbpimcpaaDoorVl
namespace Go.Proofs.YtoilgjlbpimcpaaDoor
open Go.RowKit Go.Shelf Tx
set_option linter.unusedVariables false
set_option maxRecDepth 100000

namespace Tx
/-- What is written from a place on, where this occurrence is the next one. -/
def chgZ (p l w : List UInt8) : Nat → Nat → Int → List UInt8
  | 0, f, _ => l.drop f
  | k + 1, f, z => if z < 0 then l.drop f else (l.drop f).take (z.toNat - f) ++ w ++ chgZ p l w k (z.toNat + p.length) (fromB p l (z + p.length))
def changedL (p l w : List UInt8) : List UInt8 := chgZ p l w (l.length + 1) 0 (fromB p l 0)
theorem chgZ_end {p l w : List UInt8} {k f : Nat} {z : Int} (h : z < 0) : chgZ p l w k f z = l.drop f := by
  cases k with
  | zero => rfl
  | succ k => rw [chgZ, if_pos h]
theorem chgZ_step {p l w : List UInt8} {k f a : Nat} : chgZ p l w (k + 1) f (a : Int) = (l.drop f).take (a - f) ++ w ++ chgZ p l w k (a + p.length) (fromB p l ((a : Int) + p.length)) := by
  rw [chgZ, if_neg (by omega), Int.toNat_natCast]
def changeR (p l w : List UInt8) : Res := guardR (validL p && validL l && validL w) (outR (changedL p l w))
end Tx
set_option maxHeartbeats 4000000 in
theorem RChange_any (p s u : ByteArray) (w : World) (hsp : p.size ≤ maxLen) (hss : s.size ≤ maxLen) (hsu : u.size ≤ maxLen) :
    Calls Tryd.prog 49 #[.string p, .string s, .string u] w (GivesA w (changeR (bts p) (bts s) (bts u))) := by
  have KVp := fun (W : World) => Lib.hid (RValid_any p W hsp)
  have KVs := fun (W : World) => Lib.hid (RValid_any s W hss)
  have KVu := fun (W : World) => Lib.hid (RValid_any u W hsu)
  cases hv0 : validL (bts p) with
  | false =>
    rw [hv0] at KVp
    have HR := Lib.hid (show changeR (bts p) (bts s) (bts u) = ([], 1) by unfold changeR guardR; simp only [hv0, Bool.and_false, Bool.false_and, Bool.true_and, Bool.and_true]; rfl)
    clear hv0
    go_enter Tryd.func49, Tryd.ntmps49
    go_wp2_with (first
      | (go_at_call 32; (with_reducible refine Calls.mono (KVp _).out ?_); rintro e w1 ⟨rfl, rfl⟩))
    refine bodyPost_ret (v := .agg #[.string ⟨#[]⟩, .int .i64 1]) (by simp [results, Tryd.results49, go_sem]) rfl ?_
    exact givesA HR.out rfl ((Below.refl _ w).alloc (Nat.le_refl _) _)
  | true =>
    rw [hv0] at KVp
    cases hv1 : validL (bts s) with
    | false =>
      rw [hv1] at KVs
      have HR := Lib.hid (show changeR (bts p) (bts s) (bts u) = ([], 1) by unfold changeR guardR; simp only [hv0, hv1, Bool.and_false, Bool.false_and, Bool.true_and, Bool.and_true]; rfl)
      clear hv0 hv1
      go_enter Tryd.func49, Tryd.ntmps49
      go_wp2_with (first
        | (go_at_call 32; (with_reducible refine Calls.mono (KVp _).out ?_); rintro e w1 ⟨rfl, rfl⟩)
        | (go_at_call 32; (with_reducible refine Calls.mono (KVs _).out ?_); rintro e w1 ⟨rfl, rfl⟩))
      refine bodyPost_ret (v := .agg #[.string ⟨#[]⟩, .int .i64 1]) (by simp [results, Tryd.results49, go_sem]) rfl ?_
      exact givesA HR.out rfl ((Below.refl _ w).alloc (Nat.le_refl _) _)
    | true =>
      rw [hv1] at KVs
      cases hv2 : validL (bts u) with
      | false =>
        rw [hv2] at KVu
        have HR := Lib.hid (show changeR (bts p) (bts s) (bts u) = ([], 1) by unfold changeR guardR; simp only [hv0, hv1, hv2, Bool.and_false, Bool.false_and, Bool.true_and, Bool.and_true]; rfl)
        clear hv0 hv1 hv2
        go_enter Tryd.func49, Tryd.ntmps49
        go_wp2_with (first
          | (go_at_call 32; (with_reducible refine Calls.mono (KVp _).out ?_); rintro e w1 ⟨rfl, rfl⟩)
          | (go_at_call 32; (with_reducible refine Calls.mono (KVs _).out ?_); rintro e w1 ⟨rfl, rfl⟩)
          | (go_at_call 32; (with_reducible refine Calls.mono (KVu _).out ?_); rintro e w1 ⟨rfl, rfl⟩))
        refine bodyPost_ret (v := .agg #[.string ⟨#[]⟩, .int .i64 1]) (by simp [results, Tryd.results49, go_sem]) rfl ?_
        exact givesA HR.out rfl ((Below.refl _ w).alloc (Nat.le_refl _) _)
      | true =>
        rw [hv2] at KVu
        have hlen := valid_le hv0
        have hlen2 := valid_le hv1
        have hlen3 := valid_le hv2
        obtain ⟨⟨rl, rk⟩, hrr⟩ : ∃ r, changeR (bts p) (bts s) (bts u) = r := ⟨_, rfl⟩
        have HRR := Lib.hid hrr
        have HR := Lib.hid (show outR (changedL (bts p) (bts s) (bts u)) = (rl, rk) by rw [← hrr]; unfold changeR guardR; rw [hv0, hv1, hv2]; rfl)
        have K00 := fun W => Rfind_any p s 0 W (by omega) (by omega) (by omega)
        have hb0 := from_bds (bts p) (bts s) 0
        obtain ⟨z0, hz0⟩ : ∃ z0, z0 = fromB (bts p) (bts s) ((0 : Nat) : Int) := ⟨_, rfl⟩
        rw [← hz0] at K00 hb0
        rw [bts_length, bts_length] at hb0
        have HOC := Lib.hid (show changedL (bts p) (bts s) (bts u) = [] ++ chgZ (bts p) (bts s) (bts u) (s.size + 1) 0 z0 by rw [hz0]; unfold changedL; rw [bts_length]; rfl)
        have K0 := fun W => Lib.hid (show Calls Tryd.prog 123 #[.string p, .string s, .int .i64 0] W fun e w' => e = .returned (.int .i64 z0) ∧ W = w' from K00 W)
        have HB0 := Lib.hid hb0
        clear hv0 hv1 hv2 hz0 K00 hb0 hrr
        go_enter Tryd.func49, Tryd.ntmps49
        go_wp2_with (first
          | (go_at_call 32; (with_reducible refine Calls.mono (KVp _).out ?_); rintro e w1 ⟨rfl, rfl⟩)
          | (go_at_call 32; (with_reducible refine Calls.mono (KVs _).out ?_); rintro e w1 ⟨rfl, rfl⟩)
          | (go_at_call 32; (with_reducible refine Calls.mono (KVu _).out ?_); rintro e w1 ⟨rfl, rfl⟩)
          | (go_at_call 123; (with_reducible refine Calls.mono (K0 _).out ?_); rintro e w1 ⟨rfl, rfl⟩))
        go_loopw [7, 8, 9] (fun v y x wr => ∃ (k f : Nat) (z : Int) (B : List UInt8), y = .int .i64 f ∧ x = .int .i64 z ∧ f ≤ s.size ∧ Hid (B.length ≤ 4000) ∧ Hid (changedL (bts p) (bts s) (bts u) = B ++ chgZ (bts p) (bts s) (bts u) k f z) ∧ (z = -1 ∨ ((f : Int) ≤ z ∧ z + p.size ≤ s.size ∧ 0 < p.size ∧ (s.size : Int) + 1 ≤ z + k)) ∧ Hid (Br wr (w.heap.size + 1) v B) ∧ Hid (SbB w wr)) (fun _ y _ _ => s.size + 1 - (intOf y).toNat)
        case atStart => exact ⟨s.size + 1, 0, z0, [], rfl, rfl, Nat.zero_le _, Lib.hid (Nat.zero_le _), HOC, (by
            rcases HB0.out with h | ⟨h1, h2, h3⟩
            · exact .inl h
            · exact .inr ⟨by omega, h2, by have := pos_len h3; rwa [bts_length] at this, by omega⟩), Lib.hid (Br.nil _ _), Lib.hid (sbB_new w)⟩
        case round =>
          obtain ⟨k, f, z, B, rfl, rfl, hf, HLB, hoc, hz, hbr, hb⟩ := hrel
          obtain ⟨ln, hln⟩ : ∃ ln, B.length = ln := ⟨_, rfl⟩
          have HLN := Lib.hid hln
          obtain ⟨ao7, cap7, hsh⟩ := hbr.out.shape hln
          subst hsh
          have HX2 := Lib.hid (show bts (s.extract f s.size) = (bts s).drop f by rw [bts_extract]; exact List.take_of_length_le (by rw [List.length_drop, bts_length]; omega))
          have hfs : (f : Int) ≤ (s.size : Int) := by omega
          have hf0 : (0 : Int) ≤ (f : Int) := by omega
          clear hln
          by_cases hz0 : (0 : Int) ≤ z
          · rcases hz with rfl | ⟨h1, h2, h3, h4⟩
            · omega
            by_cases hl : ln ≤ 1000
            · obtain ⟨a, rfl⟩ := Int.eq_ofNat_of_zero_le hz0
              have hfa : f ≤ a := by omega
              obtain ⟨k, rfl⟩ : ∃ k', k = k' + 1 := ⟨k - 1, by omega⟩
              have K10 := fun W => Rfind_any p s (a + p.size) W (by omega) (by omega) (by omega)
              have hb1 := from_bds (bts p) (bts s) (a + p.size)
              obtain ⟨z1, hz1⟩ : ∃ z1, z1 = fromB (bts p) (bts s) ((a + p.size : Nat) : Int) := ⟨_, rfl⟩
              rw [← hz1] at K10 hb1
              rw [bts_length, bts_length] at hb1
              have HX1 := Lib.hid (show bts (s.extract f a) = ((bts s).drop f).take (a - f) from bts_extract s f a)
              have HOC2 := Lib.hid (show changedL (bts p) (bts s) (bts u) = (B ++ bts (s.extract f a) ++ bts u) ++ chgZ (bts p) (bts s) (bts u) k (a + p.size) z1 by
                rw [hoc.out, hz1, chgZ_step, bts_length, Int.natCast_add, HX1.out]
                simp)
              have K1 := fun W => Lib.hid (show Calls Tryd.prog 123 #[.string p, .string s, .int .i64 ((a : Int) + (p.size : Int))] W fun e w' => e = .returned (.int .i64 z1) ∧ W = w' by have := K10 W; rw [Int.natCast_add] at this; exact this)
              have hwa : IntKind.i64.wrap ((a : Int) + (p.size : Int)) = (a : Int) + (p.size : Int) := IntWalk.i64_in _ (by omega)
              have hlI : (ln : Int) ≤ 1000 := by omega
              have hfaI : (f : Int) ≤ (a : Int) := by omega
              have haS : (a : Int) ≤ (s.size : Int) := by omega
              have HLB2 := Lib.hid (show (B ++ bts (s.extract f a) ++ bts u).length ≤ 4000 by rw [HX1.out]; have := HLN.out; simp [bts_length]; omega)
              have HB1 := Lib.hid hb1
              clear hz1 K10 hb1 h1
              go_wp2_with (first
                | (go_at_call 123; (with_reducible refine Calls.mono (K1 _).out ?_); rintro e w1 ⟨rfl, rfl⟩)
                | (at_builtin; refine wpList_br rfl _ _ 9 rfl (w.heap.size + 1) _ (.string (s.extract f a)) (B) (bts (s.extract f a)) rfl rfl hbr.out (src_str _ _) (by have := HLB.out; have := bts_length u; rw [HX1.out]; simp [bts_length]; omega) (by have := hb.out.le; omega) ?_; intro v4 w4 hbr4 hg4; have HBR4 := Lib.hid hbr4; have HSB4 := Lib.hid (SbB.grown hb.out hg4 hbr.out.own); clear hbr4 hg4)
                | (at_builtin; refine wpList_br rfl _ _ 9 rfl (w.heap.size + 1) _ (.string (u)) (B ++ bts (s.extract f a)) (bts (u)) rfl rfl HBR4.out (src_str _ _) (by have := HLB.out; have := bts_length u; rw [HX1.out]; simp [bts_length]; omega) (by have := HSB4.out.le; omega) ?_; intro v5 w5 hbr5 hg5; have HBR5 := Lib.hid hbr5; have HSB5 := Lib.hid (SbB.grown HSB4.out hg5 HBR4.out.own); clear hbr5 hg5))
              go_roundw
              case rel => exact ⟨k, a + p.size, z1, B ++ bts (s.extract f a) ++ bts u, by simp, rfl, by omega, HLB2, HOC2, (by
                  rcases HB1.out with h | ⟨h5, h6, h7⟩
                  · exact .inl h
                  · exact .inr ⟨by omega, h6, h3, by omega⟩), HBR5, HSB5⟩
              case measure => simp [intOf]; omega
            · have hlI : ¬ (ln : Int) ≤ 1000 := by omega
              have hlI2 : (1000 : Int) < (ln : Int) := by omega
              have HRO := Lib.hid (show outR (B ++ bts (s.extract f s.size)) = (rl, rk) by
                rw [← HR.out, outR_long (by rw [List.length_append, HLN.out]; omega), hoc.out, outR_long (by rw [List.length_append, HLN.out]; omega)])
              clear hl
              go_wp2_with (first
                | (at_builtin; refine wpList_br rfl _ _ 9 rfl (w.heap.size + 1) _ (.string (s.extract f s.size)) B (bts (s.extract f s.size)) rfl rfl hbr.out (src_str _ _) (by have := HLB.out; rw [HX2.out]; simp [bts_length]; omega) hb.out.le ?_; intro v6 w6 hbr6 hg6; have HBR6 := Lib.hid hbr6; have HSB6 := Lib.hid (hb.out.grown hg6 hbr.out.own); have KO0 := Rout_any v6 _ w6 hbr6.rd (by have := HLB.out; rw [HX2.out]; simp [bts_length]; omega); rw [HRO.out] at KO0; have KO := Lib.hid KO0; clear KO0 hbr6 hg6)
                | (go_at_call 108; refine Calls.mono KO.out ?_; rintro e w8 ⟨t, rfl, ht, hb5⟩; have HB5 := Lib.hid (HSB6.out.step hb5); obtain ⟨p1, p2, f1, f2⟩ := HB5.out.facts; clear hb5))
              refine bodyPost_ret (v := .agg #[.string t, .int .i64 rk]) (by simp [results, Tryd.results49, go_sem, p1, p2]) rfl ?_
              rw [HRR.out]
              exact ⟨t, rfl, ht, HB5.out.fin _ _⟩
          · have hzn : z < 0 := by omega
            have HRO := Lib.hid (show outR (B ++ bts (s.extract f s.size)) = (rl, rk) by rw [HX2.out, ← HR.out, hoc.out, chgZ_end hzn])
            go_wp2_with (first
              | (at_builtin; refine wpList_br rfl _ _ 9 rfl (w.heap.size + 1) _ (.string (s.extract f s.size)) B (bts (s.extract f s.size)) rfl rfl hbr.out (src_str _ _) (by have := HLB.out; rw [HX2.out]; simp [bts_length]; omega) hb.out.le ?_; intro v6 w6 hbr6 hg6; have HBR6 := Lib.hid hbr6; have HSB6 := Lib.hid (hb.out.grown hg6 hbr.out.own); have KO0 := Rout_any v6 _ w6 hbr6.rd (by have := HLB.out; rw [HX2.out]; simp [bts_length]; omega); rw [HRO.out] at KO0; have KO := Lib.hid KO0; clear KO0 hbr6 hg6)
              | (go_at_call 108; refine Calls.mono KO.out ?_; rintro e w8 ⟨t, rfl, ht, hb5⟩; have HB5 := Lib.hid (HSB6.out.step hb5); obtain ⟨p1, p2, f1, f2⟩ := HB5.out.facts; clear hb5))
            refine bodyPost_ret (v := .agg #[.string t, .int .i64 rk]) (by simp [results, Tryd.results49, go_sem, p1, p2]) rfl ?_
            rw [HRR.out]
            exact ⟨t, rfl, ht, HB5.out.fin _ _⟩
end Go.Proofs.YtoilgjlbpimcpaaDoor
