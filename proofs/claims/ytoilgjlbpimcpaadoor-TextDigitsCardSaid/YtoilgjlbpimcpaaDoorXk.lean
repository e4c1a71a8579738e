/- The other program's B2X. -/
import Derived.Test.YtoilgjlbpimcpaaDoorXj
import Derived.Deep.RegionHeld3
namespace Go.Proofs.YtoilgjlbpimcpaaDoor
open Go.RowKit Go.Shelf Tx
set_option linter.unusedVariables false
set_option maxRecDepth 100000

namespace Tx
theorem fold2_at {a b c d : UInt8} (ha : a.toNat < 2) (hb : b.toNat < 2) (hc : c.toNat < 2) (hd : d.toNat < 2) : (foldD 2 [a, b, c, d]).toNat = 8 * a.toNat + 4 * b.toNat + 2 * c.toNat + d.toNat := by
  rcases u8_two ha with rfl | rfl <;> rcases u8_two hb with rfl | rfl <;> rcases u8_two hc with rfl | rfl <;> rcases u8_two hd with rfl | rfl <;> decide
theorem four_at {D : List UInt8} {j : Nat} {a b c d : UInt8} (ha : D[j]? = some a) (hb : D[j + 1]? = some b) (hc : D[j + 2]? = some c) (hd : D[j + 3]? = some d) : (D.drop j).take 4 = [a, b, c, d] := by
  obtain ⟨h1, h2⟩ := List.getElem?_eq_some_iff.1 ha
  obtain ⟨h3, h4⟩ := List.getElem?_eq_some_iff.1 hb
  obtain ⟨h5, h6⟩ := List.getElem?_eq_some_iff.1 hc
  obtain ⟨h7, h8⟩ := List.getElem?_eq_some_iff.1 hd
  rw [List.drop_eq_getElem_cons h1, h2, List.take_succ_cons, List.drop_eq_getElem_cons h3, h4, List.take_succ_cons, List.drop_eq_getElem_cons h5, h6, List.take_succ_cons, List.drop_eq_getElem_cons h7, h8]
  rfl
theorem merged4_next {ds : List UInt8} {j k : Nat} {a b c d : UInt8} (hj : j = 4 * k) (hk : k < (mergedL ds 4 2).length) (ha : (padD ds 4)[j]? = some a) (hb : (padD ds 4)[j + 1]? = some b) (hc : (padD ds 4)[j + 2]? = some c) (hd : (padD ds 4)[j + 3]? = some d) :
    ((mergedL ds 4 2).take (k + 1)).map hexB = ((mergedL ds 4 2).take k).map hexB ++ [hexB (foldD 2 [a, b, c, d])] := by
  rw [mergedL_length] at hk
  have h := mergedL_get ds (size := 4) (by omega) 2 hk
  rw [Nat.mul_comm k 4, ← hj, four_at ha hb hc hd] at h
  rw [take_snoc _ _ _ h, List.map_append]
  rfl
theorem padD4_len (ds : List UInt8) : (padD ds 4).length = 4 * (mergedL ds 4 2).length := by
  rw [mergedL_length]
  unfold padD
  rw [List.length_append, List.length_replicate]
  omega
/-- So many zeros stand before. -/
def padN (n : Nat) : Nat := 4 * ((n + 3) / 4) - n
theorem padN_spec (n : Nat) : padN n ≤ 3 ∧ (padN n + n) % 4 = 0 := by unfold padN; omega
theorem padN_eq {n p : Nat} (hp : p ≤ padN n) (h : (p + n) % 4 = 0) : p = padN n := by unfold padN at *; omega
theorem padN_lt {n p : Nat} (hp : p ≤ padN n) (h : ¬ (p + n) % 4 = 0) : p < padN n := by have := padN_spec n; rcases Nat.lt_or_eq_of_le hp with e | e; exact e; subst e; omega
theorem padD_N (ds : List UInt8) : padD ds 4 = List.replicate (padN ds.length) 0 ++ ds := rfl
theorem b2x_out {l ds : List UInt8} (hl : ds.length ≤ 1000) (hd : digitsL l 4 2 = some ds) : outR ((mergedL ds 4 2).map hexB) = b2xR l := by
  unfold b2xR
  rw [hd]
  have hlt := digitsL_lt (base := 2) (by omega) hd
  have hml := mergedL_le ds (size := 4) (by omega) 2
  exact outR_ok (clean_hex (mergedL_lt hlt)) (by rw [List.length_map]; omega)
end Tx
def lenV : Value → Nat
  | .slice _ n _ => n
  | _ => 0
set_option maxHeartbeats 4000000 in
theorem RB2X_any (s : ByteArray) (w : World) (hss : s.size ≤ 2000) :
    Calls Tryd.prog 91 #[.string s] w (GivesA w (b2xR (bts s))) := by
  have KVs := fun (W : World) => Lib.hid (RValid_any s W (by unfold maxLen; omega))
  cases hv0 : validL (bts s) with
  | false =>
    have KD := fun W => Lib.hid (Digits_any s 2 4 W hss (by omega) (by omega) (by omega))
    rw [hv0] at KVs
    have HR := Lib.hid (show b2xR (bts s) = ([], 1) by unfold b2xR digitsL; rw [hv0]; rfl)
    clear hv0
    go_enter Tryd.func91, Tryd.ntmps91
    go_wp2_with (first
      | (go_at_call 153; (with_reducible refine Calls.mono (KD _).out ?_); rintro e w1 ⟨v1, b1, rfl, hb1, _⟩; have HB5 := Lib.hid ((sbB_new w).step hb1); obtain ⟨p1, p2, f1, f2⟩ := HB5.out.facts; clear hb1)
      | (go_at_call 32; (with_reducible refine Calls.mono (KVs _).out ?_); rintro e w2 ⟨rfl, rfl⟩))
    refine bodyPost_ret (v := .agg #[.string ⟨#[]⟩, .int .i64 1]) (by simp [results, Tryd.results91, go_sem, p1, p2]) rfl ?_
    exact givesA HR.out rfl (HB5.out.fin _ _)
  | true =>
    rw [hv0] at KVs
    have hlen := valid_le hv0
    have KD0 := fun W => Digits_valid s 2 4 W hss (by omega) (by omega) (by omega) hv0
    cases hd : digitsL (bts s) 4 2 with
    | none =>
      rw [hd] at KD0
      have KD := fun W => Lib.hid (KD0 W)
      have HR := Lib.hid (show b2xR (bts s) = ([], 1) by unfold b2xR; rw [hd])
      clear KD0 hd hv0
      go_enter Tryd.func91, Tryd.ntmps91
      go_wp2_with (first
        | (go_at_call 153; (with_reducible refine Calls.mono (KD _).out ?_); rintro e w1 ⟨v1, rfl, hb1, _⟩; have HB5 := Lib.hid ((sbB_new w).step hb1); obtain ⟨p1, p2, f1, f2⟩ := HB5.out.facts; clear hb1)
        | (go_at_call 32; (with_reducible refine Calls.mono (KVs _).out ?_); rintro e w2 ⟨rfl, rfl⟩))
      refine bodyPost_ret (v := .agg #[.string ⟨#[]⟩, .int .i64 1]) (by simp [results, Tryd.results91, go_sem, p1, p2]) rfl ?_
      exact givesA HR.out rfl (HB5.out.fin _ _)
    | some ds =>
      rw [hd] at KD0
      have KD := fun W => Lib.hid (KD0 W)
      have hdl := digitsL_len hd
      rw [bts_length] at hdl
      have HLT := Lib.hid (digitsL_lt (base := 2) (by omega) hd)
      obtain ⟨⟨rl, rk⟩, hrr⟩ : ∃ r, b2xR (bts s) = r := ⟨_, rfl⟩
      have HRR := Lib.hid hrr
      have hml := mergedL_le ds (size := 4) (by omega) 2
      have HML := Lib.hid hml
      have HR := Lib.hid (show outR ((mergedL ds 4 2).map hexB) = (rl, rk) by rw [← hrr]; exact b2x_out (by omega) hd)
      have HPL := Lib.hid (padD4_len ds)
      obtain ⟨N, hN⟩ : ∃ N, (padD ds 4).length = N := ⟨_, rfl⟩
      have HDN := Lib.hid hN
      have HPA := Lib.hid (pad_all (size := 4) (m := 2) (by omega) HLT.out)
      obtain ⟨i0, hi, hz0', hz1, hz2⟩ := info_parts infoInt
      have hN4 : N ≤ 4000 := by have := HPL.out; have := HDN.out; omega
      have hds : ds.length ≤ 2000 := by omega
      clear KD0 hd hv0 hrr hml hN
      go_enter Tryd.func91, Tryd.ntmps91
      go_wp2_with (first
        | (go_at_call 153; (with_reducible refine Calls.mono (KD _).out ?_); rintro e w1 ⟨v1, rfl, hb1, hrow⟩; have HSB1 := Lib.hid ((sbB_new w).step hb1); have hrow' := hrow ds rfl; have HI := Lib.hid (ird_own hrow'); obtain ⟨ao, cap, rfl⟩ := HI.out.shape rfl; clear hb1 hrow hrow')
        | (go_at_call 32; (with_reducible refine Calls.mono (KVs _).out ?_); rintro e w4 ⟨rfl, rfl⟩))
      go_loopw [3] (fun v wr => Hid (∃ p, p ≤ padN ds.length ∧ Ird wr v (List.replicate p 0 ++ ds)) ∧ Hid (Below w1.heap.size w1 wr)) (fun v _ => ds.length + 4 - lenV v)
      case atStart => exact ⟨Lib.hid ⟨0, Nat.zero_le _, HI.out⟩, Lib.hid (Below.refl _ _)⟩
      case round =>
        obtain ⟨hp, hb⟩ := hrel
        obtain ⟨p, hp1, hp2⟩ := hp.out
        have HP1 := Lib.hid hp1
        have HP2 := Lib.hid hp2
        clear hp hp1 hp2
        obtain ⟨m, hm⟩ : ∃ m, (List.replicate p (0 : UInt8) ++ ds).length = m := ⟨_, rfl⟩
        have HM := Lib.hid hm
        have hmp : m = p + ds.length := by rw [← hm, List.length_append, List.length_replicate]
        have HMP := Lib.hid hmp
        have hpn3 : padN ds.length ≤ 3 := (padN_spec ds.length).1
        have hp3 : p ≤ 3 := Nat.le_trans HP1.out hpn3
        have hm2 : m ≤ 2003 := by omega
        clear hm
        by_cases hmod : m % 4 = 0
        · have hmi : (m : Int) % 4 = 0 := by omega
          have hmi2 : (m : Int).tmod 4 = 0 := by rw [Int.tmod_eq_emod_of_nonneg (by omega)]; exact hmi
          have HPP := Lib.hid (padN_eq HP1.out (by rw [← hmp]; exact hmod))
          have HI3 := Lib.hid (show Ird wr u3 (padD ds 4) by rw [padD_N, ← HPP.out]; exact HP2.out)
          obtain ⟨ao3, cap3, rfl⟩ := HP2.out.shape HM.out
          have hmN : m = N := by rw [← HDN.out, padD_N, List.length_append, List.length_replicate, ← HPP.out]; exact hmp
          subst hmN
          clear hmp hmod
          obtain ⟨w3, hw3⟩ : ∃ w3, w3 = wr := ⟨_, rfl⟩
          have HSB3 := Lib.hid (show SbB w w3 by rw [hw3]; exact HSB1.out.low hb.out HSB1.out.le)
          have HI := Lib.hid (show Ird w3 (.slice ao3 m cap3) (padD ds 4) by rw [hw3]; exact HI3.out)
          rw [← hw3]
          clear hw3 HI3 HP2 hb
          go_wp2
          go_loopw [5, 6] (fun v i wr => ∃ j : Nat, i = .int .i64 j ∧ j ≤ m ∧ Hid (∃ k, j = 4 * k ∧ Br wr w3.heap.size v (((mergedL ds 4 2).take k).map hexB)) ∧ Hid (Below w3.heap.size w3 wr)) (fun _ i _ => m - (intOf i).toNat)
          case atStart => exact ⟨0, rfl, Nat.zero_le _, Lib.hid ⟨0, rfl, Br.nil _ _⟩, Lib.hid (Below.refl _ _)⟩
          case round =>
            obtain ⟨j, rfl, hj, hjk, hb⟩ := hrel
            obtain ⟨k, hk2, hbr0⟩ := hjk.out
            have HK2 := Lib.hid hk2
            have hbr := Lib.hid hbr0
            clear hjk hk2 hbr0
            by_cases hlt : j < m
            · have hlt2 : j + 3 < m := by have := HK2.out; have := HDN.out; have := HPL.out; omega
              have hkm : k < (mergedL ds 4 2).length := by have := HK2.out; have := HDN.out; have := HPL.out; omega
              obtain ⟨a, ha⟩ : ∃ a, (padD ds 4)[j]? = some a := ⟨_, List.getElem?_eq_getElem (by have := HDN.out; omega)⟩
              obtain ⟨b, hb'⟩ : ∃ b, (padD ds 4)[j + 1]? = some b := ⟨_, List.getElem?_eq_getElem (by have := HDN.out; omega)⟩
              obtain ⟨c, hc'⟩ : ∃ c, (padD ds 4)[j + 2]? = some c := ⟨_, List.getElem?_eq_getElem (by have := HDN.out; omega)⟩
              obtain ⟨d, hd'⟩ : ∃ d, (padD ds 4)[j + 3]? = some d := ⟨_, List.getElem?_eq_getElem (by have := HDN.out; omega)⟩
              have HNX := Lib.hid (merged4_next HK2.out hkm ha hb' hc' hd')
              have ha2 := HPA.out a (List.mem_of_getElem? ha)
              have hb2 := HPA.out b (List.mem_of_getElem? hb')
              have hc2 := HPA.out c (List.mem_of_getElem? hc')
              have hd2 := HPA.out d (List.mem_of_getElem? hd')
              obtain ⟨g, cap4, hgs, hgl, hcells⟩ := HI.out.pos (by have := HDN.out; omega)
              rw [HDN.out] at hgs
              injection hgs with hao _ hcap
              subst hao
              subst hcap
              have d0 := Lib.hid (hcells j a ha)
              have d1 := Lib.hid (hcells (j + 1) b hb')
              have d2 := Lib.hid (hcells (j + 2) c hc')
              have d3 := Lib.hid (hcells (j + 3) d hd')
              unfold iv at d0 d1 d2 d3
              have c0 := (hb.out.cell (p := ⟨g, j, none⟩) hgl).trans d0.out
              have c1 := (hb.out.cell (p := ⟨g, j + 1, none⟩) hgl).trans d1.out
              have c2 := (hb.out.cell (p := ⟨g, j + 2, none⟩) hgl).trans d2.out
              have c3 := (hb.out.cell (p := ⟨g, j + 3, none⟩) hgl).trans d3.out
              obtain ⟨q, hq⟩ : ∃ q, q = foldD 2 [a, b, c, d] := ⟨_, rfl⟩
              have hqn := fold2_at ha2 hb2 hc2 hd2
              rw [← hq] at hqn HNX
              have hqi : 8 * (a.toNat : Int) + 4 * (b.toNat : Int) + 2 * (c.toNat : Int) + (d.toNat : Int) = (q.toNat : Int) := by omega
              have hq16 : q.toNat < 16 := by omega
              have hqI : (q.toNat : Int) < 16 := by omega
              have hnq := num_get hq16
              unfold numB at hnq
              have hw1 : IntKind.i64.wrap (8 * (a.toNat : Int)) = 8 * (a.toNat : Int) := IntWalk.i64_in _ (by omega)
              have hw2 : IntKind.i64.wrap (4 * (b.toNat : Int)) = 4 * (b.toNat : Int) := IntWalk.i64_in _ (by omega)
              have hw3 : IntKind.i64.wrap (2 * (c.toNat : Int)) = 2 * (c.toNat : Int) := IntWalk.i64_in _ (by omega)
              have hw4 : IntKind.i64.wrap (8 * (a.toNat : Int) + 4 * (b.toNat : Int)) = 8 * (a.toNat : Int) + 4 * (b.toNat : Int) := IntWalk.i64_in _ (by omega)
              have hw5 : IntKind.i64.wrap (8 * (a.toNat : Int) + 4 * (b.toNat : Int) + 2 * (c.toNat : Int)) = 8 * (a.toNat : Int) + 4 * (b.toNat : Int) + 2 * (c.toNat : Int) := IntWalk.i64_in _ (by omega)
              have hw6 : IntKind.i64.wrap (q.toNat : Int) = (q.toNat : Int) := IntWalk.i64_in _ (by omega)
              have hw7 : IntKind.i64.wrap (8 * (a.toNat : Int) + 4 * (b.toNat : Int) + 2 * (c.toNat : Int) + (d.toNat : Int)) = (q.toNat : Int) := by rw [hqi]; exact hw6
              have hx1 : IntKind.i64.wrap ((j : Int) + 1) = (j : Int) + 1 := IntWalk.i64_in _ (by omega)
              have hx2 : IntKind.i64.wrap ((j : Int) + 2) = (j : Int) + 2 := IntWalk.i64_in _ (by omega)
              have hx3 : IntKind.i64.wrap ((j : Int) + 3) = (j : Int) + 3 := IntWalk.i64_in _ (by omega)
              have hy1 : (0 : Int) ≤ (j : Int) + 1 := by omega
              have hy2 : (0 : Int) ≤ (j : Int) + 2 := by omega
              have hy3 : (0 : Int) ≤ (j : Int) + 3 := by omega
              have hz1 : (j : Int) + 1 < (m : Int) := by omega
              have hz2 : (j : Int) + 2 < (m : Int) := by omega
              have hz3 : (j : Int) + 3 < (m : Int) := by omega
              have ht1 : ((j : Int) + 1).toNat = j + 1 := by omega
              have ht2 : ((j : Int) + 2).toNat = j + 2 := by omega
              have ht3 : ((j : Int) + 3).toNat = j + 3 := by omega
              have HLL := Lib.hid (show (((mergedL ds 4 2).take k).map hexB).length ≤ 4000 by rw [List.length_map, List.length_take]; have := HML.out; omega)
              have hmix : Tryd.prog.follows .mixedOrders = true := by kernel_rfl
              have hsz := hb.out.size
              have HGL := Lib.hid hgl
              clear ha hb' hc' hd' hcells hq hkm hqn ha2 hb2 hc2 hd2 hgl
              go_wp2
              go_region_held3 (fun w' => w'.cell? ⟨g, j, none⟩ = some (.int .i64 (a.toNat : Int)) ∧ w'.cell? ⟨g, j + 1, none⟩ = some (.int .i64 (b.toNat : Int)) ∧ w'.cell? ⟨g, j + 2, none⟩ = some (.int .i64 (c.toNat : Int)) ∧ w'.cell? ⟨g, j + 3, none⟩ = some (.int .i64 (d.toNat : Int)))
                (first | exact ⟨m0, m1, m2, m3⟩ | go_keep)
                (first | (refine step_br rfl _ _ 89 rfl w3.heap.size _ (.slice (some ⟨wr.heap.size, 0, none⟩) 1 1) (((mergedL ds 4 2).take k).map hexB) [hexB q] rfl rfl (hbr.out.drew.alloc _) (src_cell (by simp [u8v])) (by have := HLL.out; simp only [List.length_cons, List.length_nil]; omega) (by simp; omega) ?_; intro v' w4 hbr' hgrow; have HBR := Lib.hid hbr'; have HB4 := Lib.hid ((Bl.alloc hb.out.drew _).grown hgrow (by simp; omega) hbr.out.own); clear hbr' hgrow; have m0 := (HB4.out.cell (p := ⟨g, j, none⟩) HGL.out).trans d0.out; have m1 := (HB4.out.cell (p := ⟨g, j + 1, none⟩) HGL.out).trans d1.out; have m2 := (HB4.out.cell (p := ⟨g, j + 2, none⟩) HGL.out).trans d2.out; have m3 := (HB4.out.cell (p := ⟨g, j + 3, none⟩) HGL.out).trans d3.out))
              all_goals
                go_wp2
                go_roundw
                case rel => exact ⟨j + 4, by go_num, by omega, Lib.hid ⟨k + 1, by have := HK2.out; omega, by rw [HNX.out]; exact HBR.out⟩, HB4⟩
                case measure => simp [intOf]; omega
            · obtain rfl : j = m := by omega
              have KO0 := Rout_any _ _ wr hbr.out.rd (by rw [List.length_map, List.length_take]; have := HML.out; omega)
              rw [List.take_of_length_le (by have := HK2.out; have := HDN.out; have := HPL.out; omega), HR.out] at KO0
              have KO := Lib.hid KO0
              have HSB := Lib.hid (HSB3.out.low hb.out (HSB3.out.le))
              clear KO0
              go_wp2_with (go_at_call 108; refine Calls.mono KO.out ?_; rintro e w8 ⟨t, rfl, ht, hb5⟩; have HB5 := Lib.hid (HSB.out.step hb5); obtain ⟨p1, p2, f1, f2⟩ := HB5.out.facts; clear hb5)
              refine bodyPost_ret (v := .agg #[.string t, .int .i64 rk]) (by simp [results, Tryd.results91, go_sem, p1, p2]) rfl ?_
              rw [HRR.out]
              exact ⟨t, rfl, ht, HB5.out.fin _ _⟩
        · have hmi : ¬ (m : Int) % 4 = 0 := by omega
          have hmi2 : ¬ (m : Int).tmod 4 = 0 := by rw [Int.tmod_eq_emod_of_nonneg (by omega)]; exact hmi
          have hmi3 : ((m : Int) % 4 != 0) = true := by simpa using hmi
          have HPP := Lib.hid (padN_lt HP1.out (by rw [← hmp]; exact hmod))
          obtain ⟨g, cap3, hgs, hgl, hcells⟩ := HP2.out.pos (by rw [HM.out]; omega)
          rw [HM.out] at hgs
          subst hgs
          have HCL := Lib.hid (fun (i : Nat) (x : UInt8) (hx : (List.replicate p (0 : UInt8) ++ ds)[i]? = some x) => (show (wr.alloc (.cells #[iv 0] 3)).cell? ⟨g, i, none⟩ = some (iv x) from (((Below.refl _ wr).alloc (Nat.le_refl _) _).cell (p := ⟨g, i, none⟩) hgl).trans (hcells i x hx)))
          have hsz := hb.out.size
          clear hcells hmod hmp
          go_wp2_with (at_builtin; refine wpList_append_own _ rfl _ _ 150 rfl w1.heap.size 3 i0 (.int .i64 0) 1 8 Tryd.underlying150 hi hz0' hz1 hz2 rfl (by decide) _ _ _ rfl (own_new wr _ hsz 0) ⟨g, 0, none⟩ m cap3 ((List.replicate p (0 : UInt8) ++ ds).map iv) rfl (by rw [List.length_map, HM.out, Nat.mul_one]) (ird_cells (HCL.out)) (iv_one _) (by unfold maxLen; omega) (by omega) (by simp; omega) ?_; intro v3 w3 hown hgrow hnil; have HI3 := Lib.hid (show Ird w3 v3 (List.replicate (p + 1) 0 ++ ds) from ird_own (B := w1.heap.size) (by rw [List.replicate_succ, List.cons_append, List.length_cons, HM.out, List.map_cons, Nat.add_comm]; exact hown)); obtain ⟨ao3, cap3', rfl⟩ := HI3.out.shape (n := m + 1) (by rw [List.replicate_succ, List.cons_append, List.length_cons, HM.out]); have HB4 := Lib.hid (Below.grown (hb.out.alloc hsz _) hgrow (by simp; omega) (fun k e => by cases e; exact hsz)); clear hown hgrow hnil)
          go_roundw
          case rel => exact ⟨Lib.hid ⟨p + 1, HPP.out, HI3.out⟩, HB4⟩
          case measure => simp [lenV]; have := HMP.out; omega
end Go.Proofs.YtoilgjlbpimcpaaDoor
