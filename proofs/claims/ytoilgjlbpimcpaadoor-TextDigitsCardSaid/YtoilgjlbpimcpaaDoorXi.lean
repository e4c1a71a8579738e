/- The other program's X2C. -/
import Derived.Test.YtoilgjlbpimcpaaDoorXh
namespace Go.Proofs.YtoilgjlbpimcpaaDoor
open Go.RowKit Go.Shelf Tx
set_option linter.unusedVariables false
set_option maxRecDepth 100000

namespace Tx
theorem fold16_all : ∀ a b : Fin 16, (foldD 16 [UInt8.ofNat a.val, UInt8.ofNat b.val]).toNat = 16 * a.val + b.val := by decide +kernel
theorem fold16 {a b : UInt8} (ha : a.toNat < 16) (hb : b.toNat < 16) : (foldD 16 [a, b]).toNat = 16 * a.toNat + b.toNat := by
  have := fold16_all ⟨a.toNat, ha⟩ ⟨b.toNat, hb⟩
  simpa using this
theorem pad_even {ds : List UInt8} (h : ds.length % 2 = 0) : padD ds 2 = ds := by
  unfold padD
  rw [show 2 * ((ds.length + 2 - 1) / 2) - ds.length = 0 by omega]
  rfl
theorem pad_odd {ds : List UInt8} (h : ds.length % 2 = 1) : padD ds 2 = [0] ++ ds := by
  unfold padD
  rw [show 2 * ((ds.length + 2 - 1) / 2) - ds.length = 1 by omega]
  rfl
theorem two_at {D : List UInt8} {j : Nat} {a b : UInt8} (ha : D[j]? = some a) (hb : D[j + 1]? = some b) : (D.drop j).take 2 = [a, b] := by
  obtain ⟨h1, h2⟩ := List.getElem?_eq_some_iff.1 ha
  obtain ⟨h3, h4⟩ := List.getElem?_eq_some_iff.1 hb
  rw [List.drop_eq_getElem_cons h1, h2, List.take_succ_cons, List.drop_eq_getElem_cons h3, h4]
  rfl
/-- One byte more. -/
theorem merged2_next {ds : List UInt8} {j k : Nat} {a b : UInt8} (hj : j = 2 * k) (hk : k < (mergedL ds 2 16).length) (ha : (padD ds 2)[j]? = some a) (hb : (padD ds 2)[j + 1]? = some b) :
    (mergedL ds 2 16).take (k + 1) = (mergedL ds 2 16).take k ++ [foldD 16 [a, b]] := by
  rw [mergedL_length] at hk
  have h := mergedL_get ds (size := 2) (by omega) 16 hk
  rw [Nat.mul_comm k 2, ← hj, two_at ha hb] at h
  exact take_snoc _ _ _ h
theorem padD_len (ds : List UInt8) : (padD ds 2).length = 2 * (mergedL ds 2 16).length := by
  rw [mergedL_length]
  unfold padD
  rw [List.length_append, List.length_replicate]
  omega
theorem pad_all {ds : List UInt8} {size m : Nat} (hm : 0 < m) (h : ∀ c, c ∈ ds → c.toNat < m) : ∀ c, c ∈ padD ds size → c.toNat < m := by
  intro c hc
  unfold padD at hc
  rcases List.mem_append.1 hc with hc | hc
  · rw [(List.mem_replicate.1 hc).2]; exact hm
  · exact h c hc
end Tx
/-- The row v can be read: it holds these numbers. -/
def Ird (w : World) (v : Value) (l : List UInt8) : Prop :=
  (v = .slice none 0 0 ∧ l = []) ∨ ∃ g cap, v = .slice (some ⟨g, 0, none⟩) l.length cap ∧ g < w.heap.size ∧ ∀ (i : Nat) (x : UInt8), l[i]? = some x → w.cell? ⟨g, i, none⟩ = some (iv x)
theorem ird_own {w : World} {B : Nat} {v : Value} {l : List UInt8} (h : w.ownsRow B 3 1 v l.length (l.map iv)) : Ird w v l := by
  rcases h.2 with ⟨rfl, h0⟩ | ⟨g, cap, cur, rfl, hB, hg, _⟩
  · exact .inl ⟨rfl, List.eq_nil_of_length_eq_zero h0⟩
  · refine .inr ⟨g, cap, rfl, (Array.getElem?_eq_some_iff.1 hg).1, fun i x hx => ?_⟩
    have hi := (List.getElem?_eq_some_iff.1 hx).1
    rw [World.ownsRow.cellAt h i (by omega), List.getElem?_map, hx]; rfl
theorem Ird.below {w w' : World} {v : Value} {l : List UInt8} (h : Ird w v l) (hb : Below w.heap.size w w') : Ird w' v l := by
  rcases h with h | ⟨g, cap, h1, h2, h3⟩
  · exact .inl h
  · exact .inr ⟨g, cap, h1, Nat.lt_of_lt_of_le h2 hb.size, fun i x hx => (hb.cell (p := ⟨g, i, none⟩) h2).trans (h3 i x hx)⟩
theorem Ird.pos {w : World} {v : Value} {l : List UInt8} (h : Ird w v l) (h0 : 0 < l.length) : ∃ g cap, v = .slice (some ⟨g, 0, none⟩) l.length cap ∧ g < w.heap.size ∧ ∀ (i : Nat) (x : UInt8), l[i]? = some x → w.cell? ⟨g, i, none⟩ = some (iv x) := by
  rcases h with ⟨_, rfl⟩ | h
  · simp at h0
  · exact h
theorem Ird.shape {w : World} {n : Nat} {v : Value} {l : List UInt8} (h : Ird w v l) (hn : l.length = n) : ∃ ao cap, v = .slice ao n cap := by
  subst hn
  rcases h with ⟨rfl, rfl⟩ | ⟨g, cap, rfl, _⟩
  · exact ⟨_, _, rfl⟩
  · exact ⟨_, _, rfl⟩
theorem own_new (w : World) (B : Nat) (hB : B ≤ w.heap.size) (x : UInt8) : (w.alloc (.cells #[iv x] 3)).ownsRow B 3 1 (.slice (some ⟨w.heap.size, 0, none⟩) 1 1) 1 [iv x] :=
  ⟨rfl, .inr ⟨w.heap.size, 1, #[iv x], rfl, hB, by show (w.heap.push _)[w.heap.size]? = _; simp, Nat.le_refl _, by unfold maxLen; omega, rfl, rfl⟩⟩
theorem iv_one (l : List UInt8) : ∀ u ∈ l.map iv, u.oneCell' = true := by
  intro u hu
  obtain ⟨x, _, rfl⟩ := List.mem_map.1 hu
  rfl
theorem ird_cells {w : World} {g : Nat} {l : List UInt8} (h : ∀ (i : Nat) (x : UInt8), l[i]? = some x → w.cell? ⟨g, i, none⟩ = some (iv x)) : ∀ j u, (l.map iv)[j]? = some u → w.cell? ((⟨g, 0, none⟩ : Addr).add j) = some u := by
  intro j u hu
  rw [List.getElem?_map] at hu
  cases hx : l[j]? with
  | none => rw [hx] at hu; cases hu
  | some x =>
    rw [hx] at hu
    cases hu
    have := h j x hx
    rcases Nat.eq_zero_or_pos j with rfl | hp
    · simpa [Addr.add] using this
    · simpa [Addr.add, Nat.ne_of_gt hp] using this
/-- What digits gives of a valid string. -/
theorem Digits_valid (s : ByteArray) (base group : Nat) (w : World) (hs : s.size ≤ 2000) (hb16 : base ≤ 16) (hg1 : 1 ≤ group) (hg2 : group ≤ 16) (hv : validL (bts s) = true) :
    Calls Tryd.prog 153 #[.string s, .int .i64 base, .int .i64 group] w fun e w' => ∃ v, e = .returned (.tuple #[v, .bool (digitsL (bts s) group base).isSome]) ∧ Below w.heap.size w w' ∧ ∀ ds, digitsL (bts s) group base = some ds → w'.ownsRow w.heap.size 3 1 v ds.length (ds.map iv) := by
  refine (Digits_any s base group w hs hb16 hg1 hg2).mono ?_
  rintro e w' ⟨v, b, rfl, hb, h1, h2⟩
  cases b with
  | true =>
    obtain ⟨hok, hrow⟩ := h1 rfl
    have hd := digitsL_ok hv hok
    refine ⟨v, by rw [hd]; rfl, hb, fun ds h => ?_⟩
    rw [hd] at h
    cases h
    exact hrow
  | false =>
    have hd := digitsL_no (h2 rfl)
    exact ⟨v, by rw [hd]; rfl, hb, fun ds h => by rw [hd] at h; cases h⟩
set_option maxHeartbeats 4000000 in
theorem RX2C_any (s : ByteArray) (w : World) (hss : s.size ≤ 2000) :
    Calls Tryd.prog 89 #[.string s] w (GivesA w (x2cR (bts s))) := by
  have KVs := fun (W : World) => Lib.hid (RValid_any s W (by unfold maxLen; omega))
  cases hv0 : validL (bts s) with
  | false =>
    have KD := fun W => Lib.hid (Digits_any s 16 2 W hss (by omega) (by omega) (by omega))
    rw [hv0] at KVs
    have HR := Lib.hid (show x2cR (bts s) = ([], 1) by unfold x2cR digitsL; rw [hv0]; rfl)
    clear hv0
    go_enter Tryd.func89, Tryd.ntmps89
    go_wp2_with (first
      | (go_at_call 153; (with_reducible refine Calls.mono (KD _).out ?_); rintro e w1 ⟨v1, b1, rfl, hb1, _⟩; have HB5 := Lib.hid ((sbB_new w).step hb1); obtain ⟨p1, p2, f1, f2⟩ := HB5.out.facts; clear hb1)
      | (go_at_call 32; (with_reducible refine Calls.mono (KVs _).out ?_); rintro e w2 ⟨rfl, rfl⟩))
    refine bodyPost_ret (v := .agg #[.string ⟨#[]⟩, .int .i64 1]) (by simp [results, Tryd.results89, go_sem, p1, p2]) rfl ?_
    exact givesA HR.out rfl (HB5.out.fin _ _)
  | true =>
    rw [hv0] at KVs
    have hlen := valid_le hv0
    have KD0 := fun W => Digits_valid s 16 2 W hss (by omega) (by omega) (by omega) hv0
    cases hd : digitsL (bts s) 2 16 with
    | none =>
      rw [hd] at KD0
      have KD := fun W => Lib.hid (KD0 W)
      have HR := Lib.hid (show x2cR (bts s) = ([], 1) by unfold x2cR; rw [hd])
      clear KD0 hd hv0
      go_enter Tryd.func89, Tryd.ntmps89
      go_wp2_with (first
        | (go_at_call 153; (with_reducible refine Calls.mono (KD _).out ?_); rintro e w1 ⟨v1, rfl, hb1, _⟩; have HB5 := Lib.hid ((sbB_new w).step hb1); obtain ⟨p1, p2, f1, f2⟩ := HB5.out.facts; clear hb1)
        | (go_at_call 32; (with_reducible refine Calls.mono (KVs _).out ?_); rintro e w2 ⟨rfl, rfl⟩))
      refine bodyPost_ret (v := .agg #[.string ⟨#[]⟩, .int .i64 1]) (by simp [results, Tryd.results89, go_sem, p1, p2]) rfl ?_
      exact givesA HR.out rfl (HB5.out.fin _ _)
    | some ds =>
      rw [hd] at KD0
      have KD := fun W => Lib.hid (KD0 W)
      have hdl := digitsL_len hd
      rw [bts_length] at hdl
      have HLT := Lib.hid (digitsL_lt (base := 16) (by omega) hd)
      obtain ⟨⟨rl, rk⟩, hrr⟩ : ∃ r, x2cR (bts s) = r := ⟨_, rfl⟩
      have HRR := Lib.hid hrr
      have hml := mergedL_le ds (size := 2) (by omega) 16
      have HML := Lib.hid hml
      have HR := Lib.hid (show outR (mergedL ds 2 16) = (rl, rk) by rw [← hrr]; unfold x2cR outR; rw [hd, if_neg (by omega)])
      have HPL := Lib.hid (padD_len ds)
      obtain ⟨N, hN⟩ : ∃ N, (padD ds 2).length = N := ⟨_, rfl⟩
      have HDN := Lib.hid hN
      have HPA := Lib.hid (pad_all (size := 2) (m := 16) (by omega) HLT.out)
      obtain ⟨i0, hi, hz0', hz1, hz2⟩ := info_parts infoInt
      have hN4 : N ≤ 4000 := by have := HPL.out; have := HDN.out; omega
      by_cases hpar : ds.length % 2 = 0
      · have HPD := Lib.hid (pad_even hpar)
        have hN2 : ds.length = N := by rw [← hN, HPD.out]
        have hpi : (N : Int) % 2 = 0 := by omega
        have hpi2 : (N : Int).tmod 2 = 0 := by rw [Int.tmod_eq_emod_of_nonneg (by omega)]; exact hpi
        clear KD0 hd hv0 hrr hml hpar hN
        go_enter Tryd.func89, Tryd.ntmps89
        go_wp2_with (first
          | (go_at_call 153; (with_reducible refine Calls.mono (KD _).out ?_); rintro e w3 ⟨v1, rfl, hb1, hrow⟩; have HSB3 := Lib.hid ((sbB_new w).step hb1); have hrow' := hrow ds rfl; have HI := Lib.hid (show Ird w3 v1 (padD ds 2) by rw [HPD.out]; exact ird_own hrow'); obtain ⟨ao, cap, rfl⟩ := HI.out.shape HDN.out; clear hb1 hrow hrow')
          | (go_at_call 32; (with_reducible refine Calls.mono (KVs _).out ?_); rintro e w4 ⟨rfl, rfl⟩))
        go_loopw [5, 6] (fun v i wr => ∃ j : Nat, i = .int .i64 j ∧ j ≤ N ∧ Hid (∃ k, j = 2 * k ∧ Br wr w3.heap.size v ((mergedL ds 2 16).take k)) ∧ Hid (Below w3.heap.size w3 wr)) (fun _ i _ => N - (intOf i).toNat)
        case atStart => exact ⟨0, rfl, Nat.zero_le _, Lib.hid ⟨0, rfl, Br.nil _ _⟩, Lib.hid (Below.refl _ _)⟩
        case round =>
          obtain ⟨j, rfl, hj, hjk, hb⟩ := hrel
          obtain ⟨k, hk2, hbr0⟩ := hjk.out
          have HK2 := Lib.hid hk2
          have hbr := Lib.hid hbr0
          clear hjk hk2 hbr0
          by_cases hlt : j < N
          · have hlt2 : j + 1 < N := by have := HK2.out; have := HDN.out; have := HPL.out; omega
            have hkm : k < (mergedL ds 2 16).length := by have := HK2.out; have := HDN.out; have := HPL.out; omega
            obtain ⟨a, ha⟩ : ∃ a, (padD ds 2)[j]? = some a := ⟨_, List.getElem?_eq_getElem (by have := HDN.out; omega)⟩
            obtain ⟨b, hb'⟩ : ∃ b, (padD ds 2)[j + 1]? = some b := ⟨_, List.getElem?_eq_getElem (by have := HDN.out; omega)⟩
            have HNX := Lib.hid (merged2_next HK2.out hkm ha hb')
            have ha16 := HPA.out a (List.mem_of_getElem? ha)
            have hb16 := HPA.out b (List.mem_of_getElem? hb')
            obtain ⟨g, cap3, hgs, hgl, hcells⟩ := (HI.out.below hb.out).pos (by have := HDN.out; omega)
            rw [HDN.out] at hgs
            injection hgs with hao _ hcap
            subst hao
            subst hcap
            have c0 := hcells j a ha
            have c1 := hcells (j + 1) b hb'
            unfold iv at c0 c1
            obtain ⟨q, hq⟩ : ∃ q, q = foldD 16 [a, b] := ⟨_, rfl⟩
            have hqi : (q.toNat : Int) = 16 * (a.toNat : Int) + (b.toNat : Int) := by rw [hq, fold16 ha16 hb16]; omega
            rw [← hq] at HNX
            have ha0 : (a.toNat : Int) < 16 := by omega
            have hb0 : (b.toNat : Int) < 16 := by omega
            have hwq : IntKind.u8.wrap (16 * (a.toNat : Int) + (b.toNat : Int)) = (q.toNat : Int) := by rw [← hqi, IntKind.wrap_u8]; omega
            have hw1 : IntKind.i64.wrap (16 * (a.toNat : Int)) = 16 * (a.toNat : Int) := IntWalk.i64_in _ (by omega)
            have hw2 : IntKind.i64.wrap (16 * (a.toNat : Int) + (b.toNat : Int)) = 16 * (a.toNat : Int) + (b.toNat : Int) := IntWalk.i64_in _ (by omega)
            have HLL := Lib.hid (show ((mergedL ds 2 16).take k).length ≤ 4000 by rw [List.length_take]; have := HML.out; omega)
            have HQI := Lib.hid hqi
            have hlt3 : (j : Int) + 1 < (N : Int) := by omega
            have hj0 : (0 : Int) ≤ (j : Int) + 1 := by omega
            have hw0 : IntKind.i64.wrap ((j : Int) + 1) = (j : Int) + 1 := IntWalk.i64_in _ (by omega)
            have hmix : Tryd.prog.follows .mixedOrders = true := by kernel_rfl
            have hsz := hb.out.size
            clear ha hb' hcells hq hkm hqi ha16 hb16
            go_wp2
            go_region_law (refine step_br rfl _ _ 89 rfl w3.heap.size _ (.slice (some ⟨wr.heap.size, 0, none⟩) 1 1) ((mergedL ds 2 16).take k) [q] rfl rfl (hbr.out.drew.alloc _) (src_cell (by simp [u8v])) (by have := HLL.out; simp only [List.length_cons, List.length_nil]; omega) (by simp; omega) ?_; intro v' w4 hbr' hgrow; have HBR := Lib.hid hbr'; have HB4 := Lib.hid ((Bl.alloc hb.out.drew _).grown hgrow (by simp; omega) hbr.out.own); clear hbr' hgrow)
            all_goals
              go_wp2
              go_roundw
              case rel => exact ⟨j + 2, by go_num, by omega, Lib.hid ⟨k + 1, by have := HK2.out; omega, by rw [HNX.out]; exact HBR.out⟩, HB4⟩
              case measure => simp [intOf]; omega
          · obtain rfl : j = N := by omega
            have KO0 := Rout_any _ _ wr hbr.out.rd (by rw [List.length_take]; have := HML.out; omega)
            rw [List.take_of_length_le (by have := HK2.out; have := HDN.out; have := HPL.out; omega), HR.out] at KO0
            have KO := Lib.hid KO0
            have HSB := Lib.hid (HSB3.out.low hb.out (HSB3.out.le))
            clear KO0
            go_wp2_with (go_at_call 108; refine Calls.mono KO.out ?_; rintro e w8 ⟨t, rfl, ht, hb5⟩; have HB5 := Lib.hid (HSB.out.step hb5); obtain ⟨p1, p2, f1, f2⟩ := HB5.out.facts; clear hb5)
            refine bodyPost_ret (v := .agg #[.string t, .int .i64 rk]) (by simp [results, Tryd.results89, go_sem, p1, p2]) rfl ?_
            rw [HRR.out]
            exact ⟨t, rfl, ht, HB5.out.fin _ _⟩
      · have hpi : (ds.length : Int) % 2 = 1 := by omega
        have hpi2 : (ds.length : Int).tmod 2 = 1 := by rw [Int.tmod_eq_emod_of_nonneg (by omega)]; exact hpi
        have HPD := Lib.hid (pad_odd (show ds.length % 2 = 1 by omega))
        have hN2 : 1 + ds.length = N := by rw [← hN, HPD.out, List.length_append]; rfl
        clear KD0 hd hv0 hrr hml hpar hN
        go_enter Tryd.func89, Tryd.ntmps89
        go_wp2_with (first
          | (go_at_call 153; (with_reducible refine Calls.mono (KD _).out ?_); rintro e w1 ⟨v1, rfl, hb1, hrow⟩; have HSB1 := Lib.hid ((sbB_new w).step hb1); have hrow' := hrow ds rfl; obtain ⟨g, cap, rfl, hgl, hcl⟩ := (ird_own hrow').pos (by omega); have HCL := Lib.hid (fun i x hx => (show (w1.alloc (.cells #[iv 0] 3)).cell? ⟨g, i, none⟩ = some (iv x) from (((Below.refl _ w1).alloc (Nat.le_refl _) _).cell (p := ⟨g, i, none⟩) hgl).trans (hcl i x hx))); clear hb1 hrow hrow')
          | (go_at_call 32; (with_reducible refine Calls.mono (KVs _).out ?_); rintro e w2 ⟨rfl, rfl⟩)
          | (at_builtin; refine wpList_append_own _ rfl _ _ 150 rfl w1.heap.size 3 i0 (.int .i64 0) 1 8 Tryd.underlying150 hi hz0' hz1 hz2 rfl (by decide) _ _ _ rfl (own_new w1 _ (Nat.le_refl _) 0) ⟨g, 0, none⟩ ds.length cap (ds.map iv) rfl (by simp) (ird_cells (HCL.out)) (iv_one ds) (by unfold maxLen; omega) (by omega) (by simp) ?_; intro v3 w3 hown hgrow hnil; have HI := Lib.hid (show Ird w3 v3 (padD ds 2) from ird_own (B := w1.heap.size) (by rw [HPD.out, List.length_append, List.map_append]; exact hown)); obtain ⟨ao3, cap3', rfl⟩ := HI.out.shape HDN.out; have HSB3 := Lib.hid (SbB.grown (HSB1.out.step ((Below.refl _ w1).alloc (Nat.le_refl _) _)) hgrow (fun k e => by cases e; exact HSB1.out.le)); clear hown hgrow hnil))
        go_loopw [5, 6] (fun v i wr => ∃ j : Nat, i = .int .i64 j ∧ j ≤ N ∧ Hid (∃ k, j = 2 * k ∧ Br wr w3.heap.size v ((mergedL ds 2 16).take k)) ∧ Hid (Below w3.heap.size w3 wr)) (fun _ i _ => N - (intOf i).toNat)
        case atStart => exact ⟨0, rfl, Nat.zero_le _, Lib.hid ⟨0, rfl, Br.nil _ _⟩, Lib.hid (Below.refl _ _)⟩
        case round =>
          obtain ⟨j, rfl, hj, hjk, hb⟩ := hrel
          obtain ⟨k, hk2, hbr0⟩ := hjk.out
          have HK2 := Lib.hid hk2
          have hbr := Lib.hid hbr0
          clear hjk hk2 hbr0
          by_cases hlt : j < N
          · have hlt2 : j + 1 < N := by have := HK2.out; have := HDN.out; have := HPL.out; omega
            have hkm : k < (mergedL ds 2 16).length := by have := HK2.out; have := HDN.out; have := HPL.out; omega
            obtain ⟨a, ha⟩ : ∃ a, (padD ds 2)[j]? = some a := ⟨_, List.getElem?_eq_getElem (by have := HDN.out; omega)⟩
            obtain ⟨b, hb'⟩ : ∃ b, (padD ds 2)[j + 1]? = some b := ⟨_, List.getElem?_eq_getElem (by have := HDN.out; omega)⟩
            have HNX := Lib.hid (merged2_next HK2.out hkm ha hb')
            have ha16 := HPA.out a (List.mem_of_getElem? ha)
            have hb16 := HPA.out b (List.mem_of_getElem? hb')
            obtain ⟨g, cap3, hgs, hgl, hcells⟩ := (HI.out.below hb.out).pos (by have := HDN.out; omega)
            rw [HDN.out] at hgs
            injection hgs with hao _ hcap
            subst hao
            subst hcap
            have c0 := hcells j a ha
            have c1 := hcells (j + 1) b hb'
            unfold iv at c0 c1
            obtain ⟨q, hq⟩ : ∃ q, q = foldD 16 [a, b] := ⟨_, rfl⟩
            have hqi : (q.toNat : Int) = 16 * (a.toNat : Int) + (b.toNat : Int) := by rw [hq, fold16 ha16 hb16]; omega
            rw [← hq] at HNX
            have ha0 : (a.toNat : Int) < 16 := by omega
            have hb0 : (b.toNat : Int) < 16 := by omega
            have hwq : IntKind.u8.wrap (16 * (a.toNat : Int) + (b.toNat : Int)) = (q.toNat : Int) := by rw [← hqi, IntKind.wrap_u8]; omega
            have hw1 : IntKind.i64.wrap (16 * (a.toNat : Int)) = 16 * (a.toNat : Int) := IntWalk.i64_in _ (by omega)
            have hw2 : IntKind.i64.wrap (16 * (a.toNat : Int) + (b.toNat : Int)) = 16 * (a.toNat : Int) + (b.toNat : Int) := IntWalk.i64_in _ (by omega)
            have HLL := Lib.hid (show ((mergedL ds 2 16).take k).length ≤ 4000 by rw [List.length_take]; have := HML.out; omega)
            have HQI := Lib.hid hqi
            have hlt3 : (j : Int) + 1 < (N : Int) := by omega
            have hj0 : (0 : Int) ≤ (j : Int) + 1 := by omega
            have hw0 : IntKind.i64.wrap ((j : Int) + 1) = (j : Int) + 1 := IntWalk.i64_in _ (by omega)
            have hmix : Tryd.prog.follows .mixedOrders = true := by kernel_rfl
            have hsz := hb.out.size
            clear ha hb' hcells hq hkm hqi ha16 hb16
            go_wp2
            go_region_law (refine step_br rfl _ _ 89 rfl w3.heap.size _ (.slice (some ⟨wr.heap.size, 0, none⟩) 1 1) ((mergedL ds 2 16).take k) [q] rfl rfl (hbr.out.drew.alloc _) (src_cell (by simp [u8v])) (by have := HLL.out; simp only [List.length_cons, List.length_nil]; omega) (by simp; omega) ?_; intro v' w4 hbr' hgrow; have HBR := Lib.hid hbr'; have HB4 := Lib.hid ((Bl.alloc hb.out.drew _).grown hgrow (by simp; omega) hbr.out.own); clear hbr' hgrow)
            all_goals
              go_wp2
              go_roundw
              case rel => exact ⟨j + 2, by go_num, by omega, Lib.hid ⟨k + 1, by have := HK2.out; omega, by rw [HNX.out]; exact HBR.out⟩, HB4⟩
              case measure => simp [intOf]; omega
          · obtain rfl : j = N := by omega
            have KO0 := Rout_any _ _ wr hbr.out.rd (by rw [List.length_take]; have := HML.out; omega)
            rw [List.take_of_length_le (by have := HK2.out; have := HDN.out; have := HPL.out; omega), HR.out] at KO0
            have KO := Lib.hid KO0
            have HSB := Lib.hid (HSB3.out.low hb.out (HSB3.out.le))
            clear KO0
            go_wp2_with (go_at_call 108; refine Calls.mono KO.out ?_; rintro e w8 ⟨t, rfl, ht, hb5⟩; have HB5 := Lib.hid (HSB.out.step hb5); obtain ⟨p1, p2, f1, f2⟩ := HB5.out.facts; clear hb5)
            refine bodyPost_ret (v := .agg #[.string t, .int .i64 rk]) (by simp [results, Tryd.results89, go_sem, p1, p2]) rfl ?_
            rw [HRR.out]
            exact ⟨t, rfl, ht, HB5.out.fin _ _⟩
end Go.Proofs.YtoilgjlbpimcpaaDoor
