/- The other program's X2B. -/
import Derived.Test.YtoilgjlbpimcpaaDoorXi
namespace Go.Proofs.YtoilgjlbpimcpaaDoor
open Go.RowKit Go.Shelf Tx
set_option linter.unusedVariables false
set_option maxRecDepth 100000

namespace Tx
theorem bits_all : ∀ r : Fin 4, ∀ a : Fin 16, ((digs (UInt8.ofNat a.val) 4 2)[r.val]?).map UInt8.toNat = some (a.val / (8 / 2 ^ r.val) % 2) := by decide +kernel
theorem bits_at {a : UInt8} {r : Nat} (hr : r < 4) (ha : a.toNat < 16) : ∃ d, (digs a 4 2)[r]? = some d ∧ d.toNat = a.toNat / (8 / 2 ^ r) % 2 := by
  have := bits_all ⟨r, hr⟩ ⟨a.toNat, ha⟩
  simp only [UInt8.ofNat_toNat] at this
  obtain ⟨d, h1, h2⟩ := Option.map_eq_some_iff.1 this
  exact ⟨d, h1, h2⟩
theorem pows : ∀ r : Fin 4, 8 / 2 ^ r.val / 2 = 8 / 2 ^ (r.val + 1) ∧ 0 < 8 / 2 ^ r.val ∧ 8 / 2 ^ r.val ≤ 8 := by decide
theorem split4_snoc {l : List UInt8} {k : Nat} {x : UInt8} (h : l[k]? = some x) : (splitL (l.take (k + 1)) 4 2).map hexB = (splitL (l.take k) 4 2).map hexB ++ (digs x 4 2).map hexB := by
  have app : ∀ a b : List UInt8, splitL (a ++ b) 4 2 = splitL a 4 2 ++ splitL b 4 2 := by
    intro a
    induction a with
    | nil => intro b; rfl
    | cons y a ih => intro b; simp [splitL, ih]
  rw [take_snoc l k x h, app, List.map_append]
  congr 1
theorem x2b_out {l ds : List UInt8} (hd : digitsL l 2 16 = some ds) : outR ((splitL ds 4 2).map hexB) = x2bR l := by
  unfold x2bR
  rw [hd]
  have hl : ((splitL ds 4 2).map hexB).length = 4 * ds.length := by rw [List.length_map, splitL_length]; omega
  have hc : ∀ c, c ∈ splitL ds 4 2 → c.toNat < 16 := fun c hc => Nat.lt_trans (splitL_lt (b := 2) (by decide) hc) (by decide)
  by_cases h : 1000 < 4 * ds.length
  · simp only [if_pos h]; rw [outR_long (by omega)]
  · simp only [if_neg h]; rw [outR_ok (clean_hex hc) (by omega)]
end Tx
set_option maxHeartbeats 4000000 in
theorem RX2B_any (s : ByteArray) (w : World) (hss : s.size ≤ 2000) :
    Calls Tryd.prog 90 #[.string s] w (GivesA w (x2bR (bts s))) := by
  have KVs := fun (W : World) => Lib.hid (RValid_any s W (by unfold maxLen; omega))
  cases hv0 : validL (bts s) with
  | false =>
    have KD := fun W => Lib.hid (Digits_any s 16 2 W hss (by omega) (by omega) (by omega))
    rw [hv0] at KVs
    have HR := Lib.hid (show x2bR (bts s) = ([], 1) by unfold x2bR digitsL; rw [hv0]; rfl)
    clear hv0
    go_enter Tryd.func90, Tryd.ntmps90
    go_wp2_with (first
      | (go_at_call 153; (with_reducible refine Calls.mono (KD _).out ?_); rintro e w1 ⟨v1, b1, rfl, hb1, _⟩; have HB5 := Lib.hid ((sbB_new w).step hb1); obtain ⟨p1, p2, f1, f2⟩ := HB5.out.facts; clear hb1)
      | (go_at_call 32; (with_reducible refine Calls.mono (KVs _).out ?_); rintro e w2 ⟨rfl, rfl⟩))
    refine bodyPost_ret (v := .agg #[.string ⟨#[]⟩, .int .i64 1]) (by simp [results, Tryd.results90, go_sem, p1, p2]) rfl ?_
    exact givesA HR.out rfl (HB5.out.fin _ _)
  | true =>
    rw [hv0] at KVs
    have hlen := valid_le hv0
    have KD0 := fun W => Digits_valid s 16 2 W hss (by omega) (by omega) (by omega) hv0
    cases hd : digitsL (bts s) 2 16 with
    | none =>
      rw [hd] at KD0
      have KD := fun W => Lib.hid (KD0 W)
      have HR := Lib.hid (show x2bR (bts s) = ([], 1) by unfold x2bR; rw [hd])
      clear KD0 hd hv0
      go_enter Tryd.func90, Tryd.ntmps90
      go_wp2_with (first
        | (go_at_call 153; (with_reducible refine Calls.mono (KD _).out ?_); rintro e w1 ⟨v1, rfl, hb1, _⟩; have HB5 := Lib.hid ((sbB_new w).step hb1); obtain ⟨p1, p2, f1, f2⟩ := HB5.out.facts; clear hb1)
        | (go_at_call 32; (with_reducible refine Calls.mono (KVs _).out ?_); rintro e w2 ⟨rfl, rfl⟩))
      refine bodyPost_ret (v := .agg #[.string ⟨#[]⟩, .int .i64 1]) (by simp [results, Tryd.results90, go_sem, p1, p2]) rfl ?_
      exact givesA HR.out rfl (HB5.out.fin _ _)
    | some ds =>
      rw [hd] at KD0
      have KD := fun W => Lib.hid (KD0 W)
      have hdl := digitsL_len hd
      rw [bts_length] at hdl
      have HLT := Lib.hid (digitsL_lt (base := 16) (by omega) hd)
      obtain ⟨⟨rl, rk⟩, hrr⟩ : ∃ r, x2bR (bts s) = r := ⟨_, rfl⟩
      have HRR := Lib.hid hrr
      have HR := Lib.hid (show outR ((splitL ds 4 2).map hexB) = (rl, rk) by rw [← hrr]; exact x2b_out hd)
      obtain ⟨N, hN⟩ : ∃ N, ds.length = N := ⟨_, rfl⟩
      have HDN := Lib.hid hN
      have hN4 : N ≤ 1000 := by omega
      clear KD0 hd hv0 hrr hN
      go_enter Tryd.func90, Tryd.ntmps90
      go_wp2_with (first
        | (go_at_call 153; (with_reducible refine Calls.mono (KD _).out ?_); rintro e w3 ⟨v1, rfl, hb1, hrow⟩; have HSB3 := Lib.hid ((sbB_new w).step hb1); have hrow' := hrow ds rfl; have HI := Lib.hid (ird_own hrow'); obtain ⟨ao, cap, rfl⟩ := HI.out.shape HDN.out; clear hb1 hrow hrow')
        | (go_at_call 32; (with_reducible refine Calls.mono (KVs _).out ?_); rintro e w4 ⟨rfl, rfl⟩))
      go_loopw [5, 6] (fun v i wr => ∃ j : Nat, i = .int .i64 j ∧ j ≤ N ∧ Hid (Br wr w3.heap.size v ((splitL (ds.take j) 4 2).map hexB)) ∧ Hid (Below w3.heap.size w3 wr)) (fun _ i _ => N - (intOf i).toNat)
      case atStart => exact ⟨0, rfl, Nat.zero_le _, Lib.hid (Br.nil _ _), Lib.hid (Below.refl _ _)⟩
      case round =>
        obtain ⟨j, rfl, hj, hbr, hb⟩ := hrel
        by_cases hlt : j < N
        · obtain ⟨a, ha⟩ : ∃ a, ds[j]? = some a := ⟨_, List.getElem?_eq_getElem (by have := HDN.out; omega)⟩
          have HSN := Lib.hid (split4_snoc ha)
          have ha16 := HLT.out a (List.mem_of_getElem? ha)
          have HA := Lib.hid ha
          have HA16 := Lib.hid ha16
          clear ha ha16
          go_wp2
          go_loopw [5, 7] (fun v m wr => ∃ kk : Nat, m = .int .i64 kk ∧ kk ≤ 8 ∧ Hid (∃ r, r ≤ 4 ∧ kk = 8 / 2 ^ r ∧ Br wr w3.heap.size v ((splitL (ds.take j) 4 2).map hexB ++ ((digs a 4 2).take r).map hexB)) ∧ Hid (Below w3.heap.size w3 wr)) (fun _ m _ => (intOf m).toNat)
          case atStart => exact ⟨8, rfl, Nat.le_refl _, Lib.hid ⟨0, by omega, rfl, by simpa using hbr.out⟩, hb⟩
          case round =>
            obtain ⟨kk, rfl, hk8, hr, hb⟩ := hrel
            obtain ⟨r, hr4, hkr, hbr0⟩ := hr.out
            have hbr := Lib.hid hbr0
            clear hr hbr0
            by_cases hr' : r < 4
            · obtain ⟨d, hd1, hd2⟩ := bits_at hr' HA16.out
              obtain ⟨hp1, hp2, hp3⟩ := pows ⟨r, hr'⟩
              dsimp only at hp1 hp2 hp3
              rw [← hkr] at hd2 hp1 hp2 hp3
              have HTK := Lib.hid (take_snoc _ _ _ hd1)
              have HKR := Lib.hid hp1
              obtain ⟨x, hx⟩ : ∃ x, x = a.toNat / kk := ⟨_, rfl⟩
              obtain ⟨k2, hk2⟩ : ∃ k2, k2 = kk / 2 := ⟨_, rfl⟩
              rw [← hx] at hd2
              have hkp : (0 : Int) < (kk : Int) := by omega
              have hkn : ¬ (kk : Int) = 0 := by omega
              have hq1 : (a.toNat : Int) / (kk : Int) = (x : Int) := by rw [hx]; exact (Int.natCast_ediv _ _).symm
              have hq2 : (a.toNat : Int).tdiv (kk : Int) = (x : Int) := by rw [Int.tdiv_eq_ediv_of_nonneg (by omega)]; exact hq1
              have hm1 : (x : Int) % 2 = (d.toNat : Int) := by omega
              have hm2 : (x : Int).tmod 2 = (d.toNat : Int) := by rw [Int.tmod_eq_emod_of_nonneg (by omega)]; exact hm1
              have hh1 : (kk : Int) / 2 = (k2 : Int) := by omega
              have hh2 : (kk : Int).tdiv 2 = (k2 : Int) := by rw [Int.tdiv_eq_ediv_of_nonneg (by omega)]; exact hh1
              have hd16 : d.toNat < 16 := by omega
              have hdi : (d.toNat : Int) < 16 := by omega
              have hnd := num_get hd16
              unfold numB at hnd
              have hx16 : (x : Int) < 16 := by have := Nat.div_le_self a.toNat kk; have := HA16.out; omega
              have hwx : IntKind.i64.wrap (x : Int) = (x : Int) := IntWalk.i64_in _ (by omega)
              have hwk : IntKind.i64.wrap (k2 : Int) = (k2 : Int) := IntWalk.i64_in _ (by omega)
              have HK2 := Lib.hid hk2
              have HKK := Lib.hid hkr
              have HK2lt := Lib.hid (show k2 < kk by omega)
              obtain ⟨g, cap3, hgs, hgl, hcells⟩ := (HI.out.below hb.out).pos (by have := HDN.out; omega)
              rw [HDN.out] at hgs
              injection hgs with hao _ hcap
              subst hao
              subst hcap
              have c0 := hcells j a HA.out
              unfold iv at c0
              have HLL := Lib.hid (show ((splitL (ds.take j) 4 2).map hexB ++ ((digs a 4 2).take r).map hexB).length ≤ 8000 by rw [List.length_append, List.length_map, List.length_map, splitL_length, List.length_take, List.length_take]; omega)
              have hsz := hb.out.size
              clear hx hk2 hd1 hd2 hp1 hp2 hp3 hkr hcells
              go_wp2_with (at_builtin; refine wpList_br rfl _ _ 89 rfl w3.heap.size _ (.slice (some ⟨wr.heap.size, 0, none⟩) 1 1) ((splitL (ds.take j) 4 2).map hexB ++ ((digs a 4 2).take r).map hexB) [hexB d] rfl rfl (hbr.out.alloc _) (src_cell (by simp [u8v])) (by have := HLL.out; simp only [List.length_cons, List.length_nil]; omega) (by simp; omega) ?_; intro v' w4 hbr' hgrow; have HBR := Lib.hid hbr'; have HB4 := Lib.hid ((Bl.alloc hb.out _).grown hgrow (by simp; omega) hbr.out.own); clear hbr' hgrow)
              go_roundw
              case rel => exact ⟨k2, by go_num, by have := HK2lt.out; omega, Lib.hid ⟨r + 1, by omega, by have := HKR.out; have := HK2.out; omega, by rw [HTK.out, List.map_append, ← List.append_assoc]; exact HBR.out⟩, HB4⟩
              case measure => have := HK2lt.out; simp [intOf]; omega
            · obtain rfl : r = 4 := by omega
              have hk0 : kk = 0 := by omega
              subst hk0
              have HT := Lib.hid (show (digs a 4 2).take 4 = digs a 4 2 from List.take_of_length_le (by rw [digs_length]; exact Nat.le_refl _))
              go_wp2
              go_roundw
              case rel => exact ⟨j + 1, by go_num, by omega, Lib.hid (by rw [HSN.out, ← HT.out]; exact hbr.out), hb⟩
              case measure => simp [intOf]; omega
        · obtain rfl : j = N := by omega
          have KO0 := Rout_any _ _ wr hbr.out.rd (by rw [List.length_map, splitL_length, List.length_take]; omega)
          rw [List.take_of_length_le (by have := HDN.out; omega), HR.out] at KO0
          have KO := Lib.hid KO0
          have HSB := Lib.hid (HSB3.out.low hb.out (HSB3.out.le))
          clear KO0
          go_wp2_with (go_at_call 108; refine Calls.mono KO.out ?_; rintro e w8 ⟨t, rfl, ht, hb5⟩; have HB5 := Lib.hid (HSB.out.step hb5); obtain ⟨p1, p2, f1, f2⟩ := HB5.out.facts; clear hb5)
          refine bodyPost_ret (v := .agg #[.string t, .int .i64 rk]) (by simp [results, Tryd.results90, go_sem, p1, p2]) rfl ?_
          rw [HRR.out]
          exact ⟨t, rfl, ht, HB5.out.fin _ _⟩
end Go.Proofs.YtoilgjlbpimcpaaDoor
