/- split, written; C2X, X2B, B2X. -/
import Derived.Test.YtoilgjlbpimcpaaDoorYa
import Derived.Laws.OwnMore
namespace Go.Proofs.YtoilgjlbpimcpaaDoor
open Go.RowKit Go.Shelf Tx
set_option linter.unusedVariables false
set_option maxRecDepth 100000

/-- What a row owns can be read. -/
theorem rd_own {w : World} {B : Nat} {v : Value} {l : List UInt8} (h : w.ownsRow B 5 1 v l.length (l.map u8v)) : Rd w v l := by
  rcases h.2 with ⟨rfl, h0⟩ | ⟨g, cap, cur, rfl, hB, hg, _⟩
  · exact .inl ⟨rfl, List.eq_nil_of_length_eq_zero h0⟩
  · refine .inr ⟨g, cap, rfl, (Array.getElem?_eq_some_iff.1 hg).1, fun i x hx => ?_⟩
    have hi := (List.getElem?_eq_some_iff.1 hx).1
    rw [World.ownsRow.cellAt h i (by omega), List.getElem?_map, hx]; rfl
theorem Rd.below {w w' : World} {v : Value} {l : List UInt8} (h : Rd w v l) (hb : Below w.heap.size w w') : Rd w' v l := by
  rcases h with h | ⟨g, cap, h1, h2, h3⟩
  · exact .inl h
  · exact .inr ⟨g, cap, h1, Nat.lt_of_lt_of_le h2 hb.size, fun i x hx => (hb.cell (p := ⟨g, i, none⟩) h2).trans (h3 i x hx)⟩
/-- At these places the row has its last bytes. -/
def Partly (F L : List UInt8) (lo a b : Nat) : Prop := L.length = F.length ∧ ∀ p, p < lo ∨ (a ≤ p ∧ p < b) → L[p]? = F[p]?
theorem Partly.set {F L : List UInt8} {lo a b : Nat} {d : UInt8} (h : Partly F L lo (a + 1) b) (hF : F[a]? = some d) : Partly F (L.set a d) lo a b := by
  refine ⟨by rw [List.length_set]; exact h.1, fun p hp => ?_⟩
  rw [List.getElem?_set]
  by_cases e : a = p
  · subst e
    rw [if_pos rfl, if_pos (by rw [h.1]; exact (List.getElem?_eq_some_iff.1 hF).1), hF]
  · rw [if_neg e]; exact h.2 p (by omega)
theorem Partly.next {F L : List UInt8} {lo a b : Nat} (h : Partly F L lo a b) (ha : a = lo) (hab : a ≤ b) (c : Nat) : Partly F L b c c := ⟨h.1, fun p hp => h.2 p (by omega)⟩
theorem Partly.all {F L : List UInt8} {lo a : Nat} (h : Partly F L lo a a) (hl : F.length ≤ lo) : L = F := by
  apply List.ext_getElem?
  intro p
  by_cases hp : p < F.length
  · exact h.2 p (.inl (by omega))
  · rw [List.getElem?_eq_none (by rw [h.1]; omega), List.getElem?_eq_none (by omega)]
set_option maxHeartbeats 4000000 in
theorem split2_any (l : List UInt8) (v : Value) (w : World) (hv : Rd w v l) (hl : l.length ≤ 2000000) :
    Calls Tryd.prog 149 #[v, .int .i64 2, .int .u8 16] w fun e w' => ∃ v', e = .returned v' ∧ w'.ownsRow w.heap.size 5 1 v' (splitL l 2 16).length ((splitL l 2 16).map u8v) ∧ Below w.heap.size w w' := by
  obtain ⟨i5, hi, hz0, hz1, hz2⟩ := info_parts info5
  obtain ⟨va, vc, rfl, hcells⟩ : ∃ va vc, v = .slice va l.length vc ∧ (0 < l.length → ∃ g, va = some ⟨g, 0, none⟩ ∧ g < w.heap.size ∧ ∀ (k : Nat) (c : UInt8), l[k]? = some c → w.cell? ⟨g, k, none⟩ = some (u8v c)) := by
    rcases hv with ⟨rfl, rfl⟩ | ⟨g, cap, rfl, h1, h2⟩
    · exact ⟨_, _, rfl, fun h => by simp at h⟩
    · exact ⟨_, _, rfl, fun h => ⟨g, rfl, h1, h2⟩⟩
  have HC := Lib.hid hcells
  obtain ⟨n, hn⟩ : ∃ n, n = l.length := ⟨_, rfl⟩
  have HN := Lib.hid hn
  obtain ⟨FF, hF⟩ : ∃ FF, FF = splitL l 2 16 := ⟨_, rfl⟩
  have HF := Lib.hid hF
  have HFL := Lib.hid (show FF.length = n * 2 by rw [hF, splitL_length, hn])
  rw [← hF]
  rw [← hn] at HC hl ⊢
  have HT1 := Lib.hid (show (2 : Int) * (n : Int) = ((2 * n : Nat) : Int) by omega)
  have w1 : IntKind.i64.wrap ((2 : Int) * (n : Int)) = (2 : Int) * (n : Int) := IntWalk.i64_in _ (by omega)
  clear hv hcells hn hF
  go_enter Tryd.func149, Tryd.ntmps149
  go_wp2_with (refine wpList_make_full _ rfl _ _ 89 rfl w.heap.size 5 i5 (.int .u8 0) 1 Tryd.underlying89 hi hz0 hz1 _ _ _ _ (2 * n) rfl rfl HT1.out HT1.out (by rw [hz2]; omega) (by unfold maxLen; omega) (Nat.le_refl _) ?_; intro W1 hown hgr; have hB1 : Below w.heap.size w W1 := (Below.refl _ _).grown hgr (Nat.le_refl _) (fun _ h => by cases h); have HOW := Lib.hid hown; have HB1 := Lib.hid hB1; clear hown hgr hB1)
  obtain ⟨G, hG⟩ : ∃ G, G = w.heap.size := ⟨_, rfl⟩
  have HG := Lib.hid hG
  rw [← hG] at HOW HB1 ⊢
  obtain ⟨N, hNN⟩ : ∃ N, N = 2 * n := ⟨_, rfl⟩
  rw [← hNN] at HOW ⊢
  clear w1 hG
  go_loopw [18] (fun f wr => ∃ (k : Nat) (L : List UInt8), f = .int .i64 k ∧ k ≤ n ∧ Hid (Partly FF L (k * 2) (k * 2) (k * 2)) ∧ Hid (wr.ownsRow G 5 1 (.slice (some ⟨G, 0, none⟩) N N) N (L.map u8v)) ∧ Hid (Below G w wr)) (fun f _ => n - (intOf f).toNat)
  case atStart => exact ⟨0, List.replicate N 0, rfl, Nat.zero_le _, Lib.hid ⟨by rw [List.length_replicate, HFL.out]; omega, fun p hp => by omega⟩, Lib.hid (by rw [List.map_replicate]; have := HOW.out; rw [Nat.mul_one] at this; exact (toList_madeCells_one _ _) ▸ this), HB1⟩
  case round =>
    obtain ⟨k, L, rfl, hk, hp, ho, hb⟩ := hrel
    by_cases hlt : k < n
    · obtain ⟨g, rfl, hg, hcc⟩ := HC.out (by omega)
      obtain ⟨c, hc⟩ : ∃ c, l[k]? = some c := ⟨_, List.getElem?_eq_getElem (by rw [← HN.out]; exact hlt)⟩
      have c1 := (hb.out.cell (p := ⟨g, k, none⟩) (by rw [HG.out]; exact hg)).trans (hcc k c hc)
      unfold u8v at c1
      have HGET := Lib.hid (fun q (hq : q < 2) => (show FF[k * 2 + q]? = some (vit 16 c (2 - 1 - q) % 16) by rw [HF.out]; exact splitL_get 2 16 hc hq))
      clear hc hcc
      go_wp2
      go_loopw [9, 10] (fun x a wi => ∃ (m : Nat) (y : UInt8) (L : List UInt8), x = .int .u8 (y.toNat : Int) ∧ a = .int .i64 ((2 : Int) - 1 - (m : Int)) ∧ m ≤ 2 ∧ Hid (y = vit 16 c m) ∧ Hid (Partly FF L (k * 2) (k * 2 + 2 - m) (k * 2 + 2)) ∧ Hid (wi.ownsRow G 5 1 (.slice (some ⟨G, 0, none⟩) N N) N (L.map u8v)) ∧ Hid (Below G w wi)) (fun _ a _ => (intOf a + 1).toNat)
      case atStart => exact ⟨0, c, L, rfl, by simp, Nat.zero_le _, Lib.hid rfl, Lib.hid ⟨hp.out.1, fun p h => hp.out.2 p (by omega)⟩, ho, hb⟩
      case round =>
        obtain ⟨m, y, L, rfl, rfl, hm, hy, hp, ho, hb⟩ := hrel
        by_cases hmt : m < 2
        · obtain ⟨q, hq⟩ : ∃ q : Nat, q = 2 - 1 - m := ⟨_, rfl⟩
          have hqi : (2 : Int) - 1 - (m : Int) = (q : Int) := by omega
          obtain ⟨p, hpp⟩ : ∃ p : Nat, p = k * 2 + q := ⟨_, rfl⟩
          have hpi : (k : Int) * 2 + (q : Int) = (p : Int) := by omega
          have hw1 : IntKind.i64.wrap ((k : Int) * 2) = (k : Int) * 2 := IntWalk.i64_in _ (by omega)
          have hw2 : IntKind.i64.wrap ((k : Int) * 2 + (q : Int)) = (p : Int) := by rw [hpi]; exact IntWalk.i64_in _ (by omega)
          have hpN : p < N := by omega
          have c3 := World.ownsRow.frozenAt ho.out p
          obtain ⟨z, hz⟩ : ∃ z, L[p]? = some z := ⟨_, List.getElem?_eq_getElem (by rw [hp.out.1, HFL.out]; omega)⟩
          have c2 := World.ownsRow.cellAt ho.out p (by omega)
          rw [List.getElem?_map, hz] at c2
          replace c2 : wr.cell? ⟨G, p, none⟩ = some (.int .u8 (z.toNat : Int)) := c2
          obtain ⟨d, hd⟩ : ∃ d, d = y % 16 := ⟨_, rfl⟩
          obtain ⟨y2, hy2⟩ : ∃ y2, y2 = y / 16 := ⟨_, rfl⟩
          have hr1 : (y.toNat : Int) % 16 = (d.toNat : Int) := by rw [hd, UInt8.toNat_mod]; rfl
          have hr2 : (y.toNat : Int).tmod 16 = (d.toNat : Int) := by rw [Int.tmod_eq_emod_of_nonneg (by omega)]; exact hr1
          have hr3 : (y.toNat : Int) / 16 = (y2.toNat : Int) := by rw [hy2, UInt8.toNat_div]; rfl
          have hr4 : (y.toNat : Int).tdiv 16 = (y2.toNat : Int) := by rw [Int.tdiv_eq_ediv_of_nonneg (by omega)]; exact hr3
          have HSET := Lib.hid (show Partly FF (L.set p d) (k * 2) p (k * 2 + 2) from Partly.set (by have := hp.out; rwa [show k * 2 + 2 - m = p + 1 by omega] at this) (by rw [hpp, HGET.out q (by omega), hd, hy.out, show 2 - 1 - q = m by omega]))
          have HPM := Lib.hid (show p = k * 2 + 2 - (m + 1) by omega)
          have HV := Lib.hid (show y2 = vit 16 c (m + 1) by rw [hy2, hy.out]; rfl)
          have HS := Lib.hid (World.ownsRow.stored ho.out p (.int .u8 (d.toNat : Int)))
          have HQ := Lib.hid (show (q : Int) - 1 = (2 : Int) - 1 - ((m + 1 : Nat) : Int) by omega)
          have hqS : q < 2 := by omega
          have hwq : IntKind.i64.wrap ((q : Int) - 1) = (q : Int) - 1 := IntWalk.i64_in _ (by omega)
          have hy256 : (y2.toNat : Int) % 256 = (y2.toNat : Int) := by have := y2.toNat_lt; omega
          have hd256 : (d.toNat : Int) % 256 = (d.toNat : Int) := by have := d.toNat_lt; omega
          rw [hqi]
          clear hqi hpi hq hpp hz hd hy2
          go_wp2
          go_roundw
          case rel => exact ⟨m + 1, y2, _, rfl, by first | (rw [HQ.out]; done) | (rw [← HQ.out]; done) | (rw [HQ.out]; go_num), by omega, HV, Lib.hid (by rw [← HPM.out]; exact HSET.out), Lib.hid (by rw [List.map_set]; exact HS.out.1), Lib.hid (hb.out.setCell (p := ⟨G, p, none⟩) (Nat.le_refl _) _)⟩
          case measure => simp [intOf]
        · obtain rfl : m = 2 := by omega
          have hqi : (2 : Int) - 1 - ((2 : Nat) : Int) = -1 := by omega
          rw [hqi]
          clear hqi
          go_wp2
          go_roundw
          case rel => exact ⟨k + 1, L, by go_num, by omega, Lib.hid (by rw [show (k + 1) * 2 = k * 2 + 2 by omega]; exact Partly.next hp.out (by omega) (by omega) _), ho, hb⟩
          case measure => simp [intOf]; omega
    · obtain rfl : k = n := by omega
      have HE := Lib.hid (Partly.all hp.out (by rw [HFL.out]; exact Nat.le_refl _))
      go_wp2
      go_ret
      refine ⟨_, rfl, ?_, by rw [← HG.out]; exact hb.out⟩
      rw [← HG.out, show FF.length = N by rw [HFL.out, hNN]; omega, ← HE.out]
      exact ho.out
set_option maxHeartbeats 4000000 in
theorem split4_any (l : List UInt8) (v : Value) (w : World) (hv : Rd w v l) (hl : l.length ≤ 2000000) :
    Calls Tryd.prog 149 #[v, .int .i64 4, .int .u8 2] w fun e w' => ∃ v', e = .returned v' ∧ w'.ownsRow w.heap.size 5 1 v' (splitL l 4 2).length ((splitL l 4 2).map u8v) ∧ Below w.heap.size w w' := by
  obtain ⟨i5, hi, hz0, hz1, hz2⟩ := info_parts info5
  obtain ⟨va, vc, rfl, hcells⟩ : ∃ va vc, v = .slice va l.length vc ∧ (0 < l.length → ∃ g, va = some ⟨g, 0, none⟩ ∧ g < w.heap.size ∧ ∀ (k : Nat) (c : UInt8), l[k]? = some c → w.cell? ⟨g, k, none⟩ = some (u8v c)) := by
    rcases hv with ⟨rfl, rfl⟩ | ⟨g, cap, rfl, h1, h2⟩
    · exact ⟨_, _, rfl, fun h => by simp at h⟩
    · exact ⟨_, _, rfl, fun h => ⟨g, rfl, h1, h2⟩⟩
  have HC := Lib.hid hcells
  obtain ⟨n, hn⟩ : ∃ n, n = l.length := ⟨_, rfl⟩
  have HN := Lib.hid hn
  obtain ⟨FF, hF⟩ : ∃ FF, FF = splitL l 4 2 := ⟨_, rfl⟩
  have HF := Lib.hid hF
  have HFL := Lib.hid (show FF.length = n * 4 by rw [hF, splitL_length, hn])
  rw [← hF]
  rw [← hn] at HC hl ⊢
  have HT1 := Lib.hid (show (4 : Int) * (n : Int) = ((4 * n : Nat) : Int) by omega)
  have w1 : IntKind.i64.wrap ((4 : Int) * (n : Int)) = (4 : Int) * (n : Int) := IntWalk.i64_in _ (by omega)
  clear hv hcells hn hF
  go_enter Tryd.func149, Tryd.ntmps149
  go_wp2_with (refine wpList_make_full _ rfl _ _ 89 rfl w.heap.size 5 i5 (.int .u8 0) 1 Tryd.underlying89 hi hz0 hz1 _ _ _ _ (4 * n) rfl rfl HT1.out HT1.out (by rw [hz2]; omega) (by unfold maxLen; omega) (Nat.le_refl _) ?_; intro W1 hown hgr; have hB1 : Below w.heap.size w W1 := (Below.refl _ _).grown hgr (Nat.le_refl _) (fun _ h => by cases h); have HOW := Lib.hid hown; have HB1 := Lib.hid hB1; clear hown hgr hB1)
  obtain ⟨G, hG⟩ : ∃ G, G = w.heap.size := ⟨_, rfl⟩
  have HG := Lib.hid hG
  rw [← hG] at HOW HB1 ⊢
  obtain ⟨N, hNN⟩ : ∃ N, N = 4 * n := ⟨_, rfl⟩
  rw [← hNN] at HOW ⊢
  clear w1 hG
  go_loopw [18] (fun f wr => ∃ (k : Nat) (L : List UInt8), f = .int .i64 k ∧ k ≤ n ∧ Hid (Partly FF L (k * 4) (k * 4) (k * 4)) ∧ Hid (wr.ownsRow G 5 1 (.slice (some ⟨G, 0, none⟩) N N) N (L.map u8v)) ∧ Hid (Below G w wr)) (fun f _ => n - (intOf f).toNat)
  case atStart => exact ⟨0, List.replicate N 0, rfl, Nat.zero_le _, Lib.hid ⟨by rw [List.length_replicate, HFL.out]; omega, fun p hp => by omega⟩, Lib.hid (by rw [List.map_replicate]; have := HOW.out; rw [Nat.mul_one] at this; exact (toList_madeCells_one _ _) ▸ this), HB1⟩
  case round =>
    obtain ⟨k, L, rfl, hk, hp, ho, hb⟩ := hrel
    by_cases hlt : k < n
    · obtain ⟨g, rfl, hg, hcc⟩ := HC.out (by omega)
      obtain ⟨c, hc⟩ : ∃ c, l[k]? = some c := ⟨_, List.getElem?_eq_getElem (by rw [← HN.out]; exact hlt)⟩
      have c1 := (hb.out.cell (p := ⟨g, k, none⟩) (by rw [HG.out]; exact hg)).trans (hcc k c hc)
      unfold u8v at c1
      have HGET := Lib.hid (fun q (hq : q < 4) => (show FF[k * 4 + q]? = some (vit 2 c (4 - 1 - q) % 2) by rw [HF.out]; exact splitL_get 4 2 hc hq))
      clear hc hcc
      go_wp2
      go_loopw [9, 10] (fun x a wi => ∃ (m : Nat) (y : UInt8) (L : List UInt8), x = .int .u8 (y.toNat : Int) ∧ a = .int .i64 ((4 : Int) - 1 - (m : Int)) ∧ m ≤ 4 ∧ Hid (y = vit 2 c m) ∧ Hid (Partly FF L (k * 4) (k * 4 + 4 - m) (k * 4 + 4)) ∧ Hid (wi.ownsRow G 5 1 (.slice (some ⟨G, 0, none⟩) N N) N (L.map u8v)) ∧ Hid (Below G w wi)) (fun _ a _ => (intOf a + 1).toNat)
      case atStart => exact ⟨0, c, L, rfl, by simp, Nat.zero_le _, Lib.hid rfl, Lib.hid ⟨hp.out.1, fun p h => hp.out.2 p (by omega)⟩, ho, hb⟩
      case round =>
        obtain ⟨m, y, L, rfl, rfl, hm, hy, hp, ho, hb⟩ := hrel
        by_cases hmt : m < 4
        · obtain ⟨q, hq⟩ : ∃ q : Nat, q = 4 - 1 - m := ⟨_, rfl⟩
          have hqi : (4 : Int) - 1 - (m : Int) = (q : Int) := by omega
          obtain ⟨p, hpp⟩ : ∃ p : Nat, p = k * 4 + q := ⟨_, rfl⟩
          have hpi : (k : Int) * 4 + (q : Int) = (p : Int) := by omega
          have hw1 : IntKind.i64.wrap ((k : Int) * 4) = (k : Int) * 4 := IntWalk.i64_in _ (by omega)
          have hw2 : IntKind.i64.wrap ((k : Int) * 4 + (q : Int)) = (p : Int) := by rw [hpi]; exact IntWalk.i64_in _ (by omega)
          have hpN : p < N := by omega
          have c3 := World.ownsRow.frozenAt ho.out p
          obtain ⟨z, hz⟩ : ∃ z, L[p]? = some z := ⟨_, List.getElem?_eq_getElem (by rw [hp.out.1, HFL.out]; omega)⟩
          have c2 := World.ownsRow.cellAt ho.out p (by omega)
          rw [List.getElem?_map, hz] at c2
          replace c2 : wr.cell? ⟨G, p, none⟩ = some (.int .u8 (z.toNat : Int)) := c2
          obtain ⟨d, hd⟩ : ∃ d, d = y % 2 := ⟨_, rfl⟩
          obtain ⟨y2, hy2⟩ : ∃ y2, y2 = y / 2 := ⟨_, rfl⟩
          have hr1 : (y.toNat : Int) % 2 = (d.toNat : Int) := by rw [hd, UInt8.toNat_mod]; rfl
          have hr2 : (y.toNat : Int).tmod 2 = (d.toNat : Int) := by rw [Int.tmod_eq_emod_of_nonneg (by omega)]; exact hr1
          have hr3 : (y.toNat : Int) / 2 = (y2.toNat : Int) := by rw [hy2, UInt8.toNat_div]; rfl
          have hr4 : (y.toNat : Int).tdiv 2 = (y2.toNat : Int) := by rw [Int.tdiv_eq_ediv_of_nonneg (by omega)]; exact hr3
          have HSET := Lib.hid (show Partly FF (L.set p d) (k * 4) p (k * 4 + 4) from Partly.set (by have := hp.out; rwa [show k * 4 + 4 - m = p + 1 by omega] at this) (by rw [hpp, HGET.out q (by omega), hd, hy.out, show 4 - 1 - q = m by omega]))
          have HPM := Lib.hid (show p = k * 4 + 4 - (m + 1) by omega)
          have HV := Lib.hid (show y2 = vit 2 c (m + 1) by rw [hy2, hy.out]; rfl)
          have HS := Lib.hid (World.ownsRow.stored ho.out p (.int .u8 (d.toNat : Int)))
          have HQ := Lib.hid (show (q : Int) - 1 = (4 : Int) - 1 - ((m + 1 : Nat) : Int) by omega)
          have hqS : q < 4 := by omega
          have hwq : IntKind.i64.wrap ((q : Int) - 1) = (q : Int) - 1 := IntWalk.i64_in _ (by omega)
          have hy256 : (y2.toNat : Int) % 256 = (y2.toNat : Int) := by have := y2.toNat_lt; omega
          have hd256 : (d.toNat : Int) % 256 = (d.toNat : Int) := by have := d.toNat_lt; omega
          rw [hqi]
          clear hqi hpi hq hpp hz hd hy2
          go_wp2
          go_roundw
          case rel => exact ⟨m + 1, y2, _, rfl, by first | (rw [HQ.out]; done) | (rw [← HQ.out]; done) | (rw [HQ.out]; go_num), by omega, HV, Lib.hid (by rw [← HPM.out]; exact HSET.out), Lib.hid (by rw [List.map_set]; exact HS.out.1), Lib.hid (hb.out.setCell (p := ⟨G, p, none⟩) (Nat.le_refl _) _)⟩
          case measure => simp [intOf]
        · obtain rfl : m = 4 := by omega
          have hqi : (4 : Int) - 1 - ((4 : Nat) : Int) = -1 := by omega
          rw [hqi]
          clear hqi
          go_wp2
          go_roundw
          case rel => exact ⟨k + 1, L, by go_num, by omega, Lib.hid (by rw [show (k + 1) * 4 = k * 4 + 4 by omega]; exact Partly.next hp.out (by omega) (by omega) _), ho, hb⟩
          case measure => simp [intOf]; omega
    · obtain rfl : k = n := by omega
      have HE := Lib.hid (Partly.all hp.out (by rw [HFL.out]; exact Nat.le_refl _))
      go_wp2
      go_ret
      refine ⟨_, rfl, ?_, by rw [← HG.out]; exact hb.out⟩
      rw [← HG.out, show FF.length = N by rw [HFL.out, hNN]; omega, ← HE.out]
      exact ho.out
set_option maxHeartbeats 4000000 in
theorem written1_any (c : UInt8) (w : World) (h : c.toNat < 16) :
    Calls Tryd.prog 171 #[.int .u8 (c.toNat : Int)] w fun e w' => e = .returned (.int .u8 ((hexB c).toNat : Int)) ∧ w = w' := by
  have hc : c = UInt8.ofNat c.toNat := by simp
  obtain ⟨n, hn⟩ : ∃ n, n = c.toNat := ⟨_, rfl⟩
  rw [← hn] at h hc
  subst hc
  clear hn
  match n, h with
  | 0, _ =>
    go_enter Tryd.func171, Tryd.ntmps171
    go_wp2
    go_ret
    exact ⟨ret_i (by decide), rfl⟩
  | 1, _ =>
    go_enter Tryd.func171, Tryd.ntmps171
    go_wp2
    go_ret
    exact ⟨ret_i (by decide), rfl⟩
  | 2, _ =>
    go_enter Tryd.func171, Tryd.ntmps171
    go_wp2
    go_ret
    exact ⟨ret_i (by decide), rfl⟩
  | 3, _ =>
    go_enter Tryd.func171, Tryd.ntmps171
    go_wp2
    go_ret
    exact ⟨ret_i (by decide), rfl⟩
  | 4, _ =>
    go_enter Tryd.func171, Tryd.ntmps171
    go_wp2
    go_ret
    exact ⟨ret_i (by decide), rfl⟩
  | 5, _ =>
    go_enter Tryd.func171, Tryd.ntmps171
    go_wp2
    go_ret
    exact ⟨ret_i (by decide), rfl⟩
  | 6, _ =>
    go_enter Tryd.func171, Tryd.ntmps171
    go_wp2
    go_ret
    exact ⟨ret_i (by decide), rfl⟩
  | 7, _ =>
    go_enter Tryd.func171, Tryd.ntmps171
    go_wp2
    go_ret
    exact ⟨ret_i (by decide), rfl⟩
  | 8, _ =>
    go_enter Tryd.func171, Tryd.ntmps171
    go_wp2
    go_ret
    exact ⟨ret_i (by decide), rfl⟩
  | 9, _ =>
    go_enter Tryd.func171, Tryd.ntmps171
    go_wp2
    go_ret
    exact ⟨ret_i (by decide), rfl⟩
  | 10, _ =>
    go_enter Tryd.func171, Tryd.ntmps171
    go_wp2
    go_ret
    exact ⟨ret_i (by decide), rfl⟩
  | 11, _ =>
    go_enter Tryd.func171, Tryd.ntmps171
    go_wp2
    go_ret
    exact ⟨ret_i (by decide), rfl⟩
  | 12, _ =>
    go_enter Tryd.func171, Tryd.ntmps171
    go_wp2
    go_ret
    exact ⟨ret_i (by decide), rfl⟩
  | 13, _ =>
    go_enter Tryd.func171, Tryd.ntmps171
    go_wp2
    go_ret
    exact ⟨ret_i (by decide), rfl⟩
  | 14, _ =>
    go_enter Tryd.func171, Tryd.ntmps171
    go_wp2
    go_ret
    exact ⟨ret_i (by decide), rfl⟩
  | 15, _ =>
    go_enter Tryd.func171, Tryd.ntmps171
    go_wp2
    go_ret
    exact ⟨ret_i (by decide), rfl⟩
  | n + 16, h => omega
set_option maxHeartbeats 2000000 in
/-- replaced, where the function is that of written. -/
theorem replacedW_any (s : ByteArray) (w : World) (hs : s.size ≤ 1000000) (h16 : ∀ c, c ∈ bts s → c.toNat < 16) :
    Calls Tryd.prog 142 #[.string s, .func (.func 171) #[] #[]] w fun e w' => ∃ t, e = .returned (.string t) ∧ Hid (bts t = (bts s).map hexB) ∧ Below w.heap.size w w' := by
  obtain ⟨cap, w1, hconv, hby, hcap, hb1⟩ := conv_bytes s w
  have HF := Lib.hid (fun (c : UInt8) (hc : c ∈ bts s) (W : World) => written1_any c W (h16 c hc))
  have HBY := Lib.hid hby
  have HB1 := Lib.hid hb1
  obtain ⟨G, hG⟩ : ∃ G, G = w.heap.size := ⟨_, rfl⟩
  have HG := Lib.hid hG
  clear h16 hby hb1
  go_enter Tryd.func142, Tryd.ntmps142
  rw [← hG] at hconv
  clear hG
  go_wp2
  clear hconv
  go_loopw [12] (fun v wr => ∃ k : Nat, v = .int .i64 k ∧ k ≤ s.size ∧ Hid (Bys wr G (((bts s).take k).map hexB ++ (bts s).drop k)) ∧ Hid (Below w.heap.size w wr)) (fun v _ => s.size - (intOf v).toNat)
  case atStart => exact ⟨0, rfl, Nat.zero_le _, Lib.hid (by rw [HG.out]; simpa using HBY.out), HB1⟩
  case round =>
    obtain ⟨k, rfl, hk, hby, hb⟩ := hrel
    have hlen : (((bts s).take k).map hexB ++ (bts s).drop k).length = s.size := by simp [bts_length]; omega
    by_cases hlt : k < s.size
    · have hg := bts_get s hlt
      have c1 := hby.out.cell (get_step (f := hexB) hg)
      have c2 := hby.out.frozen (i := k) (by rw [hlen]; exact hlt)
      have KF := Lib.hid (HF.out s[k] (List.mem_of_getElem? hg) wr)
      have HS := Lib.hid (set_step (f := hexB) hg)
      obtain ⟨x, hx⟩ : ∃ x, x = s[k] := ⟨_, rfl⟩
      rw [← hx] at c1 KF HS
      obtain ⟨y, hy⟩ : ∃ y, y = hexB x := ⟨_, rfl⟩
      rw [← hy] at KF HS
      clear hx hy hg hlen
      go_wp2_with (go_at_call 171; refine Calls.mono KF.out ?_; rintro e w2 ⟨rfl, rfl⟩)
      go_roundw
      case rel => exact ⟨k + 1, by go_num, by omega, Lib.hid (by rw [← HS.out]; exact hby.out.set), Lib.hid (hb.out.setCell (p := ⟨G, k, none⟩) (by rw [HG.out]; exact Nat.le_refl _) _)⟩
      case measure => simp [intOf]; omega
    · obtain rfl : k = s.size := by omega
      have e : ((bts s).take s.size).map hexB ++ (bts s).drop s.size = (bts s).map hexB := by
        rw [List.take_of_length_le (by rw [bts_length]; exact Nat.le_refl _), List.drop_eq_nil_of_le (by rw [bts_length]; exact Nat.le_refl _)]; simp
      obtain ⟨L, hL⟩ : ∃ L, L = (bts s).map hexB := ⟨_, rfl⟩
      have hcs : Cells wr G 0 L := by have := hby.out.cells; rw [e, ← hL] at this; exact this
      have hLl : L.length = s.size := by rw [hL]; simp [bts_length]
      have hback := conv_str (c := cap) hcs
      rw [hLl] at hback
      have HL := Lib.hid hL
      clear hlen e hL hcs hLl
      go_wp2
      go_ret
      exact ⟨_, rfl, Lib.hid (by rw [bts_mk, HL.out]), hb.out⟩

set_option maxHeartbeats 1000000 in
theorem written_any (v : Value) (l : List UInt8) (w : World) (hv : Rd w v l) (hl : l.length ≤ 1000000) (h16 : ∀ c, c ∈ l → c.toNat < 16) :
    Calls Tryd.prog 148 #[v] w fun e w' => ∃ t, e = .returned (.string t) ∧ Hid (bts t = l.map hexB) ∧ Below w.heap.size w w' := by
  obtain ⟨t, hconv, ht⟩ := conv_rd hv
  have KR := Lib.hid (replacedW_any t w (by rw [size_of_bts ht]; exact hl) (by rw [ht]; exact h16))
  rw [ht] at KR
  clear hv ht h16
  go_enter Tryd.func148, Tryd.ntmps148
  go_wp2_with (go_at_call 142; refine Calls.mono KR.out ?_; rintro e w1 ⟨t2, rfl, ht2, hb2⟩)
  go_ret
  exact ⟨_, rfl, ht2, hb2⟩
end Go.Proofs.YtoilgjlbpimcpaaDoor
