/- Digits put together. -/
import Derived.Test.YtoilgjlbpimcpaaDoorTw2
import Derived.Laws.OwnMore
namespace Go.Proofs.YtoilgjlbpimcpaaDoor
open Go.RowKit Go.Shelf Tx
set_option linter.unusedVariables false
set_option maxRecDepth 100000

namespace Tx
/-- The values after so many digits. -/
def mst (ds : List UInt8) (size : Nat) (base : UInt8) : Nat → List UInt8
  | 0 => List.replicate ((ds.length + size - 1) / size) 0
  | k + 1 => (mst ds size base k).set ((k + (size * ((ds.length + size - 1) / size) - ds.length)) / size) ((mst ds size base k).getD ((k + (size * ((ds.length + size - 1) / size) - ds.length)) / size) 0 * base + ds.getD k 0)
def mergedL (ds : List UInt8) (size : Nat) (base : UInt8) : List UInt8 := mst ds size base ds.length
theorem mst_length (ds : List UInt8) (size : Nat) (base : UInt8) (k : Nat) : (mst ds size base k).length = (ds.length + size - 1) / size := by
  induction k with
  | zero => simp [mst]
  | succ k ih => rw [mst, List.length_set, ih]
theorem ceil_ge {n size : Nat} (h : 1 ≤ size) : n ≤ size * ((n + size - 1) / size) := by
  have h1 := Nat.div_add_mod (n + size - 1) size
  have h2 := Nat.mod_lt (n + size - 1) (show size > 0 by omega)
  omega
theorem ceil_le (n size : Nat) (h : 1 ≤ size) : (n + size - 1) / size ≤ n := by
  rcases Nat.eq_zero_or_pos n with rfl | hn
  · exact Nat.le_of_eq (Nat.div_eq_of_lt (by omega))
  · refine Nat.div_le_of_le_mul ?_
    obtain ⟨s, rfl⟩ : ∃ s, size = s + 1 := ⟨size - 1, by omega⟩
    obtain ⟨m, rfl⟩ : ∃ m, n = m + 1 := ⟨n - 1, by omega⟩
    rw [Nat.add_mul, Nat.mul_add, Nat.mul_add]; omega
theorem at_lt {n size k : Nat} (h : 1 ≤ size) (hk : k < n) : (k + (size * ((n + size - 1) / size) - n)) / size < (n + size - 1) / size := by
  rw [Nat.div_lt_iff_lt_mul (by omega)]
  have := ceil_ge (n := n) h
  rw [Nat.mul_comm ((n + size - 1) / size) size]
  omega
end Tx

set_option maxHeartbeats 2000000 in
theorem merged_any (ds : List UInt8) (size : Nat) (base : UInt8) (B : Nat) (v : Value) (w : World) (hv : w.ownsRow B 5 1 v ds.length (ds.map u8v)) (hl : ds.length ≤ 2000000) (h1 : 1 ≤ size) (h2 : size ≤ 1000) :
    Calls Tryd.prog 152 #[v, .int .i64 size, .int .u8 (base.toNat : Int)] w fun e w' => ∃ v', e = .returned v' ∧ w'.ownsRow w.heap.size 5 1 v' (mergedL ds size base).length ((mergedL ds size base).map u8v) ∧ Below w.heap.size w w' := by
  obtain ⟨i5, hi, hz0, hz1, hz2⟩ := info_parts info5
  obtain ⟨va, vc, rfl, hcells⟩ : ∃ va vc, v = .slice va ds.length vc ∧ (0 < ds.length → ∃ g, va = some ⟨g, 0, none⟩ ∧ g < w.heap.size ∧ ∀ (k : Nat) (c : UInt8), ds[k]? = some c → w.cell? ⟨g, k, none⟩ = some (u8v c)) := by
    rcases Nat.eq_zero_or_pos ds.length with h0 | h0
    · rcases hv.2 with ⟨rfl, _⟩ | ⟨g, cap, cur, rfl, _⟩
      · exact ⟨none, 0, by rw [h0], fun h => by omega⟩
      · exact ⟨_, _, rfl, fun h => by omega⟩
    · rcases hv.2 with ⟨_, h00⟩ | ⟨g, cap, cur, rfl, hB, hg, _⟩
      · omega
      · refine ⟨_, _, rfl, fun _ => ⟨g, rfl, (Array.getElem?_eq_some_iff.1 hg).1, fun k c hk => ?_⟩⟩
        have hkl := (List.getElem?_eq_some_iff.1 hk).1
        rw [World.ownsRow.cellAt hv k (by omega), List.getElem?_map, hk]; rfl
  have HC := Lib.hid hcells
  obtain ⟨len, hlen⟩ : ∃ len, len = ds.length := ⟨_, rfl⟩
  obtain ⟨n, hn⟩ : ∃ n, n = (len + size - 1) / size := ⟨_, rfl⟩
  have hge : len ≤ size * n := by rw [hn]; exact ceil_ge h1
  have hnl : n ≤ len := by rw [hn]; exact ceil_le _ _ h1
  have hsn : size * n ≤ len + size := by
    have h1 := Nat.div_add_mod (len + size - 1) size
    rw [← hn] at h1; omega
  have HAT := Lib.hid (show ∀ k, k < len → (k + (size * n - len)) / size < n from fun k hk => by rw [hn]; exact at_lt h1 hk)
  have HML := Lib.hid (show ∀ k, (mst ds size base k).length = n from fun k => by rw [mst_length, ← hlen, hn])
  have HST := Lib.hid (show ∀ k, mst ds size base (k + 1) = (mst ds size base k).set ((k + (size * n - len)) / size) ((mst ds size base k).getD ((k + (size * n - len)) / size) 0 * base + ds.getD k 0) from fun k => by rw [mst, ← hlen, ← hn])
  have HS0 := Lib.hid (show mst ds size base 0 = List.replicate n 0 by rw [mst, ← hlen, hn])
  have HLEN := Lib.hid hlen
  rw [← hlen] at HC hl ⊢
  have t1 : (((len : Int) + (size : Int) - 1) / (size : Int)) = (n : Int) := by
    rw [show (len : Int) + (size : Int) - 1 = ((len + size - 1 : Nat) : Int) by omega, hn]; rfl
  have w1 : IntKind.i64.wrap ((len : Int) + (size : Int)) = (len : Int) + (size : Int) := IntWalk.i64_in _ (by omega)
  have w2 : IntKind.i64.wrap ((len : Int) + (size : Int) - 1) = (len : Int) + (size : Int) - 1 := IntWalk.i64_in _ (by omega)
  have hmul : (size : Int) * (n : Int) = ((size * n : Nat) : Int) := by simp
  obtain ⟨sn, hsn'⟩ : ∃ sn, sn = size * n := ⟨_, rfl⟩
  rw [← hsn'] at hmul hge hsn HAT HST
  obtain ⟨lk, hlk⟩ : ∃ lk, lk = sn - len := ⟨_, rfl⟩
  have w3 : IntKind.i64.wrap ((sn : Int) - (len : Int)) = (lk : Int) := by rw [IntWalk.i64_in _ (by omega)]; omega
  have w4 : IntKind.i64.wrap (sn : Int) = (sn : Int) := IntWalk.i64_in _ (by omega)
  have w5 : (sn : Int) - (len : Int) = (lk : Int) := by omega
  rw [← hlk] at HAT HST
  have hlk2 : lk ≤ 1000 := by omega
  clear hv hcells hlen hn hsn' hlk hsn hge
  go_enter Tryd.func152, Tryd.ntmps152
  go_wp2_with (refine wpList_make_full _ rfl _ _ 89 rfl w.heap.size 5 i5 (.int .u8 0) 1 Tryd.underlying89 hi hz0 hz1 _ _ _ _ n rfl rfl t1 t1 (by rw [hz2]; omega) (by unfold maxLen; omega) (Nat.le_refl _) ?_; intro W1 hown hgr; have hB1 : Below w.heap.size w W1 := (Below.refl _ _).grown hgr (Nat.le_refl _) (fun _ h => by cases h); have HOW := Lib.hid hown; have HB1 := Lib.hid hB1; clear hown hgr hB1)
  obtain ⟨G, hG⟩ : ∃ G, G = w.heap.size := ⟨_, rfl⟩
  have HG := Lib.hid hG
  rw [← hG] at HOW HB1 ⊢
  clear t1 w1 w2 w3 w4 w5 hmul hG
  go_loopw [29] (fun f wr => ∃ k : Nat, f = .int .i64 k ∧ k ≤ len ∧ Hid (wr.ownsRow G 5 1 (.slice (some ⟨G, 0, none⟩) n n) n ((mst ds size base k).map u8v)) ∧ Hid (Below G w wr)) (fun f _ => len - (intOf f).toNat)
  case atStart => exact ⟨0, rfl, Nat.zero_le _, Lib.hid (by rw [HS0.out, List.map_replicate]; have := HOW.out; rw [Nat.mul_one] at this; exact (toList_madeCells_one _ _) ▸ this), HB1⟩
  case round =>
    obtain ⟨k, rfl, hk, ho, hb⟩ := hrel
    by_cases hlt : k < len
    · obtain ⟨g, rfl, hg, hcc⟩ := HC.out (by omega)
      obtain ⟨c, hc⟩ : ∃ c, ds[k]? = some c := ⟨_, List.getElem?_eq_getElem (by rw [← HLEN.out]; exact hlt)⟩
      have c1 := (hb.out.cell (p := ⟨g, k, none⟩) (by rw [HG.out]; exact hg)).trans (hcc k c hc)
      unfold u8v at c1
      obtain ⟨j, hj⟩ : ∃ j, j = (k + lk) / size := ⟨_, rfl⟩
      have hjq : ((k : Int) + (lk : Int)) / (size : Int) = (j : Int) := by rw [hj, show (k : Int) + (lk : Int) = ((k + lk : Nat) : Int) by omega]; rfl
      have hjn : j < n := by rw [hj]; exact HAT.out k hlt
      obtain ⟨x, hx⟩ : ∃ x, (mst ds size base k)[j]? = some x := ⟨_, List.getElem?_eq_getElem (by rw [HML.out]; exact hjn)⟩
      have c2 := World.ownsRow.cellAt ho.out j (by omega)
      rw [List.getElem?_map, hx] at c2
      replace c2 : wr.cell? ⟨G, j, none⟩ = some (.int .u8 (x.toNat : Int)) := c2
      have c3 := World.ownsRow.frozenAt ho.out j
      have m3 : ((x.toNat : Int) * (base.toNat : Int) + (c.toNat : Int)) % 256 = ((x * base + c).toNat : Int) := by
        rw [UInt8.toNat_add, UInt8.toNat_mul, ← Int.natCast_mul]
        generalize x.toNat * base.toNat = P
        omega
      have HN := Lib.hid (show mst ds size base (k + 1) = (mst ds size base k).set j (x * base + c) by rw [HST.out, ← hj, List.getD_eq_getElem?_getD, List.getD_eq_getElem?_getD, hx, hc]; rfl)
      have hw1 : IntKind.i64.wrap ((k : Int) + (lk : Int)) = (k : Int) + (lk : Int) := IntWalk.i64_in _ (by omega)
      obtain ⟨y, hy⟩ : ∃ y, y = x * base + c := ⟨_, rfl⟩
      rw [← hy] at m3 HN
      have HS := Lib.hid (World.ownsRow.stored ho.out j (.int .u8 (y.toNat : Int)))
      clear hy hx hj hc hcc
      go_wp2
      go_roundw
      case rel => exact ⟨k + 1, by go_num, by omega, Lib.hid (by rw [HN.out, List.map_set]; exact HS.out.1), Lib.hid (hb.out.setCell (p := ⟨G, j, none⟩) (Nat.le_refl _) _)⟩
      case measure => simp [intOf]; omega
    · obtain rfl : k = len := by omega
      go_wp2
      go_ret
      have hML : (mergedL ds size base).length = n := HML.out _
      refine ⟨_, rfl, ?_, by rw [← HG.out]; exact hb.out⟩
      rw [hML]
      unfold mergedL
      rw [← HLEN.out, ← HG.out]
      exact ho.out
end Go.Proofs.YtoilgjlbpimcpaaDoor
