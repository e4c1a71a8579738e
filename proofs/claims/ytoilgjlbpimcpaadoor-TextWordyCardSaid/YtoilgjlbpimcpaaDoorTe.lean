/- Bytes in memory; a byte repeated; pads; strings fitted to a length. -/
import Derived.Test.YtoilgjlbpimcpaaDoorTd
import Derived.Test.YtoilgjlbpimcpaaDoorShelf
import Derived.Laws.CopyOwn
import Derived.Laws.IdiomStrings
import Derived.Deep.RegionLaw
import Derived.Handy
namespace Go.Proofs.YtoilgjlbpimcpaaDoor
open Go.RowKit Tx
set_option linter.unusedVariables false
set_option maxRecDepth 100000

theorem info5 : (Tryd.prog.info? 5).map (fun i => (i.zero, i.size, i.bytes)) = some (some (.int .u8 0), 1, 1) := by kernel_rfl
def u8v (c : UInt8) : Value := .int .u8 (c.toNat : Int)
/-- The bytes lie at block b from offset o on. -/
def Cells (w : World) (b o : Nat) (l : List UInt8) : Prop := ∀ (i : Nat) (c : UInt8), l[i]? = some c → w.cell? ⟨b, o + i, none⟩ = some (u8v c)
theorem Cells.below {w w' : World} {b o B : Nat} {l : List UInt8} (h : Cells w b o l) (hb : Below B w w') (hB : b < B) : Cells w' b o l :=
  fun i d hi => (hb.cell (p := ⟨b, o + i, none⟩) hB).trans (h i d hi)

/-- 'string(b)', where b's cells are the bytes l. -/
theorem conv_str {w : World} {g o c : Nat} {l : List UInt8} (h : Cells w g o l) : (convert 89 9 (.slice (some ⟨g, o, none⟩) l.length c)).run Tryd.prog w = .ok (.string ⟨l.toArray⟩) w :=
  run_convert_bytes_back w 89 9 5 ⟨g, o, none⟩ c l Tryd.underlying89 Tryd.underlying5 Tryd.underlying9 (fun j hj => by
    have e : (⟨g, o, none⟩ : Addr).add j = ⟨g, o + j, none⟩ := by unfold Addr.add; split <;> simp_all
    rw [e]
    exact h j _ (List.getElem?_eq_getElem hj))

theorem u8_one (l : List UInt8) : ∀ u ∈ l.map u8v, u.oneCell' = true := by
  intro u hu; obtain ⟨d, _, rfl⟩ := List.mem_map.1 hu; rfl

/-- Block g is a row of N byte cells, the first n of which are x. -/
def Fill (w : World) (g : Nat) (x : Int) (N n : Nat) : Prop := ∃ cur : List Value, w.heap[g]? = some (.cells cur.toArray 5 (0, 0)) ∧ N ≤ cur.length ∧ ∀ i, i < n → cur[i]? = some (.int .u8 x)

theorem splice_get {L cs : List Value} {off : Nat} {v : Value} {i : Nat} (h : off + cs.length ≤ L.length) (hcs : ∀ u ∈ cs, u = v) (hL : ∀ j, j < off → L[j]? = some v) (hi : i < off + cs.length) : (splice L off cs)[i]? = some v := by
  unfold splice
  by_cases h1 : i < off
  · rw [List.getElem?_append_left (by rw [List.length_take]; omega), List.getElem?_take, if_pos h1]; exact hL i h1
  · rw [List.getElem?_append_right (by rw [List.length_take]; omega), List.length_take, Nat.min_eq_left (by omega), List.getElem?_append_left (by omega)]
    rw [List.getElem?_eq_getElem (by omega)]
    rw [hcs _ (List.getElem_mem _)]

theorem Fill.cell {w : World} {g : Nat} {x : Int} {N n i : Nat} (h : Fill w g x N n) (hi : i < n) : w.cell? ⟨g, i, none⟩ = some (.int .u8 x) := by
  obtain ⟨cur, h1, h2, h3⟩ := h
  simp only [World.cell?, h1]
  have := h3 i hi
  simpa using this

theorem Fill.lt {w : World} {g : Nat} {x : Int} {N n : Nat} (h : Fill w g x N n) : g < w.heap.size := by
  obtain ⟨cur, h1, _⟩ := h
  exact (Array.getElem?_eq_some_iff.1 h1).1
theorem Fill.of_owns {w : World} {g n : Nat} {x : Int} {cap : Nat} {xs : List Value} {B : Nat} (h : w.ownsRow B 5 1 (.slice (some ⟨g, 0, none⟩) n cap) n xs) : Fill w g x n 0 := by
  obtain ⟨hl, ⟨h1, _⟩ | ⟨g', cap', cur, h1, hB, hg, hc, hm, hs, ht⟩⟩ := h
  · cases h1
  · cases h1
    refine ⟨cur.toList, by simpa using hg, ?_, fun i hi => by omega⟩
    simp; omega

theorem Fill.step {w' : World} {g N n k : Nat} {x : Int} {cur : List Value} (hN : N ≤ cur.length) (h3 : ∀ i, i < n → cur[i]? = some (.int .u8 x)) (hk : n + k ≤ N)
    (hg : w'.heap[g]? = some (.cells (splice cur n (List.replicate k (.int .u8 x))).toArray 5 (0, 0))) : Fill w' g x N (n + k) := by
  refine ⟨_, hg, by rw [length_splice _ _ _ (by simp; omega)]; exact hN, fun i hi => ?_⟩
  exact splice_get (by simp; omega) (fun u hu => (List.mem_replicate.1 hu).2) h3 (by simpa using hi)
theorem rep_one (k : Nat) (x : Int) : ∀ v ∈ List.replicate k (Value.int .u8 x), v.oneCell' = true := fun v hv => by rw [(List.mem_replicate.1 hv).2]; rfl
theorem info5s : (Tryd.prog.info? 5).map (·.size) = some 1 := by kernel_rfl

/-- copy within rows of bytes that are known whole, as a run. -/
theorem run_copy_ex (w : World) (g off dLen dCap : Nat) (ad : Addr) (sLen sCap : Nat) (cur cs : List Value) (hg : w.heap[g]? = some (.cells cur.toArray 5 (0, 0))) (hn : cs.length = Nat.min sLen dLen)
    (hsrc : ∀ j v, cs[j]? = some v → w.cell? (ad.add j) = some v) (hfit : off + cs.length ≤ cur.length) (h1 : ∀ v ∈ cs, v.oneCell' = true) (B : Nat) (w0 : World) (hb : Below B w0 w) (hB : B ≤ g) :
    ∃ w2, (Builtin.copy_ #[89, 89] 3 #[.slice (some ⟨g, off, none⟩) dLen dCap, .slice (some ad) sLen sCap]).run Tryd.prog w = .ok (.int .i64 (cs.length : Int)) w2 ∧ w2.heap[g]? = some (.cells (splice cur off cs).toArray 5 (0, 0)) ∧ Below B w0 w2 := by
  refine ⟨_, run_copy_row (P := Tryd.prog) w 89 89 3 5 g off dLen dCap ad sLen sCap cur.toArray 5 cs Tryd.underlying89 info5s hg hn hsrc (by simpa using hfit) h1, ?_, below_setRow hb hB _⟩
  simpa [splice] using setRow_heap w g _ _ _ _ hg

theorem cells_one {w : World} {p : Nat} {x : Value} (h : w.cell? ⟨p, 0, none⟩ = some x) : ∀ j v, [x][j]? = some v → w.cell? ((⟨p, 0, none⟩ : Addr).add j) = some v := by
  intro j v hj
  match j, hj with
  | 0, hj => simp at hj; subst hj; simpa [Addr.add] using h
set_option maxHeartbeats 1000000 in
theorem repeat_any (p : Nat) (x : Int) (n : Nat) (w : World) (hn : n ≤ 100000) (hn0 : 0 < n) (hp : p < w.heap.size) (hc : w.cell? ⟨p, 0, none⟩ = some (.int .u8 x)) :
    Calls Tryd.prog 168 #[.slice (some ⟨p, 0, none⟩) 1 1, .int .i64 n] w fun e w' => ∃ g c, e = .returned (.slice (some ⟨g, 0, none⟩) n c) ∧ w.heap.size ≤ g ∧ g < w'.heap.size ∧ (∀ i, i < n → w'.cell? ⟨g, i, none⟩ = some (.int .u8 x)) ∧ Below w.heap.size w w' := by
  obtain ⟨i5, hi, hz0, hz1, hz2⟩ := info_parts info5
  have KM := Lib.hid (Tryd.bits_Mul 1 n (by omega) (by omega) w)
  have e1 : (1 * n / 18446744073709551616 : Nat) = 0 := by omega
  have e2 : (1 * n % 18446744073709551616 : Nat) = n := by omega
  rw [e1, e2] at KM
  clear e1 e2
  have HC := Lib.hid hc
  clear hc
  have t1 : decide ((n : Int) < 0) = false := decide_eq_false (by omega)
  have t2 : decide (9223372036854775807 < (n : Int)) = false := decide_eq_false (by omega)
  go_enter Tryd.func168, Tryd.ntmps168
  go_wp2_with (first
    | (go_at_call 154; refine Calls.mono KM.out ?_; rintro e w' ⟨rfl, rfl⟩)
    | (refine wpList_make_full _ rfl _ _ 89 rfl w'.heap.size 5 i5 (.int .u8 0) 1 Tryd.underlying89 hi hz0 hz1 .i64 .i64 (n : Int) (n : Int) n rfl rfl rfl rfl (by rw [hz2]; omega) (by unfold maxLen; omega) (Nat.le_refl _) ?_; intro w1 hown hgr; have hB1 : Below w'.heap.size w' w1 := (Below.refl _ _).grown hgr (Nat.le_refl _) (fun _ h => by cases h); have hc1 := (hB1.cell (p := ⟨p, 0, none⟩) hp).trans HC.out; obtain ⟨cur, hcur, hlen, _⟩ := Fill.of_owns (x := x) hown; have hlt1 := (Array.getElem?_eq_some_iff.1 hcur).1; clear hown hgr; obtain ⟨w2, hrun, hg2, hb2⟩ := run_copy_ex w1 w'.heap.size 0 n n ⟨p, 0, none⟩ 1 1 cur [.int .u8 x] hcur (Nat.min_eq_left (show 1 ≤ n by omega)).symm (cells_one hc1) (by simp; omega) (rep_one 1 x) w'.heap.size w' hB1 (Nat.le_refl _); have hF := Lib.hid (Fill.step (x := x) hlen (n := 0) (k := 1) (fun i hi => by omega) (by omega) hg2); clear hcur hlen hB1 hlt1 hc1 KM hg2; rw [show (([Value.int .u8 x].length : Nat) : Int) = 1 from rfl] at hrun))
  obtain ⟨G, hG⟩ : ∃ G, G = w'.heap.size := ⟨_, rfl⟩
  have HB2 := Lib.hid hb2
  have HG := Lib.hid hG
  rw [← hG] at hF ⊢
  clear hb2 hrun hG
  go_loopw [8] (fun v wr => ∃ k : Nat, v = .int .i64 k ∧ 1 ≤ k ∧ k ≤ n ∧ Hid (Fill wr G x n k) ∧ Hid (Below G w' wr)) (fun v _ => n - (intOf v).toNat)
  case atStart => exact ⟨1, rfl, Nat.le_refl _, hn0, hF, Lib.hid (by rw [HG.out]; exact HB2.out)⟩
  case round =>
    obtain ⟨k, rfl, hk1, hk, hf, hb⟩ := hrel
    by_cases hlt : k < n
    · obtain ⟨cur, hcur, hlen, hcc⟩ := hf.out
      obtain ⟨m, hm⟩ : ∃ m, m = min k (n - k) := ⟨_, rfl⟩
      have hm1 : m ≤ k := by omega
      have hm2 : m ≤ n - k := by omega
      have hm3 : 1 ≤ m := by omega
      have hw : IntKind.i64.wrap ((k : Int) + (m : Int)) = (k : Int) + (m : Int) := IntWalk.i64_in _ (by omega)
      obtain ⟨w3, hrun, hg3, hb3⟩ := run_copy_ex wr.drew G k (n - k) (n - k) ⟨G, 0, none⟩ k n cur (List.replicate m (.int .u8 x)) hcur (by rw [List.length_replicate, hm]) (by
        intro j v hj
        have hj' : j < m := by have := (List.getElem?_eq_some_iff.1 hj).1; simpa using this
        rw [List.getElem?_replicate, if_pos hj'] at hj
        cases hj
        have := hf.out.cell (i := j) (by omega)
        rw [show (⟨G, 0, none⟩ : Addr).add j = ⟨G, j, none⟩ by unfold Addr.add; split <;> simp_all]
        exact this) (by simp; omega) (rep_one m x) G w' hb.out.drew (by rw [HG.out]; exact Nat.le_refl _)
      have HF3 := Lib.hid (Fill.step (x := x) hlen (n := k) (k := m) hcc (by omega) hg3)
      have HB3 := Lib.hid hb3
      rw [List.length_replicate] at hrun
      have hne : ¬ n = k := by omega
      clear hcur hlen hcc hm hg3 hb3
      go_wp2
      go_region
      go_roundw
      case rel => (repeat apply Exists.intro); exact ⟨⟨k + m, by go_num, by omega, by omega, HF3, HB3⟩, rfl⟩
      case measure => simp [intOf]; omega
    · obtain rfl : k = n := by omega
      go_wp2
      go_ret
      exact ⟨G, _, rfl, by rw [HG.out]; exact Nat.le_refl _, hf.out.lt, fun i hi => hf.out.cell hi, by rw [← HG.out]; exact hb.out⟩

set_option maxHeartbeats 400000 in
theorem repeat_none (p : Nat) (x : Int) (w : World) (hp : p < w.heap.size) (hc : w.cell? ⟨p, 0, none⟩ = some (.int .u8 x)) :
    Calls Tryd.prog 168 #[.slice (some ⟨p, 0, none⟩) 1 1, .int .i64 0] w fun e w' => ∃ g c, e = .returned (.slice (some ⟨g, 0, none⟩) 0 c) ∧ Below w.heap.size w w' := by
  obtain ⟨i5, hi, hz0, hz1, hz2⟩ := info_parts info5
  have KM := Lib.hid (Tryd.bits_Mul 1 0 (by omega) (by omega) w)
  have HC := Lib.hid hc
  clear hc
  go_enter Tryd.func168, Tryd.ntmps168
  go_wp2_with (first
    | (go_at_call 154; refine Calls.mono KM.out ?_; rintro e w' ⟨rfl, rfl⟩)
    | (refine wpList_make_full _ rfl _ _ 89 rfl w'.heap.size 5 i5 (.int .u8 0) 1 Tryd.underlying89 hi hz0 hz1 .i64 .i64 0 0 0 rfl rfl rfl rfl (by rw [hz2]; omega) (by unfold maxLen; omega) (Nat.le_refl _) ?_; intro w1 hown hgr; have hB1 : Below w'.heap.size w' w1 := (Below.refl _ _).grown hgr (Nat.le_refl _) (fun _ h => by cases h); have hrun := run_copy_none (P := Tryd.prog) w1 89 89 3 5 (some ⟨w'.heap.size, 0, none⟩) (some ⟨p, 0, none⟩) 0 0 1 1 Tryd.underlying89 info5s rfl; clear hown hgr))
  go_loopw [8] (fun v wr => v = .int .i64 0 ∧ Below w'.heap.size w' wr) (fun v _ => 0)
  case atStart => exact ⟨rfl, hB1⟩
  case round =>
    obtain ⟨rfl, hb⟩ := hrel
    go_wp2
    go_ret
    exact ⟨_, _, rfl, hb⟩

/-- n pads. -/
theorem pads_any (n : Nat) (x : Int) (w : World) (hn : n ≤ 100000) (hx0 : 0 ≤ x) (hx1 : x < 256) :
    Calls Tryd.prog 138 #[.int .i64 n, .int .u8 x] w fun e w' => ∃ t, e = .returned (.string t) ∧ Hid (bts t = List.replicate n (pb x)) ∧ Below w.heap.size w w' := by
  have hpb : Value.int .u8 x = u8v (pb x) := by
    unfold u8v pb
    rw [show (x.toNat.toUInt8.toNat : Int) = x by simp [Nat.toUInt8]; omega]
  have HP := Lib.hid hpb
  by_cases h0 : n = 0
  · subst h0
    have KR := Lib.hid (repeat_none w.heap.size x (w.alloc (.cells #[.int .u8 x] 5)) (by simp) (by simp))
    clear hpb
    go_enter Tryd.func138, Tryd.ntmps138
    go_wp2_with (go_at_call 168; refine Calls.mono KR.out ?_; rintro e w1 ⟨g, c, rfl, hb1⟩; have hconv : (convert 89 9 (.slice (some ⟨g, 0, none⟩) 0 c)).run Tryd.prog w1 = .ok (.string ⟨#[]⟩) w1 := conv_str (w := w1) (g := g) (o := 0) (c := c) (l := []) (fun i c hi => by simp at hi))
    go_ret
    exact ⟨_, rfl, Lib.hid rfl, ((Below.refl _ _).alloc (Nat.le_refl _) _).trans (hb1.mono (by simp))⟩
  · have KR := Lib.hid (repeat_any w.heap.size x n (w.alloc (.cells #[.int .u8 x] 5)) hn (by omega) (by simp) (by simp))
    obtain ⟨L, hL⟩ : ∃ L, L = List.replicate n (pb x) := ⟨_, rfl⟩
    have HL := Lib.hid hL
    have hlen : L.length = n := by rw [hL]; simp
    have HLEN := Lib.hid hlen
    clear hpb hL hlen
    go_enter Tryd.func138, Tryd.ntmps138
    go_wp2_with (go_at_call 168; refine Calls.mono KR.out ?_; rintro e w1 ⟨g, c, rfl, hg1, hg2, hcells, hb1⟩; have hconv := conv_str (w := w1) (g := g) (o := 0) (c := c) (l := L) (fun i c hi => by rw [HL.out] at hi; have hi' := (List.getElem?_eq_some_iff.1 hi).1; rw [List.length_replicate] at hi'; rw [List.getElem?_replicate, if_pos hi'] at hi; cases hi; rw [Nat.zero_add, hcells i hi', HP.out]); rw [HLEN.out] at hconv; clear hcells)
    go_ret
    exact ⟨_, rfl, Lib.hid (by rw [bts_mk, HL.out]), ((Below.refl _ _).alloc (Nat.le_refl _) _).trans (hb1.mono (by simp))⟩
end Go.Proofs.YtoilgjlbpimcpaaDoor
