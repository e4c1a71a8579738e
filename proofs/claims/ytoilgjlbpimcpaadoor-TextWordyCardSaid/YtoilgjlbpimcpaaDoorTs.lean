/- Bytes of a string in memory; each of them replaced. -/
import Derived.Test.YtoilgjlbpimcpaaDoorTk
import Derived.Laws.IdiomStrings
namespace Go.Proofs.YtoilgjlbpimcpaaDoor
open Go.RowKit Go.Shelf Tx
set_option linter.unusedVariables false
set_option maxRecDepth 100000

/-- Block b holds the bytes l, and they may be written. -/
def Bys (w : World) (b : Nat) (l : List UInt8) : Prop :=
  ∃ (c : Array Value) (lo hi : Nat), w.heap[b]? = some (.cells c 5 (lo, hi)) ∧ l.length ≤ lo ∧ l.length ≤ c.size ∧ ∀ (i : Nat) (x : UInt8), l[i]? = some x → c[i]? = some (u8v x)
theorem Bys.lt {w : World} {b : Nat} {l : List UInt8} (h : Bys w b l) : b < w.heap.size := by
  obtain ⟨c, lo, hi, h1, _⟩ := h
  exact (Array.getElem?_eq_some_iff.1 h1).1
theorem Bys.cell {w : World} {b i : Nat} {l : List UInt8} {x : UInt8} (h : Bys w b l) (hx : l[i]? = some x) : w.cell? ⟨b, i, none⟩ = some (.int .u8 (x.toNat : Int)) := by
  obtain ⟨c, lo, hi, h1, h2, h3, h4⟩ := h
  have := h4 i x hx
  simp only [World.cell?, h1]
  simpa [u8v] using this
theorem Bys.frozen {w : World} {b i : Nat} {l : List UInt8} (h : Bys w b l) (hi : i < l.length) : w.frozen? ⟨b, i, none⟩ = false := by
  obtain ⟨c, lo, hi', h1, h2, _⟩ := h
  simp only [World.frozen?, h1]
  simp; omega
theorem Bys.cells {w : World} {b : Nat} {l : List UInt8} (h : Bys w b l) : Cells w b 0 l := fun i x hx => by rw [Nat.zero_add]; exact h.cell hx
theorem Bys.of_block {w w' : World} {b : Nat} {l : List UInt8} (h : Bys w b l) (e : w'.heap[b]? = w.heap[b]?) : Bys w' b l := by
  obtain ⟨c, lo, hi, h1, h2⟩ := h
  exact ⟨c, lo, hi, e.trans h1, h2⟩
theorem Bys.below {w w' : World} {b B : Nat} {l : List UInt8} (h : Bys w b l) (hb : Below B w w') (hB : b < B) : Bys w' b l := h.of_block (hb.block b hB)
theorem Bys.set {w : World} {b i : Nat} {l : List UInt8} {x : UInt8} (h : Bys w b l) : Bys (w.setCell ⟨b, i, none⟩ (u8v x)) b (l.set i x) := by
  obtain ⟨c, lo, hi, h1, h2, h3, h4⟩ := h
  refine ⟨c.setIfInBounds i (u8v x), lo, hi, by simp [World.setCell, Array.getElem?_modify, h1], by simpa using h2, by simpa using h3, fun j y hy => ?_⟩
  rw [List.getElem?_set] at hy
  rw [Array.getElem?_setIfInBounds]
  by_cases e : i = j
  · subst e
    rw [if_pos rfl] at hy ⊢
    split at hy
    · cases hy
      rw [if_pos (by omega)]
    · cases hy
  · rw [if_neg e] at hy ⊢
    exact h4 j y hy

/-- '[]byte(s)': new memory that holds the bytes. -/
theorem conv_bytes (s : ByteArray) (w : World) : ∃ cap w1, (convert 9 89 (.string s)).run Tryd.prog w = .ok (.slice (some ⟨w.heap.size, 0, none⟩) s.size cap) w1 ∧ Bys w1 w.heap.size (bts s) ∧ s.size ≤ cap ∧ Below w.heap.size w w1 := by
  refine ⟨_, _, run_bytes_of_string w 9 89 5 s Tryd.underlying9 Tryd.underlying89 Tryd.underlying5, ?_, grownCap_ge _ _ _ _, (Below.refl _ w).drew.alloc (Nat.le_refl _) _⟩
  have hsz : s.size ≤ (bytesRow s (grownCap w s.size 0 5)).size := by unfold bytesRow; simp
  refine ⟨bytesRow s (grownCap w s.size 0 5), _, _, World.alloc_heap_new _ _, by rw [bts_length]; exact hsz, by rw [bts_length]; exact hsz, fun i x hx => ?_⟩
  have hi : i < s.size := by have := (List.getElem?_eq_some_iff.1 hx).1; rwa [bts_length] at this
  unfold bytesRow
  rw [Array.getElem?_append_left (by simpa using hi), Array.getElem?_map]
  have e : s.data[i]? = some x := by unfold bts at hx; rw [Array.getElem?_toList] at hx; exact hx
  rw [e]; rfl

/-- The first k bytes are replaced. -/
theorem set_step {l : List UInt8} {f : UInt8 → UInt8} {k : Nat} {x : UInt8} (h : l[k]? = some x) : ((l.take k).map f ++ l.drop k).set k (f x) = (l.take (k + 1)).map f ++ l.drop (k + 1) := by
  have hk := (List.getElem?_eq_some_iff.1 h).1
  have e : l.drop k = x :: l.drop (k + 1) := by
    rw [List.drop_eq_getElem_cons hk]
    congr 1
    exact (List.getElem?_eq_some_iff.1 h).2
  rw [List.set_append_right _ _ (by simp; omega), e]
  have e2 : k - ((l.take k).map f).length = 0 := by simp; omega
  rw [e2, List.set_cons_zero, List.take_add_one, h]
  simp
theorem get_step {l : List UInt8} {f : UInt8 → UInt8} {k : Nat} {x : UInt8} (h : l[k]? = some x) : ((l.take k).map f ++ l.drop k)[k]? = some x := by
  have hk := (List.getElem?_eq_some_iff.1 h).1
  rw [List.getElem?_append_right (by simp; omega), List.getElem?_drop]
  have e2 : k + (k - ((l.take k).map f).length) = k := by simp; omega
  rw [e2, h]

set_option maxHeartbeats 2000000 in
/-- replaced, where the function is the method of a table. -/
theorem replacedT_any (B : Nat) (f : UInt8 → UInt8) (s : ByteArray) (w : World) (hs : s.size ≤ 1000000)
    (hF : ∀ (c : UInt8) (W : World), Below w.heap.size w W → Calls Tryd.prog 143 #[.pointer (some ⟨B, 0, none⟩), .int .u8 (c.toNat : Int)] W fun e w' => e = .returned (.int .u8 ((f c).toNat : Int)) ∧ W = w') :
    Calls Tryd.prog 142 #[.string s, .func (.func 143) #[.pointer (some ⟨B, 0, none⟩)] #[]] w fun e w' => ∃ t, e = .returned (.string t) ∧ Hid (bts t = (bts s).map f) ∧ Below w.heap.size w w' := by
  obtain ⟨cap, w1, hconv, hby, hcap, hb1⟩ := conv_bytes s w
  have HF := Lib.hid hF
  have HBY := Lib.hid hby
  have HB1 := Lib.hid hb1
  obtain ⟨G, hG⟩ : ∃ G, G = w.heap.size := ⟨_, rfl⟩
  have HG := Lib.hid hG
  clear hF hby hb1
  go_enter Tryd.func142, Tryd.ntmps142
  rw [← hG] at hconv
  clear hG
  go_wp2
  clear hconv
  go_loopw [12] (fun v wr => ∃ k : Nat, v = .int .i64 k ∧ k ≤ s.size ∧ Hid (Bys wr G (((bts s).take k).map f ++ (bts s).drop k)) ∧ Hid (Below w.heap.size w wr)) (fun v _ => s.size - (intOf v).toNat)
  case atStart => exact ⟨0, rfl, Nat.zero_le _, Lib.hid (by rw [HG.out]; simpa using HBY.out), HB1⟩
  case round =>
    obtain ⟨k, rfl, hk, hby, hb⟩ := hrel
    have hlen : (((bts s).take k).map f ++ (bts s).drop k).length = s.size := by simp [bts_length]; omega
    by_cases hlt : k < s.size
    · have hg := bts_get s hlt
      have c1 := hby.out.cell (get_step (f := f) hg)
      have c2 := hby.out.frozen (i := k) (by rw [hlen]; exact hlt)
      have KF := Lib.hid (HF.out s[k] wr hb.out)
      have HS := Lib.hid (set_step (f := f) hg)
      obtain ⟨x, hx⟩ : ∃ x, x = s[k] := ⟨_, rfl⟩
      rw [← hx] at c1 KF HS
      obtain ⟨y, hy⟩ : ∃ y, y = f x := ⟨_, rfl⟩
      rw [← hy] at KF HS
      clear hx hy hg hlen
      go_wp2_with (go_at_call 143; refine Calls.mono KF.out ?_; rintro e w2 ⟨rfl, rfl⟩)
      go_roundw
      case rel => exact ⟨k + 1, by go_num, by omega, Lib.hid (by rw [← HS.out]; exact hby.out.set), Lib.hid (hb.out.setCell (p := ⟨G, k, none⟩) (by rw [HG.out]; exact Nat.le_refl _) _)⟩
      case measure => simp [intOf]; omega
    · obtain rfl : k = s.size := by omega
      have e : ((bts s).take s.size).map f ++ (bts s).drop s.size = (bts s).map f := by
        rw [List.take_of_length_le (by rw [bts_length]; exact Nat.le_refl _), List.drop_eq_nil_of_le (by rw [bts_length]; exact Nat.le_refl _)]; simp
      obtain ⟨L, hL⟩ : ∃ L, L = (bts s).map f := ⟨_, rfl⟩
      have hcs : Cells wr G 0 L := by have := hby.out.cells; rw [e, ← hL] at this; exact this
      have hLl : L.length = s.size := by rw [hL]; simp [bts_length]
      have hback := conv_str (c := cap) hcs
      rw [hLl] at hback
      have HL := Lib.hid hL
      clear hlen e hL hcs hLl
      go_wp2
      go_ret
      exact ⟨_, rfl, Lib.hid (by rw [bts_mk, HL.out]), hb.out⟩

set_option maxHeartbeats 2000000 in
/-- replaced, where the function is that of moved. -/
theorem replacedM_any (b1 b2 b3 : Nat) (f : UInt8 → UInt8) (s : ByteArray) (w : World) (hs : s.size ≤ 1000000)
    (hF : ∀ (c : UInt8) (W : World), Below w.heap.size w W → Calls Tryd.prog 169 #[.int .u8 (c.toNat : Int), .pointer (some ⟨b1, 0, none⟩), .pointer (some ⟨b2, 0, none⟩), .pointer (some ⟨b3, 0, none⟩)] W fun e w' => e = .returned (.int .u8 ((f c).toNat : Int)) ∧ W = w') :
    Calls Tryd.prog 142 #[.string s, .func (.func 169) #[] #[.pointer (some ⟨b1, 0, none⟩), .pointer (some ⟨b2, 0, none⟩), .pointer (some ⟨b3, 0, none⟩)]] w fun e w' => ∃ t, e = .returned (.string t) ∧ Hid (bts t = (bts s).map f) ∧ Below w.heap.size w w' := by
  obtain ⟨cap, w1, hconv, hby, hcap, hb1⟩ := conv_bytes s w
  have HF := Lib.hid hF
  have HBY := Lib.hid hby
  have HB1 := Lib.hid hb1
  obtain ⟨G, hG⟩ : ∃ G, G = w.heap.size := ⟨_, rfl⟩
  have HG := Lib.hid hG
  clear hF hby hb1
  go_enter Tryd.func142, Tryd.ntmps142
  rw [← hG] at hconv
  clear hG
  go_wp2
  clear hconv
  go_loopw [12] (fun v wr => ∃ k : Nat, v = .int .i64 k ∧ k ≤ s.size ∧ Hid (Bys wr G (((bts s).take k).map f ++ (bts s).drop k)) ∧ Hid (Below w.heap.size w wr)) (fun v _ => s.size - (intOf v).toNat)
  case atStart => exact ⟨0, rfl, Nat.zero_le _, Lib.hid (by rw [HG.out]; simpa using HBY.out), HB1⟩
  case round =>
    obtain ⟨k, rfl, hk, hby, hb⟩ := hrel
    have hlen : (((bts s).take k).map f ++ (bts s).drop k).length = s.size := by simp [bts_length]; omega
    by_cases hlt : k < s.size
    · have hg := bts_get s hlt
      have c1 := hby.out.cell (get_step (f := f) hg)
      have c2 := hby.out.frozen (i := k) (by rw [hlen]; exact hlt)
      have KF := Lib.hid (HF.out s[k] wr hb.out)
      have HS := Lib.hid (set_step (f := f) hg)
      obtain ⟨x, hx⟩ : ∃ x, x = s[k] := ⟨_, rfl⟩
      rw [← hx] at c1 KF HS
      obtain ⟨y, hy⟩ : ∃ y, y = f x := ⟨_, rfl⟩
      rw [← hy] at KF HS
      clear hx hy hg hlen
      go_wp2_with (go_at_call 169; refine Calls.mono KF.out ?_; rintro e w2 ⟨rfl, rfl⟩)
      go_roundw
      case rel => exact ⟨k + 1, by go_num, by omega, Lib.hid (by rw [← HS.out]; exact hby.out.set), Lib.hid (hb.out.setCell (p := ⟨G, k, none⟩) (by rw [HG.out]; exact Nat.le_refl _) _)⟩
      case measure => simp [intOf]; omega
    · obtain rfl : k = s.size := by omega
      have e : ((bts s).take s.size).map f ++ (bts s).drop s.size = (bts s).map f := by
        rw [List.take_of_length_le (by rw [bts_length]; exact Nat.le_refl _), List.drop_eq_nil_of_le (by rw [bts_length]; exact Nat.le_refl _)]; simp
      obtain ⟨L, hL⟩ : ∃ L, L = (bts s).map f := ⟨_, rfl⟩
      have hcs : Cells wr G 0 L := by have := hby.out.cells; rw [e, ← hL] at this; exact this
      have hLl : L.length = s.size := by rw [hL]; simp [bts_length]
      have hback := conv_str (c := cap) hcs
      rw [hLl] at hback
      have HL := Lib.hid hL
      clear hlen e hL hcs hLl
      go_wp2
      go_ret
      exact ⟨_, rfl, Lib.hid (by rw [bts_mk, HL.out]), hb.out⟩

end Go.Proofs.YtoilgjlbpimcpaaDoor
