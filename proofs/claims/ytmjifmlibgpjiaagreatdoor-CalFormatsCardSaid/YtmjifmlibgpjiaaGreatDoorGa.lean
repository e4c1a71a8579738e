/- strings.IndexRune and strings.IndexAny, asked for digits, at any bytes. -/
import Derived.Test.YtmjifmlibgpjiaaGreatDoorDm
import Derived.Laws.Runes
import Derived.Laws.RangeString
import Derived.BigQuiet
import Derived.Deep.RegionWith
import Derived.Deep.LoopGhost
namespace Go.Proofs.YtmjifmlibgpjiaaGreatDoor
open Go.RowKit Go.Shelf Tx
set_option linter.unusedVariables false
set_option maxRecDepth 100000

theorem getB (s : ByteArray) (k : Nat) (h : k < s.size) : s.get! k = s[k]'h := by
  show s.get! k = _
  simp [ByteArray.get!, getElem!_pos, h]
  rfl
theorem valid_of {c : Nat} (h : c < 55296) : Utf8.valid (c : Int) = true := by rw [validRune_eq]; simp [validRune]; omega
/-- What is decoded at a byte that is not ASCII. -/
def DecOk (s : ByteArray) (i : Nat) (p : Nat × Nat) : Prop := 128 ≤ p.1 ∧ Utf8.valid (p.1 : Int) = true ∧ 1 ≤ p.2 ∧ i + p.2 ≤ s.size ∧ ∀ j (hj : j < s.size), i ≤ j → j < i + p.2 → 128 ≤ (s[j]'hj).toNat
theorem decode_high (s : ByteArray) (i : Nat) (h : i < s.size) (hb : 128 ≤ (s[i]'h).toNat) : DecOk s i (Utf8.decode s i) := by
  have one : ∀ j (hj : j < s.size), i ≤ j → j < i + 1 → 128 ≤ (s[j]'hj).toNat := fun j hj h1 h2 => by
    obtain rfl : j = i := by omega
    exact hb
  have e0 : (s.get! (i + 0)).toNat = (s[i]'h).toNat := by rw [Nat.add_zero, getB s i h]
  have er : DecOk s i (Utf8.runeError, 1) := ⟨by decide, by decide, by decide, by show i + 1 ≤ s.size; omega, one⟩
  unfold Utf8.decode
  dsimp only
  split
  · omega
  · split
    · rename_i h1 h2
      simp only [Bool.and_eq_true, decide_eq_true_iff, beq_iff_eq] at h2
      obtain ⟨a, b, c⟩ := h2
      rw [getB s (i + 1) b] at c
      split
      · rename_i h3
        refine ⟨h3, valid_of (by omega), by dsimp only; omega, by show i + 2 ≤ s.size; omega, fun j hj j1 j2 => ?_⟩
        rcases (show j = i ∨ j = i + 1 by simp at j2; omega) with rfl | rfl
        · exact hb
        · omega
      · exact er
    · split
      · rename_i h1 h2 h3
        simp only [Bool.and_eq_true, decide_eq_true_iff, beq_iff_eq] at h3
        obtain ⟨⟨a, b, c⟩, d, e⟩ := h3
        rw [getB s (i + 1) b] at c
        rw [getB s (i + 2) d] at e
        split
        · rename_i h4
          simp only [Bool.and_eq_true, decide_eq_true_iff] at h4
          refine ⟨by have := h4.1; dsimp only; omega, h4.2, by dsimp only; omega, by show i + 3 ≤ s.size; omega, fun j hj j1 j2 => ?_⟩
          rcases (show j = i ∨ j = i + 1 ∨ j = i + 2 by simp at j2; omega) with rfl | rfl | rfl
          · exact hb
          · omega
          · omega
        · exact er
      · split
        · rename_i h1 h2 h3 h4
          simp only [Bool.and_eq_true, decide_eq_true_iff, beq_iff_eq] at h4
          obtain ⟨⟨⟨a, b, c⟩, d, e⟩, f, g⟩ := h4
          rw [getB s (i + 1) b] at c
          rw [getB s (i + 2) d] at e
          rw [getB s (i + 3) f] at g
          split
          · rename_i h5
            simp only [Bool.and_eq_true, decide_eq_true_iff] at h5
            refine ⟨by have := h5.1; dsimp only; omega, h5.2, by dsimp only; omega, by show i + 4 ≤ s.size; omega, fun j hj j1 j2 => ?_⟩
            rcases (show j = i ∨ j = i + 1 ∨ j = i + 2 ∨ j = i + 3 by simp at j2; omega) with rfl | rfl | rfl | rfl
            · exact hb
            · omega
            · omega
            · omega
          · exact er
        · exact er
set_option maxHeartbeats 2000000 in
theorem ValidRune_t (r : Int) (w : World) (h : Utf8.valid r = true) : Calls Tryz.prog 190 #[.int .i32 r] w fun e w' => e = .returned (.bool true) ∧ w = w' := by
  rw [validRune_eq] at h
  unfold validRune at h
  rw [decide_eq_true_iff] at h
  rcases h with ⟨h1, h2⟩ | ⟨h1, h2⟩
  · go_enter Tryz.func190, Tryz.ntmps190
    go_wp2
    go_ret
    exact ⟨rfl, rfl⟩
  · have h3 : 0 ≤ r := by omega
    have h4 : ¬ r < 55296 := by omega
    go_enter Tryz.func190, Tryz.ntmps190
    go_wp2
    go_ret
    exact ⟨rfl, rfl⟩
set_option maxHeartbeats 4000000 in
theorem idxRune_err (d : ByteArray) (w : World) (hd : d.size = 10) (ha : ∀ (j : Nat) (h : j < d.size), (d[j]'h).toNat < 128) : Calls Tryz.prog 169 #[.string d, .int .i32 65533] w fun e w' => e = .returned (.int .i64 (-1)) ∧ Below w.heap.size w w' := by
  have HA := Lib.hid ha
  clear ha
  go_enter Tryz.func169, Tryz.ntmps169
  go_wp2
  go_loopg [5, 6] 10 (fun g _ _ wx => ∃ i : Nat, i + g = 10 ∧ wx = w.iter d i)
  case atStart => exact ⟨0, by omega, rfl⟩
  case round =>
    obtain ⟨i, hig, rfl⟩ := hrel
    cases gk with
    | zero =>
      obtain rfl : i = 10 := by omega
      have hnx := fun ty => run_next_end (P := Tryz.prog) w d 10 ty (by omega)
      go_wp2
      go_ret
      exact ⟨rfl, Bl.alloc (Below.refl _ w) _⟩
    | succ g =>
      have hi : i < d.size := by omega
      obtain ⟨x, hx⟩ : ∃ x : UInt8, d[i]'hi = x := ⟨_, rfl⟩
      have hx128 : x.toNat < 128 := by rw [← hx]; exact HA.out i hi
      have hnx := fun ty => run_next_ascii (P := Tryz.prog) w d i ty hi (by rw [hx]; exact hx128)
      rw [hx] at hnx
      have hne : ¬ (x.toNat : Int) = 65533 := by omega
      have hne2 : ((x.toNat : Int) == 65533) = false := beq_eq_false_iff_ne.2 hne
      clear hx
      go_wp2
      go_roundg g
      case measure => omega
      case rel => exact ⟨i + 1, by omega, rfl⟩
theorem indexByte_none : ∀ (l : List UInt8) (c : UInt8), (∀ x ∈ l, x.toNat < 128) → 128 ≤ c.toNat → Lib.indexByte l c = -1
  | [], _, _, _ => rfl
  | b :: l, c, h, hc => by
    have ih := indexByte_none l c (fun x hx => h x (List.mem_cons_of_mem _ hx)) hc
    have hb := h b (List.mem_cons_self ..)
    rw [Lib.indexByte, ih]
    have : ¬ b = c := fun e => by subst e; omega
    simp [this]
set_option maxHeartbeats 4000000 in
theorem idxRune_hi (d rs : ByteArray) (r : Int) (n : Nat) (w : World) (hd : d.size = 10) (ha : ∀ (j : Nat) (h : j < d.size), (d[j]'h).toNat < 128) (hv : Utf8.valid r = true) (h128 : 128 ≤ r) (hne : ¬ r = 65533) (hrs : Utf8.encode r = rs) (hn : rs.size = n + 1) (hn1 : 1 ≤ n) (hn3 : n ≤ 3) (hl : ∀ h : n < rs.size, 128 ≤ (rs[n]'h).toNat) :
    Calls Tryz.prog 169 #[.string d, .int .i32 r] w fun e w' => e = .returned (.int .i64 (-1)) ∧ Below w.heap.size w w' := by
  have KV := fun W => Lib.hid (ValidRune_t r W hv)
  have r1 : 0 ≤ r := by omega
  have r2 : ¬ r < 128 := by omega
  have r3 : (r == 65533) = false := beq_eq_false_iff_ne.2 hne
  have hi : n < d.size := by omega
  have hj : n < rs.size := by omega
  obtain ⟨x, hx⟩ : ∃ x : UInt8, d[n]'hi = x := ⟨_, rfl⟩
  obtain ⟨y, hy⟩ : ∃ y : UInt8, rs[n]'hj = y := ⟨_, rfl⟩
  have hx128 : x.toNat < 128 := by rw [← hx]; exact ha n hi
  have hy128 : 128 ≤ y.toNat := by rw [← hy]; exact hl hj
  have hxy : ¬ (x.toNat : Int) = (y.toNat : Int) := by omega
  have hxy2 : ((x.toNat : Int) == (y.toNat : Int)) = false := beq_eq_false_iff_ne.2 hxy
  have hxy3 : ((x.toNat : Int) != (y.toNat : Int)) = true := by simp [bne, hxy2]
  have i1 : (n : Int) < (d.size : Int) := by omega
  have i2 : (n : Int) < (rs.size : Int) := by omega
  have i3 : (n : Int) < 10 := by omega
  have e1 : (rs.size : Int) = (n : Int) + 1 := by omega
  have e2 : IntKind.i64.wrap ((n : Int) + 1 - 1) = (n : Int) := by rw [show (n : Int) + 1 - 1 = (n : Int) by omega]; exact IntWalk.i64_in _ (by omega)
  have e3 : wrap64 ((n : Int) + 1 - 1) = (n : Int) := by rw [show (n : Int) + 1 - 1 = (n : Int) by omega]; exact w64 (by omega) (by omega)
  have e4 : IntKind.i64.wrap ((n : Int) + 1) = ((n + 1 : Nat) : Int) := by rw [show (n : Int) + 1 = ((n + 1 : Nat) : Int) by omega]; exact IntWalk.i64_in _ (by omega)
  have e5 : wrap64 ((n : Int) + 1) = ((n + 1 : Nat) : Int) := by rw [show (n : Int) + 1 = ((n + 1 : Nat) : Int) by omega]; exact w64 (by omega) (by omega)
  have i4 : (0 : Int) ≤ ((n + 1 : Nat) : Int) := by omega
  have i5 : ((n + 1 : Nat) : Int) ≤ (d.size : Int) := by omega
  have KB := fun (W : World) => Lib.hid (show Calls Tryz.prog 189 #[.string (d.extract (n + 1) 10), .int .u8 (y.toNat : Int)] W (fun e w' => e = .returned (.int .i64 (-1)) ∧ w' = W) from (Tryz.strings_IndexByte (d.extract (n + 1) 10) (y.toNat : Int) W).mono (fun e w' ⟨h1, h2⟩ => ⟨by
    rw [h1, Lib.byte_back y, indexByte_none _ _ ?_ hy128]
    intro b hb
    have hb' := mem_extract hb
    obtain ⟨k, hk, hkb⟩ := List.getElem_of_mem hb'
    have hk' : k < d.size := by rw [Array.length_toList] at hk; exact hk
    have := ha k hk'
    rw [← hkb]; exact this, h2⟩))
  clear ha hv h128 hne hn hn1 hn3 hl hx128 hy128
  go_enter Tryz.func169, Tryz.ntmps169
  go_wp2_with (first
    | (go_at_call 190; refine Calls.mono (KV _).out ?_; rintro e w1 ⟨rfl, hw⟩; subst w1))
  go_wp2
  go_step3
  go_wp2
  go_loopw [9, 10] (fun v9 v10 wr => v9 = .int .i64 (n : Int) ∧ v10 = .int .i64 0 ∧ wr = w) (fun _ _ _ => 0)
  case atStart => exact ⟨rfl, rfl, rfl⟩
  case round =>
    obtain ⟨rfl, rfl, rfl⟩ := hrel
    go_wp2
    go_step3
    go_wp2
    go_quiet (fail)
    go_wp2
    go_region_with (go_at_call 189; refine Calls.mono (KB _).out ?_; rintro e w5 ⟨rfl, hw⟩; subst w5)
    all_goals
      go_wp2
      simp +zetaDelta only [Exit.inBlock, Exit.then, Exit.noGoto_ret]
      go_ret
      exact ⟨rfl, below_drewN' (Below.refl _ wr) _⟩
/-- IndexRune, among digits, of any rune that a text holds: of one that is not ASCII none is found. -/
theorem idxRune_none (r : Int) (w : World) (hv : Utf8.valid r = true) (h128 : 128 ≤ r) : Calls Tryz.prog 169 #[.string digB, .int .i32 r] w fun e w' => e = .returned (.int .i64 (-1)) ∧ Below w.heap.size w w' := by
  have ha : ∀ (j : Nat) (h : j < digB.size), (digB[j]'h).toNat < 128 := fun j h => dig_ascii j _ (Lib.data_getElem? digB j h)
  by_cases he : r = 65533
  · subst he; exact idxRune_err digB w rfl ha
  · obtain ⟨f1, f2, f3⟩ := encode_facts r hv h128
    obtain ⟨rs, hrs⟩ : ∃ rs, Utf8.encode r = rs := ⟨_, rfl⟩
    rw [hrs] at f1 f2
    refine idxRune_hi digB rs r (rs.size - 1) w rfl ha hv h128 he hrs (by omega) (by omega) (by omega) (fun h => ?_)
    subst hrs
    exact f3 h
/-- IndexRune, among digits, of an ASCII byte. -/
theorem idxRune_ascii (x : UInt8) (w : World) (hx : x.toNat < 128) : Calls Tryz.prog 169 #[.string digB, .int .i32 (x.toNat : Int)] w fun e w' => e = .returned (.int .i64 (Lib.indexByte digs x)) ∧ Below w.heap.size w w' := by
  refine (Tryz.strings_IndexRune_ascii digB (x.toNat : Int) w (by omega) (by omega)).mono ?_
  rintro e w' ⟨rfl, rfl⟩
  exact ⟨by rw [Lib.byte_back x]; rfl, Below.refl _ _⟩
end Go.Proofs.YtmjifmlibgpjiaaGreatDoor
