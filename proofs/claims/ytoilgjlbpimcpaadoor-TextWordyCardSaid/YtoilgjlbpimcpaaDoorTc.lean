/- The checks of package text, walked: valid strings, pads, integers, lengths. -/
import Derived.Test.YtoilgjlbpimcpaaDoorRows
import Derived.Test.YtoilgjlbpimcpaaDoorTm
import Derived.WalkKit
import Derived.WalkSpells
import Derived.WalkLawsBesides
import Derived.Lib.Hide
namespace Go.Proofs.YtoilgjlbpimcpaaDoor
open Go.RowKit Tx
set_option linter.unusedVariables false
set_option maxRecDepth 100000

theorem ret_eq {v v' : Value} (h : v = v') : Ending.returned v = .returned v' := by rw [h]
theorem ret_b {a b : Bool} (h : a = b) : Ending.returned (.bool a) = .returned (.bool b) := by rw [h]
theorem ret_i {k : IntKind} {a b : Int} (h : a = b) : Ending.returned (.int k a) = .returned (.int k b) := by rw [h]

/-- The values lie one behind the other in block p. -/
def At (w : World) (p : Nat) (l : List Value) : Prop := ∀ (i : Nat) (v : Value), l[i]? = some v → w.cell? ⟨p, i, none⟩ = some v
theorem At.below {w w' : World} {p : Nat} {l : List Value} (h : At w p l) (hb : Below w.heap.size w w') (hp : p < w.heap.size) : At w' p l := fun i v hi => (hb.cell (p := ⟨p, i, none⟩) hp).trans (h i v hi)
theorem At.one {w : World} {p : Nat} {v : Value} (h : w.cell? ⟨p, 0, none⟩ = some v) : At w p [v] := by
  intro i x hi
  match i, hi with
  | 0, hi => simp at hi; subst hi; exact h
theorem At.new1 (w : World) (v : Value) (t : TypeId) : At (w.alloc (.cells #[v] t)) w.heap.size [v] := At.one (by simp)
theorem At.new2 (w : World) (u v : Value) (t : TypeId) : At (w.alloc (.cells #[u, v] t)) w.heap.size [u, v] := by
  intro i x hi
  match i, hi with
  | 0, hi => simp at hi; subst hi; simp
  | 1, hi => simp at hi; subst hi; simp
theorem At.new3 (w : World) (u v x : Value) (t : TypeId) : At (w.alloc (.cells #[u, v, x] t)) w.heap.size [u, v, x] := by
  intro i y hi
  match i, hi with
  | 0, hi => simp at hi; subst hi; simp
  | 1, hi => simp at hi; subst hi; simp
  | 2, hi => simp at hi; subst hi; simp

theorem padI_cases (x : Int) : (x < 32 ∧ padI x = false) ∨ (126 < x ∧ padI x = false) ∨ (32 ≤ x ∧ x ≤ 126 ∧ padI x = true) := by
  unfold padI
  by_cases h1 : 32 ≤ x
  · by_cases h2 : x ≤ 126
    · exact .inr (.inr ⟨h1, h2, by simp [h1, h2]⟩)
    · exact .inr (.inl ⟨by omega, by simp [h2]⟩)
  · exact .inl ⟨by omega, by simp [h1]⟩

set_option maxHeartbeats 400000 in
theorem arePads_any (p : Nat) (l : List Int) (w : World) (hl : l.length ≤ 10) (hc : At w p (l.map (Value.int .u8))) :
    Calls Tryd.prog 105 #[.slice (some ⟨p, 0, none⟩) l.length l.length] w fun e w' => e = .returned (.bool (l.all padI)) ∧ w = w' := by
  have HC := Lib.hid hc
  clear hc
  go_enter Tryd.func105, Tryd.ntmps105
  go_wp2
  go_loop [7] (fun i => ∃ k : Nat, i = .int .i64 k ∧ k ≤ l.length ∧ Hid ((l.take k).all padI = true)) (fun i => l.length - (intOf i).toNat)
  case atStart => exact ⟨0, rfl, Nat.zero_le _, Lib.hid rfl⟩
  case round =>
    obtain ⟨k, rfl, hk, ha⟩ := hrel
    by_cases hlt : k < l.length
    · obtain ⟨x, hx⟩ : ∃ x, l[k]? = some x := ⟨_, List.getElem?_eq_getElem hlt⟩
      have c1 := HC.out k _ (by rw [List.getElem?_map, hx]; rfl)
      have HX := Lib.hid hx
      clear hx
      rcases padI_cases x with ⟨h1, h2⟩ | ⟨h1, h2⟩ | ⟨h1, h1', h2⟩
      · have HALL := Lib.hid (show l.all padI = false by rw [List.all_eq_false]; exact ⟨x, List.mem_of_getElem? HX.out, by rw [h2]; simp⟩)
        clear h2
        go_wp2
        go_ret
        exact ⟨ret_b HALL.out.symm, rfl⟩
      · have HALL := Lib.hid (show l.all padI = false by rw [List.all_eq_false]; exact ⟨x, List.mem_of_getElem? HX.out, by rw [h2]; simp⟩)
        clear h2
        go_wp2
        go_ret
        exact ⟨ret_b HALL.out.symm, rfl⟩
      · have H2 := Lib.hid h2
        clear h2
        go_wp2
        go_round
        case rel =>
          refine ⟨k + 1, by go_num, by omega, Lib.hid ?_⟩
          rw [List.take_add_one, HX.out]
          simp only [List.all_append, ha.out]
          simp [H2.out]
        case measure => simp [intOf]; omega
    · obtain rfl : k = l.length := by omega
      have HALL := Lib.hid (show l.all padI = true by have := ha.out; rwa [List.take_length] at this)
      go_wp2
      go_ret
      exact ⟨ret_b HALL.out.symm, rfl⟩

theorem arePads1 (p : Nat) (x : Int) (w : World) (hc : w.cell? ⟨p, 0, none⟩ = some (.int .u8 x)) :
    Calls Tryd.prog 105 #[.slice (some ⟨p, 0, none⟩) 1 1] w fun e w' => e = .returned (.bool (padI x)) ∧ w = w' :=
  (arePads_any p [x] w (by simp) (At.one hc)).mono fun e w' ⟨h, hw⟩ => ⟨by rw [h]; simp, hw⟩

set_option maxHeartbeats 400000 in
theorem areAtLeast_any (p : Nat) (m : Int) (l : List Int) (w : World) (hl : l.length ≤ 10) (hc : At w p (l.map (Value.int .i64))) :
    Calls Tryd.prog 100 #[.int .i64 m, .slice (some ⟨p, 0, none⟩) l.length l.length] w fun e w' => e = .returned (.bool (l.all fun x => decide (m ≤ x))) ∧ w = w' := by
  have HC := Lib.hid hc
  clear hc
  go_enter Tryd.func100, Tryd.ntmps100
  go_wp2
  go_loop [9] (fun i => ∃ k : Nat, i = .int .i64 k ∧ k ≤ l.length ∧ Hid ((l.take k).all (fun x => decide (m ≤ x)) = true)) (fun i => l.length - (intOf i).toNat)
  case atStart => exact ⟨0, rfl, Nat.zero_le _, Lib.hid rfl⟩
  case round =>
    obtain ⟨k, rfl, hk, ha⟩ := hrel
    by_cases hlt : k < l.length
    · obtain ⟨x, hx⟩ : ∃ x, l[k]? = some x := ⟨_, List.getElem?_eq_getElem hlt⟩
      have c1 := HC.out k _ (by rw [List.getElem?_map, hx]; rfl)
      have HX := Lib.hid hx
      clear hx
      by_cases h1 : m ≤ x
      · go_wp2
        go_round
        case rel =>
          refine ⟨k + 1, by go_num, by omega, Lib.hid ?_⟩
          rw [List.take_add_one, HX.out]
          simp only [List.all_append, ha.out]
          simp [h1]
        case measure => simp [intOf]; omega
      · have HALL := Lib.hid (show l.all (fun x => decide (m ≤ x)) = false by rw [List.all_eq_false]; exact ⟨x, List.mem_of_getElem? HX.out, by simpa using h1⟩)
        go_wp2
        go_ret
        exact ⟨ret_b HALL.out.symm, rfl⟩
    · obtain rfl : k = l.length := by omega
      have HALL := Lib.hid (show l.all (fun x => decide (m ≤ x)) = true by have := ha.out; rwa [List.take_length] at this)
      go_wp2
      go_ret
      exact ⟨ret_b HALL.out.symm, rfl⟩

theorem areAtLeast1 (p : Nat) (m x : Int) (w : World) (hc : w.cell? ⟨p, 0, none⟩ = some (.int .i64 x)) :
    Calls Tryd.prog 100 #[.int .i64 m, .slice (some ⟨p, 0, none⟩) 1 1] w fun e w' => e = .returned (.bool (decide (m ≤ x))) ∧ w = w' :=
  (areAtLeast_any p m [x] w (by simp) (At.one hc)).mono fun e w' ⟨h, hw⟩ => ⟨by rw [h]; simp, hw⟩

set_option maxHeartbeats 400000 in
theorem isMissingOr_any (m n : Int) (w : World) :
    Calls Tryd.prog 112 #[.int .i64 m, .int .i64 n] w fun e w' => e = .returned (.bool (decide (n = -1) || decide (m ≤ n))) ∧ Below w.heap.size w w' := by
  by_cases h : n = -1
  · subst h
    go_enter Tryd.func112, Tryd.ntmps112
    go_wp2
    go_ret
    exact ⟨ret_b (by simp), Below.refl _ _⟩
  · have h' : (n == -1) = false := by simpa using h
    have H := Lib.hid h
    have KA := fun (W : World) (p : Nat) (h : W.cell? ⟨p, 0, none⟩ = some (.int .i64 n)) => Lib.hid (areAtLeast1 p m n W h)
    clear h
    go_enter Tryd.func112, Tryd.ntmps112
    go_wp2_with (go_at_call 100; refine ((KA _ _ (by simp)).out).mono ?_; rintro e w' ⟨rfl, rfl⟩)
    go_ret
    exact ⟨ret_b (by simp [H.out]), (Below.refl _ _).alloc (Nat.le_refl _) _⟩

set_option maxHeartbeats 400000 in
theorem isClean_any (s : ByteArray) (w : World) (hs : s.size ≤ maxLen) :
    Calls Tryd.prog 111 #[.string s] w fun e w' => e = .returned (.bool (cleanL (bts s))) ∧ Below w.heap.size w w' := by
  unfold maxLen at hs
  go_enter Tryd.func111, Tryd.ntmps111
  go_wp2
  go_loopw [6] (fun i wr => ∃ k : Nat, i = .int .i64 k ∧ k ≤ s.size ∧ Hid (cleanL ((bts s).take k) = true) ∧ Below w.heap.size w wr) (fun i _ => s.size - (intOf i).toNat)
  case atStart => exact ⟨0, rfl, Nat.zero_le _, Lib.hid rfl, Below.refl _ _⟩
  case round =>
    obtain ⟨k, rfl, hk, ha, hb⟩ := hrel
    have hsz := hb.size
    by_cases hlt : k < s.size
    · have HG := Lib.hid (bts_get s hlt)
      have HY := Lib.hid (take_snoc (bts s) k _ HG.out)
      cases hp : padI (s[k].toNat : Int) with
      | true =>
        have HP := Lib.hid hp
        have KP := fun (W : World) (p : Nat) (h : W.cell? ⟨p, 0, none⟩ = some (.int .u8 (s[k].toNat : Int))) => Lib.hid (arePads1 p (s[k].toNat : Int) W h)
        rw [hp] at KP
        clear hp
        go_wp2_with (go_at_call 105; refine ((KP _ _ (by simp)).out).mono ?_; rintro e w' ⟨rfl, rfl⟩)
        go_roundw
        case rel => exact ⟨k + 1, by go_num, by omega, Lib.hid (by rw [HY.out, cleanL_snoc, ha.out, HP.out]; rfl), hb.alloc hsz _⟩
        case measure => simp [intOf]; omega
      | false =>
        have HC := Lib.hid (cleanL_at HG.out hp)
        have KP := fun (W : World) (p : Nat) (h : W.cell? ⟨p, 0, none⟩ = some (.int .u8 (s[k].toNat : Int))) => Lib.hid (arePads1 p (s[k].toNat : Int) W h)
        rw [hp] at KP
        clear hp
        go_wp2_with (go_at_call 105; refine ((KP _ _ (by simp)).out).mono ?_; rintro e w' ⟨rfl, rfl⟩)
        go_ret
        exact ⟨ret_b HC.out.symm, hb.alloc hsz _⟩
    · have HC := Lib.hid (show cleanL (bts s) = true by have := ha.out; rwa [List.take_of_length_le (by rw [bts_length]; omega)] at this)
      go_wp2
      go_ret
      exact ⟨ret_b HC.out.symm, hb⟩

set_option maxHeartbeats 400000 in
theorem Valid_any (s : ByteArray) (w : World) (hs : s.size ≤ maxLen) :
    Calls Tryd.prog 31 #[.string s] w fun e w' => e = .returned (.bool (validL (bts s))) ∧ Below w.heap.size w w' := by
  have KC := fun W => Lib.hid (isClean_any s W hs)
  unfold maxLen at hs
  by_cases h : s.size ≤ 1000
  · have HR := Lib.hid (show validL (bts s) = cleanL (bts s) by unfold validL; rw [bts_length]; simp [h])
    go_enter Tryd.func31, Tryd.ntmps31
    go_wp2_with (go_at_call 111; refine ((KC _).out).mono ?_; rintro e w' ⟨rfl, hb⟩)
    go_ret
    exact ⟨ret_b HR.out.symm, hb⟩
  · have HR := Lib.hid (show validL (bts s) = false by unfold validL; rw [bts_length]; simp [h])
    go_enter Tryd.func31, Tryd.ntmps31
    go_wp2
    go_ret
    exact ⟨ret_b HR.out.symm, Below.refl _ _⟩

set_option maxHeartbeats 400000 in
theorem areValid_any (p : Nat) (l : List ByteArray) (w : World) (hl : l.length ≤ 10) (hs : ∀ s ∈ l, s.size ≤ maxLen) (hp : p < w.heap.size) (hc : At w p (l.map Value.string)) :
    Calls Tryd.prog 99 #[.slice (some ⟨p, 0, none⟩) l.length l.length] w fun e w' => e = .returned (.bool (l.all fun s => validL (bts s))) ∧ Below w.heap.size w w' := by
  have HC := Lib.hid hc
  have HS := Lib.hid hs
  clear hc hs
  go_enter Tryd.func99, Tryd.ntmps99
  go_wp2
  go_loopw [7] (fun i wr => ∃ k : Nat, i = .int .i64 k ∧ k ≤ l.length ∧ Hid ((l.take k).all (fun s => validL (bts s)) = true) ∧ Below w.heap.size w wr) (fun i _ => l.length - (intOf i).toNat)
  case atStart => exact ⟨0, rfl, Nat.zero_le _, Lib.hid rfl, Below.refl _ _⟩
  case round =>
    obtain ⟨k, rfl, hk, ha, hb⟩ := hrel
    have hsz := hb.size
    by_cases hlt : k < l.length
    · obtain ⟨x, hx⟩ : ∃ x, l[k]? = some x := ⟨_, List.getElem?_eq_getElem hlt⟩
      have c1 := (hb.cell (p := ⟨p, k, none⟩) hp).trans (HC.out k _ (by rw [List.getElem?_map, hx]; rfl))
      have HX := Lib.hid hx
      have HM := Lib.hid (List.mem_of_getElem? hx)
      clear hx
      have KV := fun W => Lib.hid (Valid_any x W (HS.out x HM.out))
      cases hv : validL (bts x) with
      | true =>
        rw [hv] at KV
        have HV := Lib.hid hv
        clear hv
        go_wp2_with (go_at_call 31; refine ((KV _).out).mono ?_; rintro e w' ⟨rfl, hb1⟩)
        go_roundw
        case rel =>
          refine ⟨k + 1, by go_num, by omega, Lib.hid ?_, hb.trans (hb1.mono hsz)⟩
          rw [List.take_add_one, HX.out]
          simp only [List.all_append, ha.out]
          simp [HV.out]
        case measure => simp [intOf]; omega
      | false =>
        rw [hv] at KV
        have HALL := Lib.hid (show l.all (fun s => validL (bts s)) = false by rw [List.all_eq_false]; exact ⟨x, HM.out, by rw [hv]; simp⟩)
        clear hv
        go_wp2_with (go_at_call 31; refine ((KV _).out).mono ?_; rintro e w' ⟨rfl, hb1⟩)
        go_ret
        exact ⟨ret_b HALL.out.symm, hb.trans (hb1.mono hsz)⟩
    · obtain rfl : k = l.length := by omega
      have HALL := Lib.hid (show l.all (fun s => validL (bts s)) = true by have := ha.out; rwa [List.take_length] at this)
      go_wp2
      go_ret
      exact ⟨ret_b HALL.out.symm, hb⟩
end Go.Proofs.YtoilgjlbpimcpaaDoor
