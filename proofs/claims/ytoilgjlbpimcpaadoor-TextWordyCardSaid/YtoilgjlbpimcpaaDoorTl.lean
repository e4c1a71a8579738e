/- Pos and LastPos. -/
import Derived.Test.YtoilgjlbpimcpaaDoorTk
namespace Go.Proofs.YtoilgjlbpimcpaaDoor
open Go.RowKit Go.Shelf Tx
set_option linter.unusedVariables false
set_option maxRecDepth 100000

set_option maxHeartbeats 400000 in
theorem upward_any (a b : Int) (w : World) :
    Calls Tryd.prog 117 #[.int .i64 a, .int .i64 b] w fun e w' => e = .returned (.func (.func 156) #[] #[.pointer (some ⟨w.heap.size, 0, none⟩), .pointer (some ⟨w.heap.size + 1, 0, none⟩)]) ∧ (w.alloc (.cells #[.int .i64 a] 3)).alloc (.cells #[.int .i64 b] 3) = w' := by
  go_enter Tryd.func117, Tryd.ntmps117
  go_wp2
  go_ret
  exact ⟨rfl, rfl⟩
set_option maxHeartbeats 400000 in
theorem downward_any (a b : Int) (w : World) :
    Calls Tryd.prog 118 #[.int .i64 a, .int .i64 b] w fun e w' => e = .returned (.func (.func 157) #[] #[.pointer (some ⟨w.heap.size, 0, none⟩), .pointer (some ⟨w.heap.size + 1, 0, none⟩)]) ∧ (w.alloc (.cells #[.int .i64 a] 3)).alloc (.cells #[.int .i64 b] 3) = w' := by
  go_enter Tryd.func118, Tryd.ntmps118
  go_wp2
  go_ret
  exact ⟨rfl, rfl⟩
theorem cellUp {w : World} {b : Nat} {v : Value} {o : Obj} (h : w.cell? ⟨b, 0, none⟩ = some v) (hb : b < w.heap.size) : (w.alloc o).cell? ⟨b, 0, none⟩ = some v := ((Below.refl _ w).alloc (Nat.le_refl _) o |>.cell (p := ⟨b, 0, none⟩) hb).trans h
theorem toList_nil {s : ByteArray} (h : s.size = 0) : s.toList = [] := by
  have : s.toList.length = 0 := by rw [ByteArray.toList_eq]; simpa using h
  exact List.eq_nil_of_length_eq_zero this
theorem bts_nil {s : ByteArray} (h : s.size = 0) : bts s = [] := List.eq_nil_of_length_eq_zero (by rw [bts_length]; exact h)
set_option maxHeartbeats 1000000 in
theorem found_none (part s : ByteArray) (v : Value) (L : List Int) (w : World) (hp0 : part.size = 0) :
    Calls Tryd.prog 116 #[.string part, .string s, v] w fun e w' => e = .returned (.int .i64 (firstIn (bts part) (bts s) L)) ∧ Below w.heap.size w w' := by
  have hne := toList_nil hp0
  have HR := Lib.hid (show firstIn (bts part) (bts s) L = -1 by unfold firstIn; rw [if_pos (bts_nil hp0)])
  clear hp0
  go_enter Tryd.func116, Tryd.ntmps116
  go_wp2
  go_step3
  go_wp2
  rw [Exit.noGoto_ret]
  go_ret
  exact ⟨ret_i (by rw [HR.out]), Bl.alloc (Bl.alloc (Bl.alloc (Below.refl _ w) _) _) _⟩

/-- What a function of text answers: a number and an error. -/
def GivesN (w : World) (r : Int × Int) (e : Ending) (w' : World) : Prop := e = .returned (.tuple #[.int .i64 r.1, .int .i64 r.2]) ∧ Below w.heap.size w w'
theorem givesN {w w' : World} {r : Int × Int} {n k : Int} (hr : r = (n, k)) (hb : Below w.heap.size w w') : GivesN w r (.returned (.tuple #[.int .i64 n, .int .i64 k])) w' := by
  subst hr; exact ⟨rfl, hb⟩

theorem found_up (part s : ByteArray) (a : Int) (w : World) (hp : part.size ≤ 1000000) (hs : s.size ≤ 1000000) (h0 : 0 ≤ a) (hhi : a ≤ 9223372036854775806) (b1 b2 : Nat)
    (hb1 : w.cell? ⟨b1, 0, none⟩ = some (.int .i64 a)) (hb2 : w.cell? ⟨b2, 0, none⟩ = some (.int .i64 ((s.size : Int) - part.size))) (hl1 : b1 < w.heap.size) (hl2 : b2 < w.heap.size) :
    Calls Tryd.prog 116 #[.string part, .string s, .func (.func 156) #[] #[.pointer (some ⟨b1, 0, none⟩), .pointer (some ⟨b2, 0, none⟩)]] w fun e w' => e = .returned (.int .i64 (firstIn (bts part) (bts s) (run a 1 ((s.size : Int) - part.size + 1 - a).toNat))) ∧ Below w.heap.size w w' := by
  by_cases h : part.size = 0
  · exact found_none part s _ _ w h
  · exact found_any part s _ _ _ _ w (by omega) hp hs (enters_of Tryd.func156 (by kernel_rfl) rfl) (fun w' hw' => up_stops b1 b2 part.size s.size a _ w h0 (by omega) hs hhi (by omega) (by omega) hb1 hb2 hl1 hl2 w' hw')
theorem found_down (part s : ByteArray) (w : World) (hp : part.size ≤ 1000000) (hs : s.size ≤ 1000000) (b1 b2 : Nat)
    (hb1 : w.cell? ⟨b1, 0, none⟩ = some (.int .i64 ((s.size : Int) - part.size))) (hb2 : w.cell? ⟨b2, 0, none⟩ = some (.int .i64 0)) (hl1 : b1 < w.heap.size) (hl2 : b2 < w.heap.size) :
    Calls Tryd.prog 116 #[.string part, .string s, .func (.func 157) #[] #[.pointer (some ⟨b1, 0, none⟩), .pointer (some ⟨b2, 0, none⟩)]] w fun e w' => e = .returned (.int .i64 (firstIn (bts part) (bts s) (run ((s.size : Int) - part.size) (-1) ((s.size : Int) - part.size + 1 - 0).toNat))) ∧ Below w.heap.size w w' := by
  by_cases h : part.size = 0
  · exact found_none part s _ _ w h
  · exact found_any part s _ _ _ _ w (by omega) hp hs (enters_of Tryd.func157 (by kernel_rfl) rfl) (fun w' hw' => down_stops b1 b2 part.size s.size _ 0 w (by omega) (by omega) hs (by omega) (by omega) (by omega) (by omega) hb1 hb2 hl1 hl2 w' hw')

namespace Tx
def guardN (b : Bool) (r : Int × Int) : Int × Int := if b then r else (0, 1)
theorem firstIn_ge (p l : List UInt8) (L : List Int) (h : ∀ x ∈ L, 0 ≤ x ∧ x ≤ 1000000) : -1 ≤ firstIn p l L ∧ firstIn p l L ≤ 1000000 := by
  unfold firstIn
  split
  · omega
  · cases e : L.find? (occB p l) with
    | none => simp
    | some x => have := h x (List.mem_of_find?_eq_some e); simp; omega
theorem mem_run {a d x : Int} {k : Nat} (h : x ∈ run a d k) : ∃ i : Nat, i < k ∧ x = a + d * (i : Int) := by
  unfold run at h
  obtain ⟨i, hi, rfl⟩ := List.mem_map.1 h
  exact ⟨i, List.mem_range.1 hi, rfl⟩
def posB (p l : List UInt8) (n : Int) : Int := firstIn p l (run (n - 1) 1 ((l.length : Int) - p.length + 1 - (n - 1)).toNat) + 1
def posR (p l : List UInt8) (n : Int) : Int × Int := guardN (validL p && validL l && decide (1 ≤ n)) (posB p l n, 0)
def lastB (p l : List UInt8) : Int := firstIn p l (run ((l.length : Int) - p.length) (-1) ((l.length : Int) - p.length + 1 - 0).toNat) + 1
def lastPosR (p l : List UInt8) (n : Int) : Int × Int := guardN (validL p && validL l && (decide (n = -1) || decide (1 ≤ n))) (lastB p (if n = -1 then l else l.take n.toNat), 0)
end Tx

set_option maxHeartbeats 2000000 in
theorem Pos_any (p s : ByteArray) (n : Int) (w : World) (hsp : p.size ≤ maxLen) (hss : s.size ≤ maxLen) (hn : n ≤ 9223372036854775807) :
    Calls Tryd.prog 41 #[.string p, .string s, .int .i64 n] w (GivesN w (posR (bts p) (bts s) n)) := by
  have KVps := fun (W : World) (pp : Nat) (hp : pp < W.heap.size) (hc : At W pp [.string p, .string s]) => Lib.hid (areValid2 pp p s W hsp hss hp hc)
  have KAn := fun (W : World) (pp : Nat) (hc : W.cell? ⟨pp, 0, none⟩ = some (.int .i64 n)) => Lib.hid (areAtLeast1 pp 1 n W hc)
  cases hv0 : validL (bts p) && validL (bts s) with
  | false =>
    rw [hv0] at KVps
    have HR := Lib.hid (show posR (bts p) (bts s) n = (0, 1) by unfold posR guardN; simp only [hv0, Bool.and_false, Bool.false_and, Bool.true_and, Bool.and_true]; rfl)
    clear hv0
    go_enter Tryd.func41, Tryd.ntmps41
    go_wp2_with (first
      | (go_at_call 99; refine Calls.mono (KVps _ _ (by simp) (At.new2 _ _ _ _)).out ?_; rintro e w1 ⟨rfl, hb1⟩; have B1 : Below w.heap.size w w1 := Bl.step (by repeat (first | assumption | exact Below.refl _ _ | refine Bl.alloc ?_ _ | refine Bl.drew ?_)) hb1))
    go_ret2
    exact givesN HR.out (by repeat (first | assumption | exact Below.refl _ _ | refine Bl.alloc ?_ _ | refine Bl.drew ?_))
  | true =>
    rw [hv0] at KVps
    cases hv1 : decide (1 ≤ n) with
    | false =>
      rw [hv1] at KAn
      have HR := Lib.hid (show posR (bts p) (bts s) n = (0, 1) by unfold posR guardN; simp only [hv0, hv1, Bool.and_false, Bool.false_and, Bool.true_and, Bool.and_true]; rfl)
      clear hv0 hv1
      go_enter Tryd.func41, Tryd.ntmps41
      go_wp2_with (first
        | (go_at_call 99; refine Calls.mono (KVps _ _ (by simp) (At.new2 _ _ _ _)).out ?_; rintro e w1 ⟨rfl, hb1⟩; have B1 : Below w.heap.size w w1 := Bl.step (by repeat (first | assumption | exact Below.refl _ _ | refine Bl.alloc ?_ _ | refine Bl.drew ?_)) hb1)
        | (go_at_call 100; refine Calls.mono (KAn _ _ (cellAt (by simp))).out ?_; rintro e w2 ⟨rfl, rfl⟩))
      go_ret2
      exact givesN HR.out (by repeat (first | assumption | exact Below.refl _ _ | refine Bl.alloc ?_ _ | refine Bl.drew ?_))
    | true =>
      rw [hv1] at KAn
      have hlen := valid_le (Bool.and_eq_true_iff.1 hv0).1
      have hlen2 := valid_le (Bool.and_eq_true_iff.1 hv0).2
      have h1 := of_decide_eq_true hv1
      have HR := Lib.hid (show posR (bts p) (bts s) n = (posB (bts p) (bts s) n, 0) by unfold posR guardN; rw [hv0, hv1]; simp)
      have hbd := firstIn_ge (bts p) (bts s) (run (n - 1) 1 ((s.size : Int) - p.size + 1 - (n - 1)).toNat) (fun x hx => by obtain ⟨i, hi, rfl⟩ := mem_run hx; omega)
      have HB := Lib.hid (show posB (bts p) (bts s) n = firstIn (bts p) (bts s) (run (n - 1) 1 ((s.size : Int) - p.size + 1 - (n - 1)).toNat) + 1 by unfold posB; rw [bts_length, bts_length])
      have KF := fun (W : World) b1 b2 c1 c2 c3 c4 => Lib.hid (found_up p s (n - 1) W (by omega) (by omega) (by omega) (by omega) b1 b2 c1 c2 c3 c4)
      obtain ⟨z, hz⟩ : ∃ z, z = firstIn (bts p) (bts s) (run (n - 1) 1 ((s.size : Int) - p.size + 1 - (n - 1)).toNat) := ⟨_, rfl⟩
      rw [← hz] at KF HB hbd
      clear hv0 hv1 hz
      go_enter Tryd.func41, Tryd.ntmps41
      go_wp2_with (first
        | (go_at_call 99; refine Calls.mono (KVps _ _ (by simp) (At.new2 _ _ _ _)).out ?_; rintro e w1 ⟨rfl, hb1⟩; have B1 : Below w.heap.size w w1 := Bl.step (by repeat (first | assumption | exact Below.refl _ _ | refine Bl.alloc ?_ _ | refine Bl.drew ?_)) hb1)
        | (go_at_call 100; refine Calls.mono (KAn _ _ (cellAt (by simp))).out ?_; rintro e w2 ⟨rfl, rfl⟩)
        | (go_at_call 117; refine Calls.mono (upward_any _ _ _) ?_; rintro e w4 ⟨rfl, rfl⟩)
        | (go_at_call 116; refine Calls.mono (KF _ _ _ (cellUp (cellAt (by simp)) (by simp; try omega)) (cellAt (by simp)) (by simp; try omega) (by simp; try omega)).out ?_; rintro e w5 ⟨rfl, hb5⟩; have B5 : Below w.heap.size w w5 := Bl.step (by repeat (first | assumption | exact Below.refl _ _ | refine Bl.alloc ?_ _ | refine Bl.drew ?_)) hb5))
      go_ret2
      exact givesN (HR.out.trans (by rw [HB.out])) (by repeat (first | assumption | exact Below.refl _ _ | refine Bl.alloc ?_ _ | refine Bl.drew ?_))
set_option maxHeartbeats 2000000 in
theorem LastPos_any (p s : ByteArray) (n : Int) (w : World) (hsp : p.size ≤ maxLen) (hss : s.size ≤ maxLen) (hn : n ≤ 9223372036854775807) :
    Calls Tryd.prog 42 #[.string p, .string s, .int .i64 n] w (GivesN w (lastPosR (bts p) (bts s) n)) := by
  have KVps := fun (W : World) (pp : Nat) (hp : pp < W.heap.size) (hc : At W pp [.string p, .string s]) => Lib.hid (areValid2 pp p s W hsp hss hp hc)
  have KMn := fun (W : World) => Lib.hid (isMissingOr_any 1 n W)
  cases hv0 : validL (bts p) && validL (bts s) with
  | false =>
    rw [hv0] at KVps
    have HR := Lib.hid (show lastPosR (bts p) (bts s) n = (0, 1) by unfold lastPosR guardN; simp only [hv0, Bool.and_false, Bool.false_and, Bool.true_and, Bool.and_true]; rfl)
    clear hv0
    go_enter Tryd.func42, Tryd.ntmps42
    go_wp2_with (first
      | (go_at_call 99; refine Calls.mono (KVps _ _ (by simp) (At.new2 _ _ _ _)).out ?_; rintro e w1 ⟨rfl, hb1⟩; have B1 : Below w.heap.size w w1 := Bl.step (by repeat (first | assumption | exact Below.refl _ _ | refine Bl.alloc ?_ _ | refine Bl.drew ?_)) hb1))
    go_ret2
    exact givesN HR.out (by repeat (first | assumption | exact Below.refl _ _ | refine Bl.alloc ?_ _ | refine Bl.drew ?_))
  | true =>
    rw [hv0] at KVps
    cases hv1 : (decide (n = -1) || decide (1 ≤ n)) with
    | false =>
      rw [hv1] at KMn
      have HR := Lib.hid (show lastPosR (bts p) (bts s) n = (0, 1) by unfold lastPosR guardN; simp only [hv0, hv1, Bool.and_false, Bool.false_and, Bool.true_and, Bool.and_true]; rfl)
      clear hv0 hv1
      go_enter Tryd.func42, Tryd.ntmps42
      go_wp2_with (first
        | (go_at_call 99; refine Calls.mono (KVps _ _ (by simp) (At.new2 _ _ _ _)).out ?_; rintro e w1 ⟨rfl, hb1⟩; have B1 : Below w.heap.size w w1 := Bl.step (by repeat (first | assumption | exact Below.refl _ _ | refine Bl.alloc ?_ _ | refine Bl.drew ?_)) hb1)
        | (go_at_call 112; refine Calls.mono (KMn _).out ?_; rintro e w3 ⟨rfl, hb3⟩; have B3 : Below w.heap.size w w3 := Bl.step (by repeat (first | assumption | exact Below.refl _ _ | refine Bl.alloc ?_ _ | refine Bl.drew ?_)) hb3))
      go_ret2
      exact givesN HR.out (by repeat (first | assumption | exact Below.refl _ _ | refine Bl.alloc ?_ _ | refine Bl.drew ?_))
    | true =>
      rw [hv1] at KMn
      have hlen := valid_le (Bool.and_eq_true_iff.1 hv0).1
      have hlen2 := valid_le (Bool.and_eq_true_iff.1 hv0).2
      by_cases hm : n = -1
      · subst hm
        have HR := Lib.hid (show lastPosR (bts p) (bts s) (-1) = (lastB (bts p) (bts s), 0) by unfold lastPosR guardN; rw [hv0, hv1]; simp)
        have HB := Lib.hid (show lastB (bts p) (bts s) = firstIn (bts p) (bts s) (run ((s.size : Int) - p.size) (-1) ((s.size : Int) - p.size + 1 - 0).toNat) + 1 by unfold lastB; rw [bts_length, bts_length])
        have hbd := firstIn_ge (bts p) (bts s) (run ((s.size : Int) - p.size) (-1) ((s.size : Int) - p.size + 1 - 0).toNat) (fun x hx => by obtain ⟨i, hi, rfl⟩ := mem_run hx; omega)
        have KF := fun (W : World) b1 b2 c1 c2 c3 c4 => Lib.hid (found_down p s W (by omega) (by omega) b1 b2 c1 c2 c3 c4)
        obtain ⟨z, hz⟩ : ∃ z, z = firstIn (bts p) (bts s) (run ((s.size : Int) - p.size) (-1) ((s.size : Int) - p.size + 1 - 0).toNat) := ⟨_, rfl⟩
        rw [← hz] at KF HB hbd
        clear hz
        clear hv0 hv1
        go_enter Tryd.func42, Tryd.ntmps42
        go_wp2_with (first
          | (go_at_call 99; refine Calls.mono (KVps _ _ (by simp) (At.new2 _ _ _ _)).out ?_; rintro e w1 ⟨rfl, hb1⟩; have B1 : Below w.heap.size w w1 := Bl.step (by repeat (first | assumption | exact Below.refl _ _ | refine Bl.alloc ?_ _ | refine Bl.drew ?_)) hb1)
          | (go_at_call 112; refine Calls.mono (KMn _).out ?_; rintro e w3 ⟨rfl, hb3⟩; have B3 : Below w.heap.size w w3 := Bl.step (by repeat (first | assumption | exact Below.refl _ _ | refine Bl.alloc ?_ _ | refine Bl.drew ?_)) hb3)
          | (go_at_call 118; refine Calls.mono (downward_any _ _ _) ?_; rintro e w4 ⟨rfl, rfl⟩)
          | (go_at_call 116; refine Calls.mono (KF _ _ _ (cellUp (cellAt (by simp)) (by simp; try omega)) (cellAt (by simp)) (by simp; try omega) (by simp; try omega)).out ?_; rintro e w5 ⟨rfl, hb5⟩; have B5 : Below w.heap.size w w5 := Bl.step (by repeat (first | assumption | exact Below.refl _ _ | refine Bl.alloc ?_ _ | refine Bl.drew ?_)) hb5))
        go_ret2
        exact givesN (HR.out.trans (by rw [HB.out])) (by repeat (first | assumption | exact Below.refl _ _ | refine Bl.alloc ?_ _ | refine Bl.drew ?_))
      · have h1 : 1 ≤ n := by
          have := hv1
          rw [decide_eq_false hm, Bool.false_or] at this
          exact of_decide_eq_true this
        have hmb : (n != -1) = true := by simpa using hm
        have HR := Lib.hid (show lastPosR (bts p) (bts s) n = (lastB (bts p) ((bts s).take n.toNat), 0) by unfold lastPosR guardN; rw [hv0, hv1]; simp [hm])
        obtain ⟨j, rfl⟩ := Int.eq_ofNat_of_zero_le (show 0 ≤ n by omega)
        rw [Int.toNat_natCast] at HR
        have KBE := fun W => Lib.hid (before_any s j W hss)
        clear hv0 hv1 hm
        go_enter Tryd.func42, Tryd.ntmps42
        go_wp2_with (first
          | (go_at_call 99; refine Calls.mono (KVps _ _ (by simp) (At.new2 _ _ _ _)).out ?_; rintro e w1 ⟨rfl, hb1⟩; have B1 : Below w.heap.size w w1 := Bl.step (by repeat (first | assumption | exact Below.refl _ _ | refine Bl.alloc ?_ _ | refine Bl.drew ?_)) hb1)
          | (go_at_call 112; refine Calls.mono (KMn _).out ?_; rintro e w3 ⟨rfl, hb3⟩; have B3 : Below w.heap.size w w3 := Bl.step (by repeat (first | assumption | exact Below.refl _ _ | refine Bl.alloc ?_ _ | refine Bl.drew ?_)) hb3)
          | (go_at_call 115; refine Calls.mono (KBE _).out ?_; rintro e w8 ⟨t, rfl, ht, rfl⟩; have hts : t.size ≤ 1000 := (by have := size_of_bts ht.out; rw [List.length_take, bts_length] at this; omega); have HB := Lib.hid (show lastB (bts p) (bts t) = firstIn (bts p) (bts t) (run ((t.size : Int) - p.size) (-1) ((t.size : Int) - p.size + 1 - 0).toNat) + 1 by unfold lastB; rw [bts_length, bts_length]); have hbd := firstIn_ge (bts p) (bts t) (run ((t.size : Int) - p.size) (-1) ((t.size : Int) - p.size + 1 - 0).toNat) (fun x hx => by obtain ⟨i, hi, rfl⟩ := mem_run hx; omega); have KF := fun (W : World) b1 b2 c1 c2 c3 c4 => Lib.hid (found_down p t W (by omega) (by omega) b1 b2 c1 c2 c3 c4); obtain ⟨z, hz⟩ : ∃ z, z = firstIn (bts p) (bts t) (run ((t.size : Int) - p.size) (-1) ((t.size : Int) - p.size + 1 - 0).toNat) := ⟨_, rfl⟩; rw [← hz] at KF HB hbd; clear hz)
          | (go_at_call 118; refine Calls.mono (downward_any _ _ _) ?_; rintro e w4 ⟨rfl, rfl⟩)
          | (go_at_call 116; refine Calls.mono (KF _ _ _ (cellUp (cellAt (by simp)) (by simp; try omega)) (cellAt (by simp)) (by simp; try omega) (by simp; try omega)).out ?_; rintro e w5 ⟨rfl, hb5⟩; have B5 : Below w.heap.size w w5 := Bl.step (by repeat (first | assumption | exact Below.refl _ _ | refine Bl.alloc ?_ _ | refine Bl.drew ?_)) hb5))
        go_ret2
        exact givesN (HR.out.trans (by rw [← ht.out, HB.out])) (by repeat (first | assumption | exact Below.refl _ _ | refine Bl.alloc ?_ _ | refine Bl.drew ?_))
end Go.Proofs.YtoilgjlbpimcpaaDoor
