/- Strings fitted, resized: Left, Right, Center. -/
import Derived.Test.YtoilgjlbpimcpaaDoorTe
namespace Go.Proofs.YtoilgjlbpimcpaaDoor
open Go.RowKit Tx
set_option linter.unusedVariables false
set_option maxRecDepth 100000

theorem size_of_bts {t : ByteArray} {l : List UInt8} (h : bts t = l) : t.size = l.length := by rw [← h, bts_length]

set_option maxHeartbeats 400000 in
theorem fitted_any (s : ByteArray) (n : Nat) (x : Int) (w : World) (hs : s.size ≤ 1000000) (hn : n ≤ 100000) (hx0 : 0 ≤ x) (hx1 : x < 256) :
    Calls Tryd.prog 114 #[.string s, .int .i64 n, .int .u8 x] w fun e w' => ∃ t, e = .returned (.string t) ∧ Hid (bts t = fitL (bts s) n (pb x)) ∧ Below w.heap.size w w' := by
  by_cases h : n ≤ s.size
  · have HR := Lib.hid (bts_extract s 0 n)
    go_enter Tryd.func114, Tryd.ntmps114
    go_wp2
    go_ret
    exact ⟨_, rfl, Lib.hid (by rw [HR.out]; unfold fitL; rw [bts_length, show n - s.size = 0 by omega]; simp), Below.refl _ _⟩
  · have KP := fun W => Lib.hid (pads_any (n - s.size) x W (by omega) hx0 hx1)
    have hc : ((n - s.size : Nat) : Int) = (n : Int) - (s.size : Int) := by omega
    rw [hc] at KP
    clear hc
    go_enter Tryd.func114, Tryd.ntmps114
    go_wp2_with (go_at_call 138; refine Calls.mono (KP _).out ?_; rintro e w1 ⟨t, rfl, ht, hb1⟩; have hts : t.size ≤ 100000 := (by have := size_of_bts ht.out; rw [List.length_replicate] at this; omega))
    go_ret
    exact ⟨_, rfl, Lib.hid (by rw [bts_append, ht.out]; unfold fitL; rw [bts_length, List.take_of_length_le (by rw [bts_length]; omega)]), hb1⟩

/-- What a function of text answers: a string and an error. -/
def GivesS (w : World) (r : Res) (e : Ending) (w' : World) : Prop := ∃ t, e = .returned (.tuple #[.string t, .int .i64 r.2]) ∧ Hid (bts t = r.1) ∧ Below w.heap.size w w'

theorem resL_eq0 {f : Nat → Nat} {l : List UInt8} {n : Nat} {p : UInt8} (h : n < l.length) : resL f l n p = (l.drop (f (l.length - n))).take n := by unfold resL; rw [if_pos h]
theorem resL_eq1 {f : Nat → Nat} {l : List UInt8} {n : Nat} {p : UInt8} (h : ¬ n < l.length) : resL f l n p = List.replicate (f (n - l.length)) p ++ l ++ List.replicate (n - l.length - f (n - l.length)) p := by unfold resL; rw [if_neg h]

theorem cellAt {w : World} {p : Nat} {v : Value} {t : TypeId} (h : p = w.heap.size) : (w.alloc (.cells #[v] t)).cell? ⟨p, 0, none⟩ = some v := by subst h; simp
def shL : Nat → Nat := fun _ => 0
def shR : Nat → Nat := fun n => n
def shC : Nat → Nat := fun n => n / 2
theorem shL_le (n : Nat) : shL n ≤ n := Nat.zero_le n
theorem shR_le (n : Nat) : shR n ≤ n := Nat.le_refl n
theorem shC_le (n : Nat) : shC n ≤ n := Nat.div_le_self n 2
theorem givesS {w w' : World} {r : Res} {l : List UInt8} {t : ByteArray} {k : Int} (hr : r = (l, k)) (ht : bts t = l) (hb : Below w.heap.size w w') : GivesS w r (.returned (.tuple #[.string t, .int .i64 k])) w' := by
  subst hr; exact ⟨t, rfl, Lib.hid ht, hb⟩

set_option maxHeartbeats 400000 in
theorem left1_any (n : Nat) (w : World) (hn : n ≤ 1000000) : Calls Tryd.prog 96 #[.int .i64 n] w fun e w' => e = .returned (.int .i64 (shL n : Nat)) ∧ w = w' := by
  go_enter Tryd.func96, Tryd.ntmps96
  go_wp2
  go_ret
  exact ⟨rfl, rfl⟩
set_option maxHeartbeats 400000 in
theorem right1_any (n : Nat) (w : World) (hn : n ≤ 1000000) : Calls Tryd.prog 97 #[.int .i64 n] w fun e w' => e = .returned (.int .i64 (shR n : Nat)) ∧ w = w' := by
  go_enter Tryd.func97, Tryd.ntmps97
  go_wp2
  go_ret
  exact ⟨rfl, rfl⟩
set_option maxHeartbeats 400000 in
theorem center1_any (n : Nat) (w : World) (hn : n ≤ 1000000) : Calls Tryd.prog 98 #[.int .i64 n] w fun e w' => e = .returned (.int .i64 (shC n : Nat)) ∧ w = w' := by
  go_enter Tryd.func98, Tryd.ntmps98
  go_wp2
  go_ret
  exact ⟨ret_i (by simp [shC]), rfl⟩
set_option maxHeartbeats 2000000 in
/-- resized, where fn is a function that tells a share. -/
theorem resizedL_any (s : ByteArray) (n x : Int) (w : World) (hs : s.size ≤ maxLen) (hx0 : 0 ≤ x) (hx1 : x < 256) :
    Calls Tryd.prog 95 #[.string s, .int .i64 n, .int .u8 x, .func (.func 96) #[] #[]] w (GivesS w (resR shL (bts s) n x)) := by
  have hF := left1_any
  have HS := hs
  unfold maxLen at hs
  have KV := fun (W : World) (p : Nat) (hp : p < W.heap.size) (hc : At W p [.string s]) => Lib.hid (areValid_any p [s] W (by simp) (by simpa using HS) hp hc)
  have KP := fun (W : World) (p : Nat) (hc : W.cell? ⟨p, 0, none⟩ = some (.int .u8 x)) => Lib.hid (arePads1 p x W hc)
  have KA := fun (W : World) (p : Nat) (hc : W.cell? ⟨p, 0, none⟩ = some (.int .i64 n)) => Lib.hid (areAtLeast1 p 0 n W hc)
  simp only [List.length_cons, List.length_nil, Nat.zero_add, List.all_cons, List.all_nil, Bool.and_true] at KV
  clear HS
  cases hv : validL (bts s) with
  | false =>
    rw [hv] at KV
    have HR := Lib.hid (show resR shL (bts s) n x = ([], 1) by unfold resR; rw [hv]; rfl)
    clear hv hF
    go_enter Tryd.func95, Tryd.ntmps95
    go_wp2_with (go_at_call 99; refine Calls.mono (KV _ _ (by simp) (At.new1 _ _ _)).out ?_; rintro e w1 ⟨rfl, hb1⟩)
    go_ret2
    exact givesS HR.out rfl (((Below.refl _ w).alloc (Nat.le_refl _) _).trans (hb1.mono (by simp)))
  | true =>
    rw [hv] at KV
    have hlen : s.size ≤ 1000 := by
      unfold validL at hv
      rw [Bool.and_eq_true, decide_eq_true_eq, bts_length] at hv
      exact hv.1
    cases hp : padI x with
    | false =>
      rw [hp] at KP
      have HR := Lib.hid (show resR shL (bts s) n x = ([], 1) by unfold resR; rw [hv, hp]; rfl)
      clear hv hp hF
      go_enter Tryd.func95, Tryd.ntmps95
      go_wp2_with (first
        | (go_at_call 99; refine Calls.mono (KV _ _ (by simp) (At.new1 _ _ _)).out ?_; rintro e w1 ⟨rfl, hb1⟩; have hz1 := hb1.size; have hz1' : w.heap.size + 1 ≤ w1.heap.size := by simpa using hz1)
        | (go_at_call 105; refine Calls.mono (KP _ _ (cellAt (by simp))).out ?_; rintro e w2 ⟨rfl, rfl⟩)
        | (go_at_call 100; refine Calls.mono (KA _ _ (cellAt (by simp))).out ?_; rintro e w2 ⟨rfl, rfl⟩))
      go_ret2
      exact givesS HR.out rfl ((((Below.refl _ w).alloc (Nat.le_refl _) _).trans (hb1.mono (by simp))).alloc (by omega) _)
    | true =>
      rw [hp] at KP
      by_cases h0 : 0 ≤ n
      · have KT := fun (W : World) (p : Nat) (hc : W.cell? ⟨p, 0, none⟩ = some (.int .i64 n)) => Lib.hid (isTooLong1 p n W h0 hc)
        by_cases h1 : 1000 < n
        · have HR := Lib.hid (show resR shL (bts s) n x = ([], 3) by unfold resR; rw [hv, hp]; simp [h0, h1])
          rw [decide_eq_true h0] at KA
          rw [decide_eq_true h1] at KT
          clear hv hp hF
          go_enter Tryd.func95, Tryd.ntmps95
          go_wp2_with (first
            | (go_at_call 99; refine Calls.mono (KV _ _ (by simp) (At.new1 _ _ _)).out ?_; rintro e w1 ⟨rfl, hb1⟩; have hz1 := hb1.size; have hz1' : w.heap.size + 1 ≤ w1.heap.size := by simpa using hz1)
            | (go_at_call 105; refine Calls.mono (KP _ _ (cellAt (by simp))).out ?_; rintro e w2 ⟨rfl, rfl⟩)
            | (go_at_call 100; refine Calls.mono (KA _ _ (cellAt (by simp))).out ?_; rintro e w2 ⟨rfl, rfl⟩)
            | (go_at_call 101; refine Calls.mono (KT _ _ (cellAt (by simp))).out ?_; rintro e w2 ⟨rfl, rfl⟩))
          go_ret2
          exact givesS HR.out rfl ((((((Below.refl _ w).alloc (Nat.le_refl _) _).trans (hb1.mono (by simp))).alloc (by omega) _).alloc (by simp; omega) _).alloc (by simp; omega) _)
        · have HR := Lib.hid (show resR shL (bts s) n x = (resL shL (bts s) n.toNat (pb x), 0) by unfold resR; rw [hv, hp]; simp [h0, h1])
          rw [decide_eq_true h0] at KA
          rw [decide_eq_false h1] at KT
          clear hv hp
          obtain ⟨m, rfl⟩ := Int.eq_ofNat_of_zero_le h0
          rw [Int.toNat_natCast] at HR
          have HHF := Lib.hid hF
          clear hF
          by_cases h2 : m < s.size
          · have KF := fun W => Lib.hid (HHF.out (s.size - m) W (by omega))
            have hfm := shL_le (s.size - m)
            have HRE := Lib.hid (resL_eq0 (f := shL) (l := bts s) (n := m) (p := pb x) (by rw [bts_length]; exact h2))
            rw [bts_length] at HRE
            have hc : ((s.size - m : Nat) : Int) = (s.size : Int) - (m : Int) := by omega
            rw [hc] at KF
            obtain ⟨k, hk⟩ : ∃ k, k = shL (s.size - m) := ⟨_, rfl⟩
            rw [← hk] at KF hfm HRE
            have HX := Lib.hid (bts_extract s k (k + m))
            clear hc hk
            have hw : IntKind.i64.wrap ((k : Int) + (m : Int)) = (k : Int) + (m : Int) := IntWalk.i64_in _ (by omega)
            go_enter Tryd.func95, Tryd.ntmps95
            go_wp2_with (first
              | (go_at_call 99; refine Calls.mono (KV _ _ (by simp) (At.new1 _ _ _)).out ?_; rintro e w1 ⟨rfl, hb1⟩; have hz1 := hb1.size; have hz1' : w.heap.size + 1 ≤ w1.heap.size := by simpa using hz1)
              | (go_at_call 105; refine Calls.mono (KP _ _ (cellAt (by simp))).out ?_; rintro e w2 ⟨rfl, rfl⟩)
              | (go_at_call 100; refine Calls.mono (KA _ _ (cellAt (by simp))).out ?_; rintro e w2 ⟨rfl, rfl⟩)
              | (go_at_call 101; refine Calls.mono (KT _ _ (cellAt (by simp))).out ?_; rintro e w2 ⟨rfl, rfl⟩)
              | (go_at_call 96; refine Calls.mono (KF _).out ?_; rintro e w2 ⟨rfl, rfl⟩))
            go_ret2
            exact givesS HR.out (by rw [HRE.out]; have := HX.out; rw [Nat.add_sub_cancel_left] at this; exact this) ((((((Below.refl _ w).alloc (Nat.le_refl _) _).trans (hb1.mono (by simp))).alloc (by omega) _).alloc (by simp; omega) _).alloc (by simp; omega) _)
          · have KF := fun W => Lib.hid (HHF.out (m - s.size) W (by omega))
            have hfm := shL_le (m - s.size)
            have HRE := Lib.hid (resL_eq1 (f := shL) (l := bts s) (n := m) (p := pb x) (by rw [bts_length]; exact h2))
            rw [bts_length] at HRE
            have hc : ((m - s.size : Nat) : Int) = (m : Int) - (s.size : Int) := by omega
            rw [hc] at KF
            obtain ⟨k, hk⟩ : ∃ k, k = shL (m - s.size) := ⟨_, rfl⟩
            rw [← hk] at KF hfm HRE
            clear hc hk
            have KQ := fun (j : Nat) (hj : j ≤ 100000) W => Lib.hid (pads_any j x W hj hx0 hx1)
            have hd : ((m - s.size - k : Nat) : Int) = (m : Int) - (s.size : Int) - (k : Int) := by omega
            have KQ2 := fun W => Lib.hid (KQ (m - s.size - k) (by omega) W).out
            rw [hd] at KQ2
            have KQ1 := fun W => Lib.hid (KQ k (by omega) W).out
            clear hd KQ
            go_enter Tryd.func95, Tryd.ntmps95
            go_wp2_with (first
              | (go_at_call 99; refine Calls.mono (KV _ _ (by simp) (At.new1 _ _ _)).out ?_; rintro e w1 ⟨rfl, hb1⟩; have hz1 := hb1.size; have hz1' : w.heap.size + 1 ≤ w1.heap.size := by simpa using hz1)
              | (go_at_call 105; refine Calls.mono (KP _ _ (cellAt (by simp))).out ?_; rintro e w2 ⟨rfl, rfl⟩)
              | (go_at_call 100; refine Calls.mono (KA _ _ (cellAt (by simp))).out ?_; rintro e w2 ⟨rfl, rfl⟩)
              | (go_at_call 101; refine Calls.mono (KT _ _ (cellAt (by simp))).out ?_; rintro e w2 ⟨rfl, rfl⟩)
              | (go_at_call 96; refine Calls.mono (KF _).out ?_; rintro e w2 ⟨rfl, rfl⟩)
              | (go_at_call 138; first
                  | ((with_reducible refine Calls.mono (KQ1 _).out ?_); clear KQ1; rintro e w3 ⟨t1, rfl, ht1, hb3⟩; have hts1 : t1.size ≤ 100000 := (by have := size_of_bts ht1.out; rw [List.length_replicate] at this; omega); have hz3 := hb3.size; simp only [World.size_alloc] at hz3)
                  | ((with_reducible refine Calls.mono (KQ2 _).out ?_); rintro e w4 ⟨t2, rfl, ht2, hb4⟩; have hts2 : t2.size ≤ 100000 := (by have := size_of_bts ht2.out; rw [List.length_replicate] at this; omega))))
            go_ret2
            exact givesS HR.out (by rw [bts_append, bts_append, ht1.out, ht2.out, HRE.out]) (((((((Below.refl _ w).alloc (Nat.le_refl _) _).trans (hb1.mono (by simp))).alloc (by omega) _).alloc (by simp; omega) _).alloc (by simp; omega) _).trans (hb3.mono (by simp; omega)) |>.trans (hb4.mono (by omega)))
      · have HR := Lib.hid (show resR shL (bts s) n x = ([], 1) by unfold resR; rw [hv, hp]; simp [h0])
        rw [decide_eq_false h0] at KA
        clear hv hp hF
        go_enter Tryd.func95, Tryd.ntmps95
        go_wp2_with (first
          | (go_at_call 99; refine Calls.mono (KV _ _ (by simp) (At.new1 _ _ _)).out ?_; rintro e w1 ⟨rfl, hb1⟩; have hz1 := hb1.size; have hz1' : w.heap.size + 1 ≤ w1.heap.size := by simpa using hz1)
          | (go_at_call 105; refine Calls.mono (KP _ _ (cellAt (by simp))).out ?_; rintro e w2 ⟨rfl, rfl⟩)
          | (go_at_call 100; refine Calls.mono (KA _ _ (cellAt (by simp))).out ?_; rintro e w2 ⟨rfl, rfl⟩))
        go_ret2
        exact givesS HR.out rfl (((((Below.refl _ w).alloc (Nat.le_refl _) _).trans (hb1.mono (by simp))).alloc (by omega) _).alloc (by simp; omega) _)

set_option maxHeartbeats 2000000 in
/-- resized, where fn is a function that tells a share. -/
theorem resizedR_any (s : ByteArray) (n x : Int) (w : World) (hs : s.size ≤ maxLen) (hx0 : 0 ≤ x) (hx1 : x < 256) :
    Calls Tryd.prog 95 #[.string s, .int .i64 n, .int .u8 x, .func (.func 97) #[] #[]] w (GivesS w (resR shR (bts s) n x)) := by
  have hF := right1_any
  have HS := hs
  unfold maxLen at hs
  have KV := fun (W : World) (p : Nat) (hp : p < W.heap.size) (hc : At W p [.string s]) => Lib.hid (areValid_any p [s] W (by simp) (by simpa using HS) hp hc)
  have KP := fun (W : World) (p : Nat) (hc : W.cell? ⟨p, 0, none⟩ = some (.int .u8 x)) => Lib.hid (arePads1 p x W hc)
  have KA := fun (W : World) (p : Nat) (hc : W.cell? ⟨p, 0, none⟩ = some (.int .i64 n)) => Lib.hid (areAtLeast1 p 0 n W hc)
  simp only [List.length_cons, List.length_nil, Nat.zero_add, List.all_cons, List.all_nil, Bool.and_true] at KV
  clear HS
  cases hv : validL (bts s) with
  | false =>
    rw [hv] at KV
    have HR := Lib.hid (show resR shR (bts s) n x = ([], 1) by unfold resR; rw [hv]; rfl)
    clear hv hF
    go_enter Tryd.func95, Tryd.ntmps95
    go_wp2_with (go_at_call 99; refine Calls.mono (KV _ _ (by simp) (At.new1 _ _ _)).out ?_; rintro e w1 ⟨rfl, hb1⟩)
    go_ret2
    exact givesS HR.out rfl (((Below.refl _ w).alloc (Nat.le_refl _) _).trans (hb1.mono (by simp)))
  | true =>
    rw [hv] at KV
    have hlen : s.size ≤ 1000 := by
      unfold validL at hv
      rw [Bool.and_eq_true, decide_eq_true_eq, bts_length] at hv
      exact hv.1
    cases hp : padI x with
    | false =>
      rw [hp] at KP
      have HR := Lib.hid (show resR shR (bts s) n x = ([], 1) by unfold resR; rw [hv, hp]; rfl)
      clear hv hp hF
      go_enter Tryd.func95, Tryd.ntmps95
      go_wp2_with (first
        | (go_at_call 99; refine Calls.mono (KV _ _ (by simp) (At.new1 _ _ _)).out ?_; rintro e w1 ⟨rfl, hb1⟩; have hz1 := hb1.size; have hz1' : w.heap.size + 1 ≤ w1.heap.size := by simpa using hz1)
        | (go_at_call 105; refine Calls.mono (KP _ _ (cellAt (by simp))).out ?_; rintro e w2 ⟨rfl, rfl⟩)
        | (go_at_call 100; refine Calls.mono (KA _ _ (cellAt (by simp))).out ?_; rintro e w2 ⟨rfl, rfl⟩))
      go_ret2
      exact givesS HR.out rfl ((((Below.refl _ w).alloc (Nat.le_refl _) _).trans (hb1.mono (by simp))).alloc (by omega) _)
    | true =>
      rw [hp] at KP
      by_cases h0 : 0 ≤ n
      · have KT := fun (W : World) (p : Nat) (hc : W.cell? ⟨p, 0, none⟩ = some (.int .i64 n)) => Lib.hid (isTooLong1 p n W h0 hc)
        by_cases h1 : 1000 < n
        · have HR := Lib.hid (show resR shR (bts s) n x = ([], 3) by unfold resR; rw [hv, hp]; simp [h0, h1])
          rw [decide_eq_true h0] at KA
          rw [decide_eq_true h1] at KT
          clear hv hp hF
          go_enter Tryd.func95, Tryd.ntmps95
          go_wp2_with (first
            | (go_at_call 99; refine Calls.mono (KV _ _ (by simp) (At.new1 _ _ _)).out ?_; rintro e w1 ⟨rfl, hb1⟩; have hz1 := hb1.size; have hz1' : w.heap.size + 1 ≤ w1.heap.size := by simpa using hz1)
            | (go_at_call 105; refine Calls.mono (KP _ _ (cellAt (by simp))).out ?_; rintro e w2 ⟨rfl, rfl⟩)
            | (go_at_call 100; refine Calls.mono (KA _ _ (cellAt (by simp))).out ?_; rintro e w2 ⟨rfl, rfl⟩)
            | (go_at_call 101; refine Calls.mono (KT _ _ (cellAt (by simp))).out ?_; rintro e w2 ⟨rfl, rfl⟩))
          go_ret2
          exact givesS HR.out rfl ((((((Below.refl _ w).alloc (Nat.le_refl _) _).trans (hb1.mono (by simp))).alloc (by omega) _).alloc (by simp; omega) _).alloc (by simp; omega) _)
        · have HR := Lib.hid (show resR shR (bts s) n x = (resL shR (bts s) n.toNat (pb x), 0) by unfold resR; rw [hv, hp]; simp [h0, h1])
          rw [decide_eq_true h0] at KA
          rw [decide_eq_false h1] at KT
          clear hv hp
          obtain ⟨m, rfl⟩ := Int.eq_ofNat_of_zero_le h0
          rw [Int.toNat_natCast] at HR
          have HHF := Lib.hid hF
          clear hF
          by_cases h2 : m < s.size
          · have KF := fun W => Lib.hid (HHF.out (s.size - m) W (by omega))
            have hfm := shR_le (s.size - m)
            have HRE := Lib.hid (resL_eq0 (f := shR) (l := bts s) (n := m) (p := pb x) (by rw [bts_length]; exact h2))
            rw [bts_length] at HRE
            have hc : ((s.size - m : Nat) : Int) = (s.size : Int) - (m : Int) := by omega
            rw [hc] at KF
            obtain ⟨k, hk⟩ : ∃ k, k = shR (s.size - m) := ⟨_, rfl⟩
            rw [← hk] at KF hfm HRE
            have HX := Lib.hid (bts_extract s k (k + m))
            clear hc hk
            have hw : IntKind.i64.wrap ((k : Int) + (m : Int)) = (k : Int) + (m : Int) := IntWalk.i64_in _ (by omega)
            go_enter Tryd.func95, Tryd.ntmps95
            go_wp2_with (first
              | (go_at_call 99; refine Calls.mono (KV _ _ (by simp) (At.new1 _ _ _)).out ?_; rintro e w1 ⟨rfl, hb1⟩; have hz1 := hb1.size; have hz1' : w.heap.size + 1 ≤ w1.heap.size := by simpa using hz1)
              | (go_at_call 105; refine Calls.mono (KP _ _ (cellAt (by simp))).out ?_; rintro e w2 ⟨rfl, rfl⟩)
              | (go_at_call 100; refine Calls.mono (KA _ _ (cellAt (by simp))).out ?_; rintro e w2 ⟨rfl, rfl⟩)
              | (go_at_call 101; refine Calls.mono (KT _ _ (cellAt (by simp))).out ?_; rintro e w2 ⟨rfl, rfl⟩)
              | (go_at_call 97; refine Calls.mono (KF _).out ?_; rintro e w2 ⟨rfl, rfl⟩))
            go_ret2
            exact givesS HR.out (by rw [HRE.out]; have := HX.out; rw [Nat.add_sub_cancel_left] at this; exact this) ((((((Below.refl _ w).alloc (Nat.le_refl _) _).trans (hb1.mono (by simp))).alloc (by omega) _).alloc (by simp; omega) _).alloc (by simp; omega) _)
          · have KF := fun W => Lib.hid (HHF.out (m - s.size) W (by omega))
            have hfm := shR_le (m - s.size)
            have HRE := Lib.hid (resL_eq1 (f := shR) (l := bts s) (n := m) (p := pb x) (by rw [bts_length]; exact h2))
            rw [bts_length] at HRE
            have hc : ((m - s.size : Nat) : Int) = (m : Int) - (s.size : Int) := by omega
            rw [hc] at KF
            obtain ⟨k, hk⟩ : ∃ k, k = shR (m - s.size) := ⟨_, rfl⟩
            rw [← hk] at KF hfm HRE
            clear hc hk
            have KQ := fun (j : Nat) (hj : j ≤ 100000) W => Lib.hid (pads_any j x W hj hx0 hx1)
            have hd : ((m - s.size - k : Nat) : Int) = (m : Int) - (s.size : Int) - (k : Int) := by omega
            have KQ2 := fun W => Lib.hid (KQ (m - s.size - k) (by omega) W).out
            rw [hd] at KQ2
            have KQ1 := fun W => Lib.hid (KQ k (by omega) W).out
            clear hd KQ
            go_enter Tryd.func95, Tryd.ntmps95
            go_wp2_with (first
              | (go_at_call 99; refine Calls.mono (KV _ _ (by simp) (At.new1 _ _ _)).out ?_; rintro e w1 ⟨rfl, hb1⟩; have hz1 := hb1.size; have hz1' : w.heap.size + 1 ≤ w1.heap.size := by simpa using hz1)
              | (go_at_call 105; refine Calls.mono (KP _ _ (cellAt (by simp))).out ?_; rintro e w2 ⟨rfl, rfl⟩)
              | (go_at_call 100; refine Calls.mono (KA _ _ (cellAt (by simp))).out ?_; rintro e w2 ⟨rfl, rfl⟩)
              | (go_at_call 101; refine Calls.mono (KT _ _ (cellAt (by simp))).out ?_; rintro e w2 ⟨rfl, rfl⟩)
              | (go_at_call 97; refine Calls.mono (KF _).out ?_; rintro e w2 ⟨rfl, rfl⟩)
              | (go_at_call 138; first
                  | ((with_reducible refine Calls.mono (KQ1 _).out ?_); clear KQ1; rintro e w3 ⟨t1, rfl, ht1, hb3⟩; have hts1 : t1.size ≤ 100000 := (by have := size_of_bts ht1.out; rw [List.length_replicate] at this; omega); have hz3 := hb3.size; simp only [World.size_alloc] at hz3)
                  | ((with_reducible refine Calls.mono (KQ2 _).out ?_); rintro e w4 ⟨t2, rfl, ht2, hb4⟩; have hts2 : t2.size ≤ 100000 := (by have := size_of_bts ht2.out; rw [List.length_replicate] at this; omega))))
            go_ret2
            exact givesS HR.out (by rw [bts_append, bts_append, ht1.out, ht2.out, HRE.out]) (((((((Below.refl _ w).alloc (Nat.le_refl _) _).trans (hb1.mono (by simp))).alloc (by omega) _).alloc (by simp; omega) _).alloc (by simp; omega) _).trans (hb3.mono (by simp; omega)) |>.trans (hb4.mono (by omega)))
      · have HR := Lib.hid (show resR shR (bts s) n x = ([], 1) by unfold resR; rw [hv, hp]; simp [h0])
        rw [decide_eq_false h0] at KA
        clear hv hp hF
        go_enter Tryd.func95, Tryd.ntmps95
        go_wp2_with (first
          | (go_at_call 99; refine Calls.mono (KV _ _ (by simp) (At.new1 _ _ _)).out ?_; rintro e w1 ⟨rfl, hb1⟩; have hz1 := hb1.size; have hz1' : w.heap.size + 1 ≤ w1.heap.size := by simpa using hz1)
          | (go_at_call 105; refine Calls.mono (KP _ _ (cellAt (by simp))).out ?_; rintro e w2 ⟨rfl, rfl⟩)
          | (go_at_call 100; refine Calls.mono (KA _ _ (cellAt (by simp))).out ?_; rintro e w2 ⟨rfl, rfl⟩))
        go_ret2
        exact givesS HR.out rfl (((((Below.refl _ w).alloc (Nat.le_refl _) _).trans (hb1.mono (by simp))).alloc (by omega) _).alloc (by simp; omega) _)

set_option maxHeartbeats 2000000 in
/-- resized, where fn is a function that tells a share. -/
theorem resizedC_any (s : ByteArray) (n x : Int) (w : World) (hs : s.size ≤ maxLen) (hx0 : 0 ≤ x) (hx1 : x < 256) :
    Calls Tryd.prog 95 #[.string s, .int .i64 n, .int .u8 x, .func (.func 98) #[] #[]] w (GivesS w (resR shC (bts s) n x)) := by
  have hF := center1_any
  have HS := hs
  unfold maxLen at hs
  have KV := fun (W : World) (p : Nat) (hp : p < W.heap.size) (hc : At W p [.string s]) => Lib.hid (areValid_any p [s] W (by simp) (by simpa using HS) hp hc)
  have KP := fun (W : World) (p : Nat) (hc : W.cell? ⟨p, 0, none⟩ = some (.int .u8 x)) => Lib.hid (arePads1 p x W hc)
  have KA := fun (W : World) (p : Nat) (hc : W.cell? ⟨p, 0, none⟩ = some (.int .i64 n)) => Lib.hid (areAtLeast1 p 0 n W hc)
  simp only [List.length_cons, List.length_nil, Nat.zero_add, List.all_cons, List.all_nil, Bool.and_true] at KV
  clear HS
  cases hv : validL (bts s) with
  | false =>
    rw [hv] at KV
    have HR := Lib.hid (show resR shC (bts s) n x = ([], 1) by unfold resR; rw [hv]; rfl)
    clear hv hF
    go_enter Tryd.func95, Tryd.ntmps95
    go_wp2_with (go_at_call 99; refine Calls.mono (KV _ _ (by simp) (At.new1 _ _ _)).out ?_; rintro e w1 ⟨rfl, hb1⟩)
    go_ret2
    exact givesS HR.out rfl (((Below.refl _ w).alloc (Nat.le_refl _) _).trans (hb1.mono (by simp)))
  | true =>
    rw [hv] at KV
    have hlen : s.size ≤ 1000 := by
      unfold validL at hv
      rw [Bool.and_eq_true, decide_eq_true_eq, bts_length] at hv
      exact hv.1
    cases hp : padI x with
    | false =>
      rw [hp] at KP
      have HR := Lib.hid (show resR shC (bts s) n x = ([], 1) by unfold resR; rw [hv, hp]; rfl)
      clear hv hp hF
      go_enter Tryd.func95, Tryd.ntmps95
      go_wp2_with (first
        | (go_at_call 99; refine Calls.mono (KV _ _ (by simp) (At.new1 _ _ _)).out ?_; rintro e w1 ⟨rfl, hb1⟩; have hz1 := hb1.size; have hz1' : w.heap.size + 1 ≤ w1.heap.size := by simpa using hz1)
        | (go_at_call 105; refine Calls.mono (KP _ _ (cellAt (by simp))).out ?_; rintro e w2 ⟨rfl, rfl⟩)
        | (go_at_call 100; refine Calls.mono (KA _ _ (cellAt (by simp))).out ?_; rintro e w2 ⟨rfl, rfl⟩))
      go_ret2
      exact givesS HR.out rfl ((((Below.refl _ w).alloc (Nat.le_refl _) _).trans (hb1.mono (by simp))).alloc (by omega) _)
    | true =>
      rw [hp] at KP
      by_cases h0 : 0 ≤ n
      · have KT := fun (W : World) (p : Nat) (hc : W.cell? ⟨p, 0, none⟩ = some (.int .i64 n)) => Lib.hid (isTooLong1 p n W h0 hc)
        by_cases h1 : 1000 < n
        · have HR := Lib.hid (show resR shC (bts s) n x = ([], 3) by unfold resR; rw [hv, hp]; simp [h0, h1])
          rw [decide_eq_true h0] at KA
          rw [decide_eq_true h1] at KT
          clear hv hp hF
          go_enter Tryd.func95, Tryd.ntmps95
          go_wp2_with (first
            | (go_at_call 99; refine Calls.mono (KV _ _ (by simp) (At.new1 _ _ _)).out ?_; rintro e w1 ⟨rfl, hb1⟩; have hz1 := hb1.size; have hz1' : w.heap.size + 1 ≤ w1.heap.size := by simpa using hz1)
            | (go_at_call 105; refine Calls.mono (KP _ _ (cellAt (by simp))).out ?_; rintro e w2 ⟨rfl, rfl⟩)
            | (go_at_call 100; refine Calls.mono (KA _ _ (cellAt (by simp))).out ?_; rintro e w2 ⟨rfl, rfl⟩)
            | (go_at_call 101; refine Calls.mono (KT _ _ (cellAt (by simp))).out ?_; rintro e w2 ⟨rfl, rfl⟩))
          go_ret2
          exact givesS HR.out rfl ((((((Below.refl _ w).alloc (Nat.le_refl _) _).trans (hb1.mono (by simp))).alloc (by omega) _).alloc (by simp; omega) _).alloc (by simp; omega) _)
        · have HR := Lib.hid (show resR shC (bts s) n x = (resL shC (bts s) n.toNat (pb x), 0) by unfold resR; rw [hv, hp]; simp [h0, h1])
          rw [decide_eq_true h0] at KA
          rw [decide_eq_false h1] at KT
          clear hv hp
          obtain ⟨m, rfl⟩ := Int.eq_ofNat_of_zero_le h0
          rw [Int.toNat_natCast] at HR
          have HHF := Lib.hid hF
          clear hF
          by_cases h2 : m < s.size
          · have KF := fun W => Lib.hid (HHF.out (s.size - m) W (by omega))
            have hfm := shC_le (s.size - m)
            have HRE := Lib.hid (resL_eq0 (f := shC) (l := bts s) (n := m) (p := pb x) (by rw [bts_length]; exact h2))
            rw [bts_length] at HRE
            have hc : ((s.size - m : Nat) : Int) = (s.size : Int) - (m : Int) := by omega
            rw [hc] at KF
            obtain ⟨k, hk⟩ : ∃ k, k = shC (s.size - m) := ⟨_, rfl⟩
            rw [← hk] at KF hfm HRE
            have HX := Lib.hid (bts_extract s k (k + m))
            clear hc hk
            have hw : IntKind.i64.wrap ((k : Int) + (m : Int)) = (k : Int) + (m : Int) := IntWalk.i64_in _ (by omega)
            go_enter Tryd.func95, Tryd.ntmps95
            go_wp2_with (first
              | (go_at_call 99; refine Calls.mono (KV _ _ (by simp) (At.new1 _ _ _)).out ?_; rintro e w1 ⟨rfl, hb1⟩; have hz1 := hb1.size; have hz1' : w.heap.size + 1 ≤ w1.heap.size := by simpa using hz1)
              | (go_at_call 105; refine Calls.mono (KP _ _ (cellAt (by simp))).out ?_; rintro e w2 ⟨rfl, rfl⟩)
              | (go_at_call 100; refine Calls.mono (KA _ _ (cellAt (by simp))).out ?_; rintro e w2 ⟨rfl, rfl⟩)
              | (go_at_call 101; refine Calls.mono (KT _ _ (cellAt (by simp))).out ?_; rintro e w2 ⟨rfl, rfl⟩)
              | (go_at_call 98; refine Calls.mono (KF _).out ?_; rintro e w2 ⟨rfl, rfl⟩))
            go_ret2
            exact givesS HR.out (by rw [HRE.out]; have := HX.out; rw [Nat.add_sub_cancel_left] at this; exact this) ((((((Below.refl _ w).alloc (Nat.le_refl _) _).trans (hb1.mono (by simp))).alloc (by omega) _).alloc (by simp; omega) _).alloc (by simp; omega) _)
          · have KF := fun W => Lib.hid (HHF.out (m - s.size) W (by omega))
            have hfm := shC_le (m - s.size)
            have HRE := Lib.hid (resL_eq1 (f := shC) (l := bts s) (n := m) (p := pb x) (by rw [bts_length]; exact h2))
            rw [bts_length] at HRE
            have hc : ((m - s.size : Nat) : Int) = (m : Int) - (s.size : Int) := by omega
            rw [hc] at KF
            obtain ⟨k, hk⟩ : ∃ k, k = shC (m - s.size) := ⟨_, rfl⟩
            rw [← hk] at KF hfm HRE
            clear hc hk
            have KQ := fun (j : Nat) (hj : j ≤ 100000) W => Lib.hid (pads_any j x W hj hx0 hx1)
            have hd : ((m - s.size - k : Nat) : Int) = (m : Int) - (s.size : Int) - (k : Int) := by omega
            have KQ2 := fun W => Lib.hid (KQ (m - s.size - k) (by omega) W).out
            rw [hd] at KQ2
            have KQ1 := fun W => Lib.hid (KQ k (by omega) W).out
            clear hd KQ
            go_enter Tryd.func95, Tryd.ntmps95
            go_wp2_with (first
              | (go_at_call 99; refine Calls.mono (KV _ _ (by simp) (At.new1 _ _ _)).out ?_; rintro e w1 ⟨rfl, hb1⟩; have hz1 := hb1.size; have hz1' : w.heap.size + 1 ≤ w1.heap.size := by simpa using hz1)
              | (go_at_call 105; refine Calls.mono (KP _ _ (cellAt (by simp))).out ?_; rintro e w2 ⟨rfl, rfl⟩)
              | (go_at_call 100; refine Calls.mono (KA _ _ (cellAt (by simp))).out ?_; rintro e w2 ⟨rfl, rfl⟩)
              | (go_at_call 101; refine Calls.mono (KT _ _ (cellAt (by simp))).out ?_; rintro e w2 ⟨rfl, rfl⟩)
              | (go_at_call 98; refine Calls.mono (KF _).out ?_; rintro e w2 ⟨rfl, rfl⟩)
              | (go_at_call 138; first
                  | ((with_reducible refine Calls.mono (KQ1 _).out ?_); clear KQ1; rintro e w3 ⟨t1, rfl, ht1, hb3⟩; have hts1 : t1.size ≤ 100000 := (by have := size_of_bts ht1.out; rw [List.length_replicate] at this; omega); have hz3 := hb3.size; simp only [World.size_alloc] at hz3)
                  | ((with_reducible refine Calls.mono (KQ2 _).out ?_); rintro e w4 ⟨t2, rfl, ht2, hb4⟩; have hts2 : t2.size ≤ 100000 := (by have := size_of_bts ht2.out; rw [List.length_replicate] at this; omega))))
            go_ret2
            exact givesS HR.out (by rw [bts_append, bts_append, ht1.out, ht2.out, HRE.out]) (((((((Below.refl _ w).alloc (Nat.le_refl _) _).trans (hb1.mono (by simp))).alloc (by omega) _).alloc (by simp; omega) _).alloc (by simp; omega) _).trans (hb3.mono (by simp; omega)) |>.trans (hb4.mono (by omega)))
      · have HR := Lib.hid (show resR shC (bts s) n x = ([], 1) by unfold resR; rw [hv, hp]; simp [h0])
        rw [decide_eq_false h0] at KA
        clear hv hp hF
        go_enter Tryd.func95, Tryd.ntmps95
        go_wp2_with (first
          | (go_at_call 99; refine Calls.mono (KV _ _ (by simp) (At.new1 _ _ _)).out ?_; rintro e w1 ⟨rfl, hb1⟩; have hz1 := hb1.size; have hz1' : w.heap.size + 1 ≤ w1.heap.size := by simpa using hz1)
          | (go_at_call 105; refine Calls.mono (KP _ _ (cellAt (by simp))).out ?_; rintro e w2 ⟨rfl, rfl⟩)
          | (go_at_call 100; refine Calls.mono (KA _ _ (cellAt (by simp))).out ?_; rintro e w2 ⟨rfl, rfl⟩))
        go_ret2
        exact givesS HR.out rfl (((((Below.refl _ w).alloc (Nat.le_refl _) _).trans (hb1.mono (by simp))).alloc (by omega) _).alloc (by simp; omega) _)

set_option maxHeartbeats 400000 in
theorem Left_any (s : ByteArray) (n x : Int) (w : World) (hs : s.size ≤ maxLen) (hx0 : 0 ≤ x) (hx1 : x < 256) :
    Calls Tryd.prog 18 #[.string s, .int .i64 n, .int .u8 x] w (GivesS w (resR shL (bts s) n x)) := by
  have K := fun W => Lib.hid (resizedL_any s n x W hs hx0 hx1)
  obtain ⟨r, hr⟩ : ∃ r, r = resR shL (bts s) n x := ⟨_, rfl⟩
  rw [← hr] at K ⊢
  clear hr
  go_enter Tryd.func18, Tryd.ntmps18
  go_wp2_with (go_at_call 95; refine Calls.mono (K _).out ?_; rintro e w1 ⟨t, rfl, ht, hb⟩)
  go_ret2
  exact ⟨t, rfl, ht, hb⟩
set_option maxHeartbeats 400000 in
theorem Right_any (s : ByteArray) (n x : Int) (w : World) (hs : s.size ≤ maxLen) (hx0 : 0 ≤ x) (hx1 : x < 256) :
    Calls Tryd.prog 19 #[.string s, .int .i64 n, .int .u8 x] w (GivesS w (resR shR (bts s) n x)) := by
  have K := fun W => Lib.hid (resizedR_any s n x W hs hx0 hx1)
  obtain ⟨r, hr⟩ : ∃ r, r = resR shR (bts s) n x := ⟨_, rfl⟩
  rw [← hr] at K ⊢
  clear hr
  go_enter Tryd.func19, Tryd.ntmps19
  go_wp2_with (go_at_call 95; refine Calls.mono (K _).out ?_; rintro e w1 ⟨t, rfl, ht, hb⟩)
  go_ret2
  exact ⟨t, rfl, ht, hb⟩
set_option maxHeartbeats 400000 in
theorem Center_any (s : ByteArray) (n x : Int) (w : World) (hs : s.size ≤ maxLen) (hx0 : 0 ≤ x) (hx1 : x < 256) :
    Calls Tryd.prog 20 #[.string s, .int .i64 n, .int .u8 x] w (GivesS w (resR shC (bts s) n x)) := by
  have K := fun W => Lib.hid (resizedC_any s n x W hs hx0 hx1)
  obtain ⟨r, hr⟩ : ∃ r, r = resR shC (bts s) n x := ⟨_, rfl⟩
  rw [← hr] at K ⊢
  clear hr
  go_enter Tryd.func20, Tryd.ntmps20
  go_wp2_with (go_at_call 95; refine Calls.mono (K _).out ?_; rintro e w1 ⟨t, rfl, ht, hb⟩)
  go_ret2
  exact ⟨t, rfl, ht, hb⟩
end Go.Proofs.YtoilgjlbpimcpaaDoor
