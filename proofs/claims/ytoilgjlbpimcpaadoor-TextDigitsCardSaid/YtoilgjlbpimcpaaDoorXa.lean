/- Upper, Lower, Xrange, both programs'. -/
import Derived.Test.YtoilgjlbpimcpaaDoorWb
namespace Go.Proofs.YtoilgjlbpimcpaaDoor
open Go.RowKit Go.Shelf Tx
set_option linter.unusedVariables false
set_option maxRecDepth 100000

namespace Tx
/-- The bytes from a to b, moved to those from t on. -/
def mvF (a b t : Nat) (x : UInt8) : UInt8 := if a ≤ x.toNat ∧ x.toNat ≤ b then UInt8.ofNat (x.toNat - a + t) else x
def movedR (a b t : Nat) (l : List UInt8) : Res := if validL l then (l.map (mvF a b t), 0) else ([], 1)
theorem mvF_in {a b t : Nat} {x : UInt8} (h1 : a ≤ x.toNat) (h2 : x.toNat ≤ b) (h3 : b - a + t < 256) : ((mvF a b t x).toNat : Int) = (x.toNat : Int) - (a : Int) + (t : Int) := by
  unfold mvF
  rw [if_pos ⟨h1, h2⟩]
  simp
  omega
theorem mvF_out {a b t : Nat} {x : UInt8} (h : ¬ (a ≤ x.toNat ∧ x.toNat ≤ b)) : mvF a b t x = x := by unfold mvF; rw [if_neg h]
theorem clean_map {l : List UInt8} {f : UInt8 → UInt8} (h : cleanL l = true) (hf : ∀ x : UInt8, padI (x.toNat : Int) = true → padI ((f x).toNat : Int) = true) : cleanL (l.map f) = true := by
  unfold cleanL at *
  rw [List.all_eq_true] at *
  intro x hx
  obtain ⟨y, hy, rfl⟩ := List.mem_map.1 hx
  exact hf y (h y hy)
theorem padI_iff (x : Int) : padI x = true ↔ 32 ≤ x ∧ x ≤ 126 := by unfold padI; rw [Bool.and_eq_true, decide_eq_true_eq, decide_eq_true_eq]
theorem padI_mv {a b t : Nat} (h : b - a + t ≤ 126) (ht : 32 ≤ t) (x : UInt8) (hx : padI (x.toNat : Int) = true) : padI ((mvF a b t x).toNat : Int) = true := by
  by_cases e : a ≤ x.toNat ∧ x.toNat ≤ b
  · rw [padI_iff, mvF_in e.1 e.2 (by omega)]; omega
  · rw [mvF_out e]; exact hx
theorem outR_mv {l : List UInt8} {a b t : Nat} (hv : validL l = true) (hl : l.length ≤ 1000) (h : b - a + t ≤ 126) (ht : 32 ≤ t) : outR (l.map (mvF a b t)) = movedR a b t l := by
  rw [outR_ok (clean_map (valid_clean hv) (padI_mv h ht)) (by simpa using hl)]
  unfold movedR; rw [hv]; rfl
theorem step_same {l : List UInt8} {f : UInt8 → UInt8} {k : Nat} {x : UInt8} (h : l[k]? = some x) (hf : f x = x) : (l.take k).map f ++ l.drop k = (l.take (k + 1)).map f ++ l.drop (k + 1) := by
  rw [← set_step (f := f) h, hf]
  have hg := get_step (f := f) h
  apply List.ext_getElem?
  intro i
  rw [List.getElem?_set]
  by_cases e : k = i
  · subst e
    rw [if_pos rfl, if_pos (List.getElem?_eq_some_iff.1 hg).1, hg]
  · rw [if_neg e]
/-- The pads from a on, n of them, cyclic. -/
def nextP (x : Nat) : Nat := if x = 126 then 32 else x + 1
def runP : Nat → Nat → List UInt8
  | _, 0 => []
  | a, n + 1 => UInt8.ofNat a :: runP (nextP a) n
def itP : Nat → Nat → Nat
  | a, 0 => a
  | a, n + 1 => nextP (itP a n)
theorem runP_snoc : ∀ (n a : Nat), runP a (n + 1) = runP a n ++ [UInt8.ofNat (itP a n)]
  | 0, a => rfl
  | n + 1, a => by
    have : itP (nextP a) n = itP a (n + 1) := by
      clear runP_snoc
      induction n with
      | zero => rfl
      | succ n ih => unfold itP; rw [ih]
    rw [show runP a (n + 1 + 1) = UInt8.ofNat a :: runP (nextP a) (n + 1) from rfl, runP_snoc n (nextP a), this]
    rfl
theorem runP_length : ∀ (n a : Nat), (runP a n).length = n
  | 0, _ => rfl
  | n + 1, a => by unfold runP; rw [List.length_cons, runP_length n]
/-- How many steps it takes. -/
def stepsP (a b : Nat) : Nat := if a ≤ b then b - a else b + 95 - a
theorem itP_eq {a n : Nat} (ha : 32 ≤ a) (ha2 : a ≤ 126) : n ≤ 126 - a → itP a n = a + n := by
  induction n with
  | zero => intro _; rfl
  | succ n ih => intro h; unfold itP nextP; rw [ih (by omega), if_neg (by omega)]; omega
theorem itP_eq2 {a n : Nat} (ha : 32 ≤ a) (ha2 : a ≤ 126) : 126 - a < n → n ≤ 126 - a + 95 → itP a n = a + n - 95 := by
  induction n with
  | zero => intro h; omega
  | succ n ih =>
    intro h1 h2
    by_cases e : n ≤ 126 - a
    · unfold itP nextP; rw [itP_eq ha ha2 e, if_pos (by omega)]; omega
    · unfold itP nextP; rw [ih (by omega) (by omega), if_neg (by omega)]; omega
theorem itP_bounds {a n : Nat} (ha : 32 ≤ a) (ha2 : a ≤ 126) : 32 ≤ itP a n ∧ itP a n ≤ 126 := by
  induction n with
  | zero => exact ⟨ha, ha2⟩
  | succ n ih => unfold itP nextP; split <;> omega
theorem itP_end {a b : Nat} (ha : 32 ≤ a) (ha2 : a ≤ 126) (hb : 32 ≤ b) (hb2 : b ≤ 126) : itP a (stepsP a b) = b := by
  unfold stepsP
  split
  · rw [itP_eq ha ha2 (by omega)]; omega
  · rw [itP_eq2 ha ha2 (by omega) (by omega)]; omega
theorem itP_ne {a b n : Nat} (ha : 32 ≤ a) (ha2 : a ≤ 126) (hb : 32 ≤ b) (hb2 : b ≤ 126) (h : n < stepsP a b) : itP a n ≠ b := by
  unfold stepsP at h
  split at h
  · rw [itP_eq ha ha2 (by omega)]; omega
  · by_cases e : n ≤ 126 - a
    · rw [itP_eq ha ha2 e]; omega
    · rw [itP_eq2 ha ha2 (by omega) (by omega)]; omega
theorem stepsP_le {a b : Nat} (ha : 32 ≤ a) (ha2 : a ≤ 126) (hb : 32 ≤ b) (hb2 : b ≤ 126) : stepsP a b ≤ 94 := by unfold stepsP; split <;> omega
def xrangeR (a b : UInt8) : Res := if padI (a.toNat : Int) && padI (b.toNat : Int) then (runP a.toNat (stepsP a.toNat b.toNat + 1), 0) else ([], 1)
theorem runP_clean {a : Nat} (ha : 32 ≤ a) (ha2 : a ≤ 126) : ∀ n, cleanL (runP a n) = true
  | 0 => rfl
  | n + 1 => by
    have hb := itP_bounds (n := n) ha ha2
    rw [runP_snoc, cleanL_append, runP_clean ha ha2 n]
    unfold cleanL
    simp
    rw [padI_iff]
    omega
end Tx
/-- The moving of one byte, the bounds in boxes. -/
def B3 (W : World) (b1 b2 b3 : Nat) (a b t : Nat) : Prop := W.cell? ⟨b1, 0, none⟩ = some (.int .u8 (a : Int)) ∧ W.cell? ⟨b2, 0, none⟩ = some (.int .u8 (b : Int)) ∧ W.cell? ⟨b3, 0, none⟩ = some (.int .u8 (t : Int))
set_option maxHeartbeats 1000000 in
theorem moved1_any (b1 b2 b3 : Nat) (a b t : Nat) (x : UInt8) (w : World) (ha : a < 256) (hb : b < 256) (ht : t < 256) (hat : b - a + t < 256) (h : B3 w b1 b2 b3 a b t) :
    Calls Tryd.prog 169 #[.int .u8 (x.toNat : Int), .pointer (some ⟨b1, 0, none⟩), .pointer (some ⟨b2, 0, none⟩), .pointer (some ⟨b3, 0, none⟩)] w fun e w' => e = .returned (.int .u8 ((mvF a b t x).toNat : Int)) ∧ w = w' := by
  obtain ⟨c1, c2, c3⟩ := h
  have hx := x.toNat_lt
  by_cases h1 : a ≤ x.toNat
  · by_cases h2 : x.toNat ≤ b
    · have HR := Lib.hid (mvF_in h1 h2 hat)
      have e1 : IntKind.u8.wrap ((x.toNat : Int) - (a : Int)) = (x.toNat : Int) - (a : Int) := by unfold IntKind.wrap; simp [IntKind.signed, IntKind.bits]; omega
      have e2 : IntKind.u8.wrap ((x.toNat : Int) - (a : Int) + (t : Int)) = (x.toNat : Int) - (a : Int) + (t : Int) := by unfold IntKind.wrap; simp [IntKind.signed, IntKind.bits]; omega
      clear hat
      go_enter Tryd.func169, Tryd.ntmps169
      go_wp2
      go_ret
      exact ⟨ret_i (by rw [HR.out]), rfl⟩
    · have HR := Lib.hid (show mvF a b t x = x from mvF_out (fun q => h2 q.2))
      have h2' : (b : Int) < (x.toNat : Int) := by omega
      clear hat
      go_enter Tryd.func169, Tryd.ntmps169
      go_wp2
      go_ret
      exact ⟨ret_i (by rw [HR.out]), rfl⟩
  · have HR := Lib.hid (show mvF a b t x = x from mvF_out (fun q => h1 q.1))
    have h1' : (x.toNat : Int) < (a : Int) := by omega
    clear hat
    go_enter Tryd.func169, Tryd.ntmps169
    go_wp2
    go_ret
    exact ⟨ret_i (by rw [HR.out]), rfl⟩
theorem at1x {w : World} {p : Nat} {u : Value} {t : TypeId} (h : p = w.heap.size) : At (w.alloc (.cells #[u] t)) p [u] := by subst h; exact At.new1 _ _ _
theorem B3.new (w : World) (a b t : Nat) : B3 (((w.alloc (.cells #[.int .u8 (a : Int)] 5)).alloc (.cells #[.int .u8 (b : Int)] 5)).alloc (.cells #[.int .u8 (t : Int)] 5)) w.heap.size (w.heap.size + 1) (w.heap.size + 1 + 1) a b t :=
  ⟨cellUp (cellUp (cellAt rfl) (by simp)) (by first | omega | (simp; done) | (simp; omega)), cellUp (cellAt (by simp)) (by simp), cellAt (by simp)⟩
theorem B3.up {w : World} {b1 b2 b3 a b t : Nat} (h : B3 w b1 b2 b3 a b t) (h1 : b1 < w.heap.size) (h2 : b2 < w.heap.size) (h3 : b3 < w.heap.size) (o : Obj) : B3 (w.alloc o) b1 b2 b3 a b t :=
  ⟨cellUp h.1 h1, cellUp h.2.1 h2, cellUp h.2.2 h3⟩
theorem B3.below {w w' : World} {B b1 b2 b3 a b t : Nat} (h : B3 w b1 b2 b3 a b t) (hb : Below B w w') (h1 : b1 < B) (h2 : b2 < B) (h3 : b3 < B) : B3 w' b1 b2 b3 a b t :=
  ⟨(hb.cell (p := ⟨b1, 0, none⟩) h1).trans h.1, (hb.cell (p := ⟨b2, 0, none⟩) h2).trans h.2.1, (hb.cell (p := ⟨b3, 0, none⟩) h3).trans h.2.2⟩
set_option maxHeartbeats 1000000 in
theorem moved_any (s : ByteArray) (a b t : Nat) (w : World) (hss : s.size ≤ maxLen) (ha : a < 256) (hb : b < 256) (ht : t < 256) (hat : b - a + t < 256) :
    Calls Tryd.prog 140 #[.string s, .int .u8 (a : Int), .int .u8 (b : Int), .int .u8 (t : Int)] w (GivesS w (movedR a b t (bts s))) := by
  have KVs := fun (W : World) (pp : Nat) (hp : pp < W.heap.size) (hc : At W pp [.string s]) => Lib.hid (areValid1 pp s W hss hp hc)
  cases hv0 : validL (bts s) with
  | false =>
    rw [hv0] at KVs
    have HR := Lib.hid (show movedR a b t (bts s) = ([], 1) by unfold movedR; rw [hv0]; rfl)
    clear hv0
    go_enter Tryd.func140, Tryd.ntmps140
    go_wp2_with (go_at_call 99; refine Calls.mono (KVs _ _ (by simp) (at1x (by simp))).out ?_; rintro e w1 ⟨rfl, hb1⟩; have B1 : Below w.heap.size w w1 := Bl.step (by repeat (first | assumption | exact Below.refl _ _ | refine Bl.alloc ?_ _)) hb1)
    go_ret2
    exact givesS HR.out rfl B1
  | true =>
    rw [hv0] at KVs
    have hlen := valid_le hv0
    have HR := Lib.hid (show movedR a b t (bts s) = ((bts s).map (mvF a b t), 0) by unfold movedR; rw [hv0]; rfl)
    have KM := fun (W : World) (h : B3 W w.heap.size (w.heap.size + 1) (w.heap.size + 1 + 1) a b t) (hsz : w.heap.size + 1 + 1 < W.heap.size) => Lib.hid (replacedM_any w.heap.size (w.heap.size + 1) (w.heap.size + 1 + 1) (mvF a b t) s W (by omega) (fun c W' hW' => moved1_any _ _ _ a b t c W' ha hb ht hat (h.below hW' (by omega) (by omega) (by omega))))
    clear hv0 hat
    go_enter Tryd.func140, Tryd.ntmps140
    go_wp2_with (first
      | (go_at_call 99; refine Calls.mono (KVs _ _ (by simp) (at1x (by simp))).out ?_; rintro e w1 ⟨rfl, hb1⟩; have B1 : Below w.heap.size w w1 := Bl.step (by repeat (first | assumption | exact Below.refl _ _ | refine Bl.alloc ?_ _)) hb1; have hz1 := hb1.size; have HM := KM w1 (((B3.new w a b t).up (by simp <;> omega) (by simp <;> omega) (by simp <;> omega) _).below hb1 (by simp <;> omega) (by simp <;> omega) (by simp <;> omega)) (by simp at hz1 ⊢; omega); clear hz1)
      | (go_at_call 142; refine Calls.mono HM.out ?_; rintro e w2 ⟨t2, rfl, ht2, hb2⟩))
    go_ret2
    exact givesS HR.out ht2.out (Bl.step B1 hb2)
set_option maxHeartbeats 400000 in
theorem Upper_any (s : ByteArray) (w : World) (hss : s.size ≤ maxLen) :
    Calls Tryd.prog 72 #[.string s] w (GivesS w (movedR 97 122 65 (bts s))) := by
  have KM := fun W => Lib.hid (moved_any s 97 122 65 W hss (by decide) (by decide) (by decide) (by decide))
  go_enter Tryd.func72, Tryd.ntmps72
  go_wp2_with (go_at_call 140; refine Calls.mono (KM _).out ?_; rintro e w2 ⟨t2, rfl, ht2, hb2⟩)
  go_ret2
  exact ⟨t2, rfl, ht2, hb2⟩
set_option maxHeartbeats 4000000 in
theorem RUpper_any (s : ByteArray) (w : World) (hss : s.size ≤ maxLen) :
    Calls Tryd.prog 76 #[.string s] w (GivesA w (movedR 97 122 65 (bts s))) := by
  have KVs := fun (W : World) => Lib.hid (RValid_any s W hss)
  cases hv0 : validL (bts s) with
  | false =>
    rw [hv0] at KVs
    have HR := Lib.hid (show movedR 97 122 65 (bts s) = ([], 1) by unfold movedR; simp only [hv0, Bool.and_false, Bool.false_and, Bool.true_and, Bool.and_true]; rfl)
    clear hv0
    go_enter Tryd.func76, Tryd.ntmps76
    go_wp2_with (first
      | (go_at_call 32; (with_reducible refine Calls.mono (KVs _).out ?_); rintro e w1 ⟨rfl, rfl⟩))
    refine bodyPost_ret (v := .agg #[.string ⟨#[]⟩, .int .i64 1]) (by simp [results, Tryd.results76, go_sem]) rfl ?_
    exact givesA HR.out rfl ((Below.refl _ w).alloc (Nat.le_refl _) _)
  | true =>
    rw [hv0] at KVs
    have hlen := valid_le hv0
    obtain ⟨⟨rl, rk⟩, hrr⟩ : ∃ r, movedR 97 122 65 (bts s) = r := ⟨_, rfl⟩
    have HRR := Lib.hid hrr
    have HR := Lib.hid (show outR ((bts s).map (mvF 97 122 65)) = (rl, rk) by rw [← hrr]; exact outR_mv hv0 (by rw [bts_length]; exact hlen) (by decide) (by decide))
    obtain ⟨cap, w1, hconv, hby0, hb0⟩ := conv_bytes1 s w
    have HBY0 := Lib.hid hby0
    have H122 := Lib.hid hb0
    clear hss hv0 hrr hby0 hb0
    go_enter Tryd.func76, Tryd.ntmps76
    go_wp2_with (first
      | (go_at_call 32; (with_reducible refine Calls.mono (KVs _).out ?_); rintro e w1 ⟨rfl, rfl⟩))
    go_loopw [4] (fun i wr => ∃ k : Nat, i = .int .i64 k ∧ k ≤ s.size ∧ Hid (Bys wr (w.heap.size + 1) (((bts s).take k).map (mvF 97 122 65) ++ (bts s).drop k)) ∧ Hid (SbB w wr)) (fun i _ => s.size - (intOf i).toNat)
    case atStart => exact ⟨0, rfl, Nat.zero_le _, Lib.hid (by simpa using HBY0.out), H122⟩
    case round =>
      obtain ⟨k, rfl, hk, hby, hb⟩ := hrel
      have hlen2 : (((bts s).take k).map (mvF 97 122 65) ++ (bts s).drop k).length = s.size := by simp [bts_length]; omega
      by_cases hlt : k < s.size
      · have hg := bts_get s hlt
        have c1 := hby.out.cell (get_step (f := mvF 97 122 65) hg)
        have c2 := hby.out.frozen (i := k) (by rw [hlen2]; exact hlt)
        have HS := Lib.hid (set_step (f := mvF 97 122 65) hg)
        have hsame := step_same (f := mvF 97 122 65) hg
        obtain ⟨x, hx⟩ : ∃ x, x = s[k] := ⟨_, rfl⟩
        rw [← hx] at c1 HS hsame
        have hxl := x.toNat_lt
        by_cases h1 : 97 ≤ x.toNat
        · by_cases h2 : x.toNat ≤ 122
          · have hin := mvF_in (t := 65) h1 h2 (by decide)
            obtain ⟨y, hy⟩ : ∃ y, y = mvF 97 122 65 x := ⟨_, rfl⟩
            rw [← hy] at HS hin
            have hw : IntKind.u8.wrap ((x.toNat : Int) - 32) = (y.toNat : Int) := by unfold IntKind.wrap; simp [IntKind.signed, IntKind.bits]; omega
            have h1' : (97 : Int) ≤ (x.toNat : Int) := by omega
            have h2' : (x.toNat : Int) ≤ 122 := by omega
            clear hx hg hlen2 hsame hy hin
            go_wp2
            go_roundw
            case rel => exact ⟨k + 1, by go_num, by omega, Lib.hid (by rw [← HS.out]; exact hby.out.set), Lib.hid (SbB.low (B := w.heap.size + 1) hb.out ((Below.refl _ wr).setCell (p := ⟨w.heap.size + 1, k, none⟩) (Nat.le_refl _) _) (Nat.le_refl _))⟩
            case measure => simp [intOf]; omega
          · have HE := Lib.hid (hsame (mvF_out (fun q => h2 q.2)))
            have h2' : (122 : Int) < (x.toNat : Int) := by omega
            clear hx hg hlen2 hsame
            go_wp2
            go_roundw
            case rel => exact ⟨k + 1, by go_num, by omega, Lib.hid (by rw [← HE.out]; exact hby.out), hb⟩
            case measure => simp [intOf]; omega
        · have HE := Lib.hid (hsame (mvF_out (fun q => h1 q.1)))
          have h1' : (x.toNat : Int) < 97 := by omega
          clear hx hg hlen2 hsame
          go_wp2
          go_roundw
          case rel => exact ⟨k + 1, by go_num, by omega, Lib.hid (by rw [← HE.out]; exact hby.out), hb⟩
          case measure => simp [intOf]; omega
      · obtain rfl : k = s.size := by omega
        have KO0 := Rout_any _ _ wr (hby.out.rd (cap := cap) (n := s.size) hlen2) (by rw [hlen2]; omega)
        rw [show ((bts s).take s.size).map (mvF 97 122 65) ++ (bts s).drop s.size = (bts s).map (mvF 97 122 65) by rw [List.take_of_length_le (by rw [bts_length]; exact Nat.le_refl _), List.drop_of_length_le (by rw [bts_length]; exact Nat.le_refl _), List.append_nil], HR.out] at KO0
        have KO := Lib.hid KO0
        clear KO0 hlen2
        go_wp2_with (go_at_call 108; refine Calls.mono KO.out ?_; rintro e w8 ⟨t, rfl, ht, hb5⟩; have HB5 := Lib.hid (hb.out.step hb5); obtain ⟨p1, p2, f1, f2⟩ := HB5.out.facts; clear hb5)
        refine bodyPost_ret (v := .agg #[.string t, .int .i64 rk]) (by simp [results, Tryd.results76, go_sem, p1, p2]) rfl ?_
        rw [HRR.out]
        exact ⟨t, rfl, ht, HB5.out.fin _ _⟩
set_option maxHeartbeats 400000 in
theorem Lower_any (s : ByteArray) (w : World) (hss : s.size ≤ maxLen) :
    Calls Tryd.prog 73 #[.string s] w (GivesS w (movedR 65 90 97 (bts s))) := by
  have KM := fun W => Lib.hid (moved_any s 65 90 97 W hss (by decide) (by decide) (by decide) (by decide))
  go_enter Tryd.func73, Tryd.ntmps73
  go_wp2_with (go_at_call 140; refine Calls.mono (KM _).out ?_; rintro e w2 ⟨t2, rfl, ht2, hb2⟩)
  go_ret2
  exact ⟨t2, rfl, ht2, hb2⟩
set_option maxHeartbeats 4000000 in
theorem RLower_any (s : ByteArray) (w : World) (hss : s.size ≤ maxLen) :
    Calls Tryd.prog 77 #[.string s] w (GivesA w (movedR 65 90 97 (bts s))) := by
  have KVs := fun (W : World) => Lib.hid (RValid_any s W hss)
  cases hv0 : validL (bts s) with
  | false =>
    rw [hv0] at KVs
    have HR := Lib.hid (show movedR 65 90 97 (bts s) = ([], 1) by unfold movedR; simp only [hv0, Bool.and_false, Bool.false_and, Bool.true_and, Bool.and_true]; rfl)
    clear hv0
    go_enter Tryd.func77, Tryd.ntmps77
    go_wp2_with (first
      | (go_at_call 32; (with_reducible refine Calls.mono (KVs _).out ?_); rintro e w1 ⟨rfl, rfl⟩))
    refine bodyPost_ret (v := .agg #[.string ⟨#[]⟩, .int .i64 1]) (by simp [results, Tryd.results77, go_sem]) rfl ?_
    exact givesA HR.out rfl ((Below.refl _ w).alloc (Nat.le_refl _) _)
  | true =>
    rw [hv0] at KVs
    have hlen := valid_le hv0
    obtain ⟨⟨rl, rk⟩, hrr⟩ : ∃ r, movedR 65 90 97 (bts s) = r := ⟨_, rfl⟩
    have HRR := Lib.hid hrr
    have HR := Lib.hid (show outR ((bts s).map (mvF 65 90 97)) = (rl, rk) by rw [← hrr]; exact outR_mv hv0 (by rw [bts_length]; exact hlen) (by decide) (by decide))
    obtain ⟨cap, w1, hconv, hby0, hb0⟩ := conv_bytes1 s w
    have HBY0 := Lib.hid hby0
    have H90 := Lib.hid hb0
    clear hss hv0 hrr hby0 hb0
    go_enter Tryd.func77, Tryd.ntmps77
    go_wp2_with (first
      | (go_at_call 32; (with_reducible refine Calls.mono (KVs _).out ?_); rintro e w1 ⟨rfl, rfl⟩))
    go_loopw [4] (fun i wr => ∃ k : Nat, i = .int .i64 k ∧ k ≤ s.size ∧ Hid (Bys wr (w.heap.size + 1) (((bts s).take k).map (mvF 65 90 97) ++ (bts s).drop k)) ∧ Hid (SbB w wr)) (fun i _ => s.size - (intOf i).toNat)
    case atStart => exact ⟨0, rfl, Nat.zero_le _, Lib.hid (by simpa using HBY0.out), H90⟩
    case round =>
      obtain ⟨k, rfl, hk, hby, hb⟩ := hrel
      have hlen2 : (((bts s).take k).map (mvF 65 90 97) ++ (bts s).drop k).length = s.size := by simp [bts_length]; omega
      by_cases hlt : k < s.size
      · have hg := bts_get s hlt
        have c1 := hby.out.cell (get_step (f := mvF 65 90 97) hg)
        have c2 := hby.out.frozen (i := k) (by rw [hlen2]; exact hlt)
        have HS := Lib.hid (set_step (f := mvF 65 90 97) hg)
        have hsame := step_same (f := mvF 65 90 97) hg
        obtain ⟨x, hx⟩ : ∃ x, x = s[k] := ⟨_, rfl⟩
        rw [← hx] at c1 HS hsame
        have hxl := x.toNat_lt
        by_cases h1 : 65 ≤ x.toNat
        · by_cases h2 : x.toNat ≤ 90
          · have hin := mvF_in (t := 97) h1 h2 (by decide)
            obtain ⟨y, hy⟩ : ∃ y, y = mvF 65 90 97 x := ⟨_, rfl⟩
            rw [← hy] at HS hin
            have hw : IntKind.u8.wrap ((x.toNat : Int) + 32) = (y.toNat : Int) := by unfold IntKind.wrap; simp [IntKind.signed, IntKind.bits]; omega
            have h1' : (65 : Int) ≤ (x.toNat : Int) := by omega
            have h2' : (x.toNat : Int) ≤ 90 := by omega
            clear hx hg hlen2 hsame hy hin
            go_wp2
            go_roundw
            case rel => exact ⟨k + 1, by go_num, by omega, Lib.hid (by rw [← HS.out]; exact hby.out.set), Lib.hid (SbB.low (B := w.heap.size + 1) hb.out ((Below.refl _ wr).setCell (p := ⟨w.heap.size + 1, k, none⟩) (Nat.le_refl _) _) (Nat.le_refl _))⟩
            case measure => simp [intOf]; omega
          · have HE := Lib.hid (hsame (mvF_out (fun q => h2 q.2)))
            have h2' : (90 : Int) < (x.toNat : Int) := by omega
            clear hx hg hlen2 hsame
            go_wp2
            go_roundw
            case rel => exact ⟨k + 1, by go_num, by omega, Lib.hid (by rw [← HE.out]; exact hby.out), hb⟩
            case measure => simp [intOf]; omega
        · have HE := Lib.hid (hsame (mvF_out (fun q => h1 q.1)))
          have h1' : (x.toNat : Int) < 65 := by omega
          clear hx hg hlen2 hsame
          go_wp2
          go_roundw
          case rel => exact ⟨k + 1, by go_num, by omega, Lib.hid (by rw [← HE.out]; exact hby.out), hb⟩
          case measure => simp [intOf]; omega
      · obtain rfl : k = s.size := by omega
        have KO0 := Rout_any _ _ wr (hby.out.rd (cap := cap) (n := s.size) hlen2) (by rw [hlen2]; omega)
        rw [show ((bts s).take s.size).map (mvF 65 90 97) ++ (bts s).drop s.size = (bts s).map (mvF 65 90 97) by rw [List.take_of_length_le (by rw [bts_length]; exact Nat.le_refl _), List.drop_of_length_le (by rw [bts_length]; exact Nat.le_refl _), List.append_nil], HR.out] at KO0
        have KO := Lib.hid KO0
        clear KO0 hlen2
        go_wp2_with (go_at_call 108; refine Calls.mono KO.out ?_; rintro e w8 ⟨t, rfl, ht, hb5⟩; have HB5 := Lib.hid (hb.out.step hb5); obtain ⟨p1, p2, f1, f2⟩ := HB5.out.facts; clear hb5)
        refine bodyPost_ret (v := .agg #[.string t, .int .i64 rk]) (by simp [results, Tryd.results77, go_sem, p1, p2]) rfl ?_
        rw [HRR.out]
        exact ⟨t, rfl, ht, HB5.out.fin _ _⟩
end Go.Proofs.YtoilgjlbpimcpaaDoor
