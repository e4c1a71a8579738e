/- The reader of dates with the name of a month. -/
import Derived.Test.YtmjifmlibgpjiaaGreatDoorGl
namespace Go.Proofs.YtmjifmlibgpjiaaGreatDoor
open Go.RowKit Go.Shelf Tx Go.Maps
set_option linter.unusedVariables false
set_option maxRecDepth 100000

/-- The variable that strings.Contains reads is there. -/
def HasMax (w : World) : Prop := ∃ m : Int, w.cell? ⟨2, 0, none⟩ = some (.int .i64 m)
theorem HasMax.below {a b : World} (h : HasMax a) (hb : Below a.heap.size a b) : HasMax b := by
  obtain ⟨m, hm⟩ := h
  refine ⟨m, ?_⟩
  have hlt : 2 < a.heap.size := by
    rcases Nat.lt_or_ge 2 a.heap.size with q | q
    · exact q
    · simp [World.cell?, Array.getElem?_eq_none q] at hm
  have e := hb.block _ hlt
  simp only [World.cell?] at hm ⊢
  rw [e]
  exact hm
theorem HasMax.drewN {a : World} {n : Nat} (h : HasMax a) : HasMax (a.drewN n) := h
namespace Tx
def monA (m : Nat) : List UInt8 := (monL.getD m []).take 3
def monFrom (l : List UInt8) : Nat → Nat → Int
  | 0, _ => -1
  | k + 1, m => if Lib.contains l (monA m) then (m : Int) else monFrom l k (m + 1)
/-- The first month whose abbreviation a text has; -1 if there is none. -/
def monV (l : List UInt8) : Int := monFrom l 12 0
theorem monFrom_lo (l : List UInt8) : ∀ k m, -1 ≤ monFrom l k m ∧ monFrom l k m ≤ ((m + k : Nat) : Int)
  | 0, m => by unfold monFrom; omega
  | k + 1, m => by
    unfold monFrom
    have := monFrom_lo l k (m + 1)
    split <;> omega
theorem monL_size : ∀ m, m < 12 → ∃ x, monL[m]? = some x ∧ 3 ≤ x.length ∧ x.length ≤ 9 ∧ monA m = x.take 3 := by
  intro m h
  match m, h with
  | 0, _ | 1, _ | 2, _ | 3, _ | 4, _ | 5, _ | 6, _ | 7, _ | 8, _ | 9, _ | 10, _ | 11, _ => exact ⟨_, rfl, by decide, by decide, rfl⟩
end Tx
set_option maxHeartbeats 400000 in
theorem briefX (s : ByteArray) (w : World) (hs : 3 ≤ s.size) (hs2 : s.size ≤ 1000) : Calls Tryz.prog 129 #[.string s] w fun e w' => e = .returned (.string (s.extract 0 3)) ∧ w = w' := by
  have h1 : (3 : Int) ≤ (s.size : Int) := by omega
  have h2 : ¬ (s.size : Int) < 3 := by omega
  go_enter Tryz.func129, Tryz.ntmps129
  go_wp2
  go_ret
  exact ⟨rfl, rfl⟩
set_option maxHeartbeats 1000000 in
theorem normal1_any (s p : ByteArray) (b : Nat) (w : World) (hs : s.size ≤ 1000000) (hb : w.cell? ⟨b, 0, none⟩ = some (.string s)) (h3 : 3 ≤ p.size) (h9 : p.size ≤ 1000) (hM : HasMax w) :
    Calls Tryz.prog 136 #[.string p, .pointer (some ⟨b, 0, none⟩)] w fun e w' => e = .returned (.bool (Lib.contains (bts s) ((bts p).take 3))) ∧ ∃ n, w.drewN n = w' := by
  obtain ⟨m, hm⟩ := hM
  have KB := fun W => Lib.hid (briefX p W h3 h9)
  have HX := Lib.hid (show bts (p.extract 0 3) = (bts p).take 3 by rw [bts_extract]; simp)
  obtain ⟨q, hq⟩ : ∃ q, q = p.extract 0 3 := ⟨_, rfl⟩
  rw [← hq] at KB HX
  have KC := fun n => Lib.hid (show Calls Tryz.prog 137 #[.string s, .string q] (w.drewN n) (fun e w' => e = .returned (.bool (Lib.contains (bts s) ((bts p).take 3))) ∧ w.drewN n = w') from by rw [← HX.out]; exact (Tryz.strings_Contains s q m (w.drewN n) (by omega) hm).mono fun e w' h => ⟨h.1, h.2.symm⟩)
  obtain ⟨r, hr⟩ : ∃ r, r = Lib.contains (bts s) ((bts p).take 3) := ⟨_, rfl⟩
  rw [← hr] at KC ⊢
  clear hq hr hm hs h3 h9 HX
  go_enter Tryz.func136, Tryz.ntmps136
  go_wp2
  go_quiet (first
    | (go_at_call 129; exact quietS (KB _).out)
    | (go_at_call 137; exact quietS (KC _).out))
  go_wp2
  go_ret
  exact ⟨rfl, _, rfl⟩
set_option maxHeartbeats 2000000 in
theorem findM_any (s : ByteArray) (b q : Nat) (w : World) (hs : s.size ≤ 1000000) (hb : w.cell? ⟨b, 0, none⟩ = some (.string s)) (hq : StrsAt w q monL) (hM : HasMax w) :
    Calls Tryz.prog 135 #[.slice (some ⟨q, 0, none⟩) 12 12, .func (.func 136) #[] #[.pointer (some ⟨b, 0, none⟩)]] w fun e w' => e = .returned (.int .i64 (monV (bts s))) ∧ ∃ n, w.drewN n = w' := by
  have K := fun (p : ByteArray) (n : Nat) (h3 : 3 ≤ p.size) (h9 : p.size ≤ 1000) => Lib.hid (normal1_any s p b (w.drewN n) hs hb h3 h9 hM.drewN)
  have HQ := Lib.hid hq
  clear hs hb hq hM
  go_enter Tryz.func135, Tryz.ntmps135
  go_wp2
  go_loopw [5, 6, 9] (fun _ _ v9 wr => ∃ i n : Nat, v9 = .int .i64 (i : Int) ∧ i ≤ 12 ∧ Hid (monV (bts s) = monFrom (bts s) (12 - i) i) ∧ wr = w.drewN n) (fun _ _ v9 _ => 12 - (intOf v9).toNat)
  case atStart => exact ⟨0, 0, rfl, by omega, Lib.hid rfl, rfl⟩
  case round =>
    obtain ⟨i, n, rfl, hi, hV, rfl⟩ := hrel
    by_cases hlt : i < 12
    · obtain ⟨x, hx, x3, x9, hxa⟩ := monL_size i hlt
      have hc : (w.drewN n).cell? ⟨q, i, none⟩ = some (.string ⟨x.toArray⟩) := HQ.out.get hx
      have hxs : (⟨x.toArray⟩ : ByteArray).size = x.length := rfl
      have KX := K ⟨x.toArray⟩ n (by rw [hxs]; exact x3) (by rw [hxs]; omega)
      have ex : bts (⟨x.toArray⟩ : ByteArray) = x := bts_mk x
      rw [ex, ← hxa] at KX
      have hlt' : (i : Int) < 12 := by omega
      have k1 : IntKind.i64.wrap ((i : Int) + 1) = (i : Int) + 1 := i64i' (by omega) (by omega)
      have k2 : wrap64 ((i : Int) + 1) = (i : Int) + 1 := w64 (by omega) (by omega)
      have HS := Lib.hid (show monFrom (bts s) (12 - i) i = if Lib.contains (bts s) (monA i) then (i : Int) else monFrom (bts s) (12 - (i + 1)) (i + 1) by rw [show 12 - i = (12 - (i + 1)) + 1 by omega, monFrom])
      obtain ⟨g, hg⟩ : ∃ g, g = Lib.contains (bts s) (monA i) := ⟨_, rfl⟩
      rw [← hg] at KX HS
      clear hg hx x3 x9 hxa hxs
      cases g with
      | true =>
        have HR := Lib.hid (show monV (bts s) = (i : Int) by rw [hV.out, HS.out, if_pos rfl])
        go_wp2_with (go_at_call 136; refine Calls.mono KX.out ?_; rintro e w1 ⟨rfl, k, rfl⟩)
        go_ret
        exact ⟨by rw [HR.out]; rfl, _, rfl⟩
      | false =>
        have HR := Lib.hid (show monV (bts s) = monFrom (bts s) (12 - (i + 1)) (i + 1) by rw [hV.out, HS.out, if_neg (by decide)])
        go_wp2_with (go_at_call 136; refine Calls.mono KX.out ?_; rintro e w1 ⟨rfl, k, rfl⟩)
        go_roundw
        case rel => exact ⟨i + 1, _, by first | rfl | go_num, by omega, HR, rfl⟩
        case measure => simp [intOf]; omega
    · obtain rfl : i = 12 := by omega
      have HR := Lib.hid (show monV (bts s) = -1 by rw [hV.out]; rfl)
      go_wp2
      go_ret
      exact ⟨by rw [HR.out]; rfl, _, rfl⟩
theorem BoxC.stayD {W W' : World} {B : Nat} {t : TypeId} {cs : Array Value} (h : BoxC W B t cs) (hb : Below W.heap.size W W') : BoxC W' B t cs := h.below hb h.lt
set_option maxHeartbeats 4000000 in
theorem d_normal_any (s : ByteArray) (y : Nat) (w : World) (hs : s.size ≤ 1000000) (hE : Env w) (hM : HasMax w) : Calls Tryz.prog 102 #[.agg #[.string s, .int .i64 (y : Int)]] w (GivesC (num2 (bts s)) (1 + monV (bts s)) (num1 (bts s)) w) := by
  have KO := fun (W : World) (q : Nat) (h : BoxC W q 3 #[.int .i64 2, .int .i64 0]) => Lib.hid (inOrderN_any q s y W hs (sufOk_any s hs) h)
  have KN := fun W hW => Lib.hid (monthNames_any W hW)
  have KF := fun (q : Nat) (W : World) (h1 : W.cell? ⟨w.heap.size, 0, none⟩ = some (.string s)) (h2 : StrsAt W q monL) (h3 : HasMax W) => Lib.hid (findM_any s w.heap.size q W hs h1 h2 h3)
  have KI := fun W => Lib.hid (inCal_any (num2 (bts s)) (1 + monV (bts s)) (num1 (bts s)) W)
  have hv := monFrom_lo (bts s) 12 0
  obtain ⟨a, ha⟩ : ∃ a, a = (num1 (bts s)) := ⟨_, rfl⟩
  obtain ⟨c, hc⟩ : ∃ c, c = (num2 (bts s)) := ⟨_, rfl⟩
  obtain ⟨v, hvv⟩ : ∃ v, v = monV (bts s) := ⟨_, rfl⟩
  have hv1 : -1 ≤ v ∧ v ≤ 12 := by rw [hvv]; exact ⟨hv.1, hv.2⟩
  have f1 : IntKind.i64.wrap (1 + v) = 1 + v := i64i' (by omega) (by omega)
  have f2 : wrap64 (1 + v) = 1 + v := w64 (by omega) (by omega)
  rw [← ha, ← hc] at KO
  rw [← hvv] at KF
  rw [← ha, ← hc, ← hvv] at KI ⊢
  have HE := Lib.hid hE
  have HM := Lib.hid hM
  clear ha hc hvv hs hv hv1 hE hM
  have hfd := field_date
  have hid := index_date
  go_enter Tryz.func102, Tryz.ntmps102
  go_wp2_with (first
    | (go_at_call 134; refine Calls.mono (KO _ _ (by repeat (first | exact BoxC.newAt (by simp) | refine BoxC.drew ?_ | refine BoxC.alloc ?_ _))).out ?_; rintro e V1 ⟨rfl, hb1⟩; have B1 := Lib.hid (Bl.step (show Below w.heap.size w _ from by repeat (first | exact Below.refl _ _ | refine Bl.alloc ?_ _ | refine Bl.drew ?_)) hb1); have T1 := Lib.hid ((((BoxC.new w 88 #[.string s, .int .i64 (y : Int)]).alloc _).stayD hb1)); clear hb1)
    | (go_at_call 128; refine Calls.mono (KN _ (HE.out.below (Bl.alloc B1.out _))).out ?_; rintro e V2 ⟨rfl, hS, hb2⟩; have B2 := Lib.hid (Bl.step (Bl.alloc B1.out _) hb2); have T2 := Lib.hid ((T1.out.alloc _).stayD hb2); have D2 := Lib.hid ((BoxC.new V1 70 #[.int .i64 c, .int .i64 0, .int .i64 a]).stayD hb2); have hsz : (V1.alloc (.cells #[.int .i64 c, .int .i64 0, .int .i64 a] 70)).heap.size = V1.heap.size + 1 := (by simp); rw [hsz] at hS; have S2 := Lib.hid hS; clear hsz; clear hb2 hS)
    | (go_at_call 135; refine Calls.mono (KF _ _ (T2.out.cell (i := 0) rfl) S2.out (HM.out.below B2.out)).out ?_; rintro e V3 ⟨rfl, nq, rfl⟩; have d0 := D2.out.cell (i := 0) rfl; have d1 := D2.out.cell (i := 1) rfl; have d2 := D2.out.cell (i := 2) rfl; have z0 := D2.out.frozen 0; have z1 := D2.out.frozen 1; have s1 := D2.out.lt; have a0 := (D2.out.set 1 (.int .i64 (1 + v))).cell (i := 0) rfl; have a1 := (D2.out.set 1 (.int .i64 (1 + v))).cell (i := 1) rfl; have a2 := (D2.out.set 1 (.int .i64 (1 + v))).cell (i := 2) rfl)
    | (go_at_call 47; refine Calls.mono (KI _).out ?_; rintro e V4 ⟨n, bb, rfl, hr, hb4⟩))
  go_ret2
  exact ⟨n, bb, rfl, hr, Bl.step (by repeat (first | exact B2.out | refine below_drewN' ?_ _ | refine Bl.drew ?_ | refine Below.setCell ?_ (by have := B1.out.size; simp; omega) _)) hb4⟩
end Go.Proofs.YtmjifmlibgpjiaaGreatDoor
