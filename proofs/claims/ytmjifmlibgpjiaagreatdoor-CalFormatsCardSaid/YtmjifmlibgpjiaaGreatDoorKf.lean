/- ReadDay with the name of a month; formats read back. -/
import Derived.Test.YtmjifmlibgpjiaaGreatDoorKg
import Derived.Test.YtmjifmlibgpjiaaGreatDoorGf
import Derived.Test.YtmjifmlibgpjiaaGreatDoorTd
import Derived.Test.YtmjifmlibgpjiaaGreatDoorDk
namespace Go.Proofs.YtmjifmlibgpjiaaGreatDoor
open Go.RowKit Go.Shelf Tx Go.Maps
set_option linter.unusedVariables false
set_option maxRecDepth 100000

/-- The variable that strings.Contains reads is there. -/
def HasMax (w : World) : Prop := ∃ m : Int, w.cell? ⟨2, 0, none⟩ = some (.int .i64 m)
theorem HasMax.below {a b : World} (h : HasMax a) (hb : Below a.heap.size a b) : HasMax b := by
  obtain ⟨m, hm⟩ := h
  refine ⟨m, ?_⟩
  have hlt : 2 < a.heap.size := by
    rcases Nat.lt_or_ge 2 a.heap.size with q | q
    · exact q
    · simp [World.cell?, Array.getElem?_eq_none q] at hm
  have e := hb.block _ hlt
  simp only [World.cell?] at hm ⊢
  rw [e]
  exact hm
theorem HasMax.drewN {a : World} {n : Nat} (h : HasMax a) : HasMax (a.drewN n) := h
namespace Tx
def monA (m : Nat) : List UInt8 := (monL.getD m []).take 3
def monFrom (l : List UInt8) : Nat → Nat → Int
  | 0, _ => -1
  | k + 1, m => if Lib.contains l (monA m) then (m : Int) else monFrom l k (m + 1)
/-- The first month whose abbreviation a text has; -1 if there is none. -/
def monV (l : List UInt8) : Int := monFrom l 12 0
theorem monFrom_lo (l : List UInt8) : ∀ k m, -1 ≤ monFrom l k m ∧ monFrom l k m ≤ ((m + k : Nat) : Int)
  | 0, m => by unfold monFrom; omega
  | k + 1, m => by
    unfold monFrom
    have := monFrom_lo l k (m + 1)
    split <;> omega
theorem monL_size : ∀ m, m < 12 → ∃ x, monL[m]? = some x ∧ 3 ≤ x.length ∧ x.length ≤ 9 ∧ monA m = x.take 3 := by
  intro m h
  match m, h with
  | 0, _ | 1, _ | 2, _ | 3, _ | 4, _ | 5, _ | 6, _ | 7, _ | 8, _ | 9, _ | 10, _ | 11, _ => exact ⟨_, rfl, by decide, by decide, rfl⟩
end Tx
set_option maxHeartbeats 400000 in
theorem briefX (s : ByteArray) (w : World) (hs : 3 ≤ s.size) (hs2 : s.size ≤ 1000) : Calls Tryz.prog 129 #[.string s] w fun e w' => e = .returned (.string (s.extract 0 3)) ∧ w = w' := by
  have h1 : (3 : Int) ≤ (s.size : Int) := by omega
  have h2 : ¬ (s.size : Int) < 3 := by omega
  go_enter Tryz.func129, Tryz.ntmps129
  go_wp2
  go_ret
  exact ⟨rfl, rfl⟩
set_option maxHeartbeats 1000000 in
theorem normal1_any (s p : ByteArray) (b : Nat) (w : World) (hs : s.size ≤ 1000000) (hb : w.cell? ⟨b, 0, none⟩ = some (.string s)) (h3 : 3 ≤ p.size) (h9 : p.size ≤ 1000) (hM : HasMax w) :
    Calls Tryz.prog 136 #[.string p, .pointer (some ⟨b, 0, none⟩)] w fun e w' => e = .returned (.bool (Lib.contains (bts s) ((bts p).take 3))) ∧ ∃ n, w.drewN n = w' := by
  obtain ⟨m, hm⟩ := hM
  have KB := fun W => Lib.hid (briefX p W h3 h9)
  have HX := Lib.hid (show bts (p.extract 0 3) = (bts p).take 3 by rw [bts_extract]; simp)
  obtain ⟨q, hq⟩ : ∃ q, q = p.extract 0 3 := ⟨_, rfl⟩
  rw [← hq] at KB HX
  have KC := fun n => Lib.hid (show Calls Tryz.prog 137 #[.string s, .string q] (w.drewN n) (fun e w' => e = .returned (.bool (Lib.contains (bts s) ((bts p).take 3))) ∧ w.drewN n = w') from by rw [← HX.out]; exact (Tryz.strings_Contains s q m (w.drewN n) (by omega) hm).mono fun e w' h => ⟨h.1, h.2.symm⟩)
  obtain ⟨r, hr⟩ : ∃ r, r = Lib.contains (bts s) ((bts p).take 3) := ⟨_, rfl⟩
  rw [← hr] at KC ⊢
  clear hq hr hm hs h3 h9 HX
  go_enter Tryz.func136, Tryz.ntmps136
  go_wp2
  go_quiet (first
    | (go_at_call 129; exact quietS (KB _).out)
    | (go_at_call 137; exact quietS (KC _).out))
  go_wp2
  go_ret
  exact ⟨rfl, _, rfl⟩
set_option maxHeartbeats 2000000 in
theorem findM_any (s : ByteArray) (b q : Nat) (w : World) (hs : s.size ≤ 1000000) (hb : w.cell? ⟨b, 0, none⟩ = some (.string s)) (hq : StrsAt w q monL) (hM : HasMax w) :
    Calls Tryz.prog 135 #[.slice (some ⟨q, 0, none⟩) 12 12, .func (.func 136) #[] #[.pointer (some ⟨b, 0, none⟩)]] w fun e w' => e = .returned (.int .i64 (monV (bts s))) ∧ ∃ n, w.drewN n = w' := by
  have K := fun (p : ByteArray) (n : Nat) (h3 : 3 ≤ p.size) (h9 : p.size ≤ 1000) => Lib.hid (normal1_any s p b (w.drewN n) hs hb h3 h9 hM.drewN)
  have HQ := Lib.hid hq
  clear hs hb hq hM
  go_enter Tryz.func135, Tryz.ntmps135
  go_wp2
  go_loopw [5, 6, 9] (fun _ _ v9 wr => ∃ i n : Nat, v9 = .int .i64 (i : Int) ∧ i ≤ 12 ∧ Hid (monV (bts s) = monFrom (bts s) (12 - i) i) ∧ wr = w.drewN n) (fun _ _ v9 _ => 12 - (intOf v9).toNat)
  case atStart => exact ⟨0, 0, rfl, by omega, Lib.hid rfl, rfl⟩
  case round =>
    obtain ⟨i, n, rfl, hi, hV, rfl⟩ := hrel
    by_cases hlt : i < 12
    · obtain ⟨x, hx, x3, x9, hxa⟩ := monL_size i hlt
      have hc : (w.drewN n).cell? ⟨q, i, none⟩ = some (.string ⟨x.toArray⟩) := HQ.out.get hx
      have hxs : (⟨x.toArray⟩ : ByteArray).size = x.length := rfl
      have KX := K ⟨x.toArray⟩ n (by rw [hxs]; exact x3) (by rw [hxs]; omega)
      have ex : bts (⟨x.toArray⟩ : ByteArray) = x := bts_mk x
      rw [ex, ← hxa] at KX
      have hlt' : (i : Int) < 12 := by omega
      have k1 : IntKind.i64.wrap ((i : Int) + 1) = (i : Int) + 1 := i64i' (by omega) (by omega)
      have k2 : wrap64 ((i : Int) + 1) = (i : Int) + 1 := w64 (by omega) (by omega)
      have HS := Lib.hid (show monFrom (bts s) (12 - i) i = if Lib.contains (bts s) (monA i) then (i : Int) else monFrom (bts s) (12 - (i + 1)) (i + 1) by rw [show 12 - i = (12 - (i + 1)) + 1 by omega, monFrom])
      obtain ⟨g, hg⟩ : ∃ g, g = Lib.contains (bts s) (monA i) := ⟨_, rfl⟩
      rw [← hg] at KX HS
      clear hg hx x3 x9 hxa hxs
      cases g with
      | true =>
        have HR := Lib.hid (show monV (bts s) = (i : Int) by rw [hV.out, HS.out, if_pos rfl])
        go_wp2_with (go_at_call 136; refine Calls.mono KX.out ?_; rintro e w1 ⟨rfl, k, rfl⟩)
        go_ret
        exact ⟨by rw [HR.out]; rfl, _, rfl⟩
      | false =>
        have HR := Lib.hid (show monV (bts s) = monFrom (bts s) (12 - (i + 1)) (i + 1) by rw [hV.out, HS.out, if_neg (by decide)])
        go_wp2_with (go_at_call 136; refine Calls.mono KX.out ?_; rintro e w1 ⟨rfl, k, rfl⟩)
        go_roundw
        case rel => exact ⟨i + 1, _, by first | rfl | go_num, by omega, HR, rfl⟩
        case measure => simp [intOf]; omega
    · obtain rfl : i = 12 := by omega
      have HR := Lib.hid (show monV (bts s) = -1 by rw [hV.out]; rfl)
      go_wp2
      go_ret
      exact ⟨by rw [HR.out]; rfl, _, rfl⟩
theorem BoxC.stayD {W W' : World} {B : Nat} {t : TypeId} {cs : Array Value} (h : BoxC W B t cs) (hb : Below W.heap.size W W') : BoxC W' B t cs := h.below hb h.lt
set_option maxHeartbeats 4000000 in
theorem d_normal_any (s : ByteArray) (y : Nat) (w : World) (hs : s.size ≤ 1000000) (hE : Env w) (hM : HasMax w) : Calls Tryz.prog 102 #[.agg #[.string s, .int .i64 (y : Int)]] w (GivesC (num2 (bts s)) (1 + monV (bts s)) (num1 (bts s)) w) := by
  have KO := fun (W : World) (q : Nat) (h : BoxC W q 3 #[.int .i64 2, .int .i64 0]) => Lib.hid (inOrderN_any q s y W hs (sufOk_any s hs) h)
  have KN := fun W hW => Lib.hid (monthNames_any W hW)
  have KF := fun (q : Nat) (W : World) (h1 : W.cell? ⟨w.heap.size, 0, none⟩ = some (.string s)) (h2 : StrsAt W q monL) (h3 : HasMax W) => Lib.hid (findM_any s w.heap.size q W hs h1 h2 h3)
  have KI := fun W => Lib.hid (inCal_any (num2 (bts s)) (1 + monV (bts s)) (num1 (bts s)) W)
  have hv := monFrom_lo (bts s) 12 0
  obtain ⟨a, ha⟩ : ∃ a, a = (num1 (bts s)) := ⟨_, rfl⟩
  obtain ⟨c, hc⟩ : ∃ c, c = (num2 (bts s)) := ⟨_, rfl⟩
  obtain ⟨v, hvv⟩ : ∃ v, v = monV (bts s) := ⟨_, rfl⟩
  have hv1 : -1 ≤ v ∧ v ≤ 12 := by rw [hvv]; exact ⟨hv.1, hv.2⟩
  have f1 : IntKind.i64.wrap (1 + v) = 1 + v := i64i' (by omega) (by omega)
  have f2 : wrap64 (1 + v) = 1 + v := w64 (by omega) (by omega)
  rw [← ha, ← hc] at KO
  rw [← hvv] at KF
  rw [← ha, ← hc, ← hvv] at KI ⊢
  have HE := Lib.hid hE
  have HM := Lib.hid hM
  clear ha hc hvv hs hv hv1 hE hM
  have hfd := field_date
  have hid := index_date
  go_enter Tryz.func102, Tryz.ntmps102
  go_wp2_with (first
    | (go_at_call 134; refine Calls.mono (KO _ _ (by repeat (first | exact BoxC.newAt (by simp) | refine BoxC.drew ?_ | refine BoxC.alloc ?_ _))).out ?_; rintro e V1 ⟨rfl, hb1⟩; have B1 := Lib.hid (Bl.step (show Below w.heap.size w _ from by repeat (first | exact Below.refl _ _ | refine Bl.alloc ?_ _ | refine Bl.drew ?_)) hb1); have T1 := Lib.hid ((((BoxC.new w 88 #[.string s, .int .i64 (y : Int)]).alloc _).stayD hb1)); clear hb1)
    | (go_at_call 128; refine Calls.mono (KN _ (HE.out.below (Bl.alloc B1.out _))).out ?_; rintro e V2 ⟨rfl, hS, hb2⟩; have B2 := Lib.hid (Bl.step (Bl.alloc B1.out _) hb2); have T2 := Lib.hid ((T1.out.alloc _).stayD hb2); have D2 := Lib.hid ((BoxC.new V1 70 #[.int .i64 c, .int .i64 0, .int .i64 a]).stayD hb2); have hsz : (V1.alloc (.cells #[.int .i64 c, .int .i64 0, .int .i64 a] 70)).heap.size = V1.heap.size + 1 := (by simp); rw [hsz] at hS; have S2 := Lib.hid hS; clear hsz; clear hb2 hS)
    | (go_at_call 135; refine Calls.mono (KF _ _ (T2.out.cell (i := 0) rfl) S2.out (HM.out.below B2.out)).out ?_; rintro e V3 ⟨rfl, nq, rfl⟩; have d0 := D2.out.cell (i := 0) rfl; have d1 := D2.out.cell (i := 1) rfl; have d2 := D2.out.cell (i := 2) rfl; have z0 := D2.out.frozen 0; have z1 := D2.out.frozen 1; have s1 := D2.out.lt; have a0 := (D2.out.set 1 (.int .i64 (1 + v))).cell (i := 0) rfl; have a1 := (D2.out.set 1 (.int .i64 (1 + v))).cell (i := 1) rfl; have a2 := (D2.out.set 1 (.int .i64 (1 + v))).cell (i := 2) rfl)
    | (go_at_call 47; refine Calls.mono (KI _).out ?_; rintro e V4 ⟨n, bb, rfl, hr, hb4⟩))
  go_ret2
  exact ⟨n, bb, rfl, hr, Bl.step (by repeat (first | exact B2.out | refine below_drewN' ?_ _ | refine Bl.drew ?_ | refine Below.setCell ?_ (by have := B1.out.size; simp; omega) _)) hb4⟩
end Go.Proofs.YtmjifmlibgpjiaaGreatDoor
namespace Go.Proofs.YtmjifmlibgpjiaaGreatDoor
open Go.RowKit Go.Shelf Tx Go.Maps
set_option linter.unusedVariables false
set_option maxRecDepth 100000

set_option maxHeartbeats 4000000 in
theorem ReadDay_N_none (s : ByteArray) (n0 y0 m0 k0 : Nat) (w : World) (hd0 : IsDate n0 y0 m0 k0) (h90 : y0 ≤ 9999) (hs : s.size ≤ 1000000) (hE : Env w) (hM : HasMax w) (hR : calOf (num2 (bts s)) (1 + monV (bts s)) (num1 (bts s)) = none) : Calls Tryz.prog 30 #[.string s, .int .u8 78, .int .i64 (n0 : Int)] w (Gives w #[.int .i64 0, .int .i64 2]) := by
  have hn0 := isDate_max hd0 h90
  have KT := fun W => Lib.hid (isDay_any (n0 : Int) W)
  rw [inR_true (by omega) (by omega)] at KT
  have KD0 := fun W => Lib.hid (dateOf_any n0 y0 m0 k0 W hd0 h90)
  have KR := fun W => Lib.hid (dayR_any s y0 W)
  have KX := fun W (hW : Env W) (hV : HasMax W) => Lib.hid (show Calls Tryz.prog 102 #[.agg #[.string s, .int .i64 (y0 : Int)]] W (fun e w' => e = .returned (.tuple #[.int .i64 0, .bool false]) ∧ Below W.heap.size W w') from by have h := cal_to (d_normal_any s y0 W hs hW hV); rw [hR] at h; exact h)
  have HE := Lib.hid hE
  have HM := Lib.hid hM
  have hfd := field_date
  have hid := index_date
  clear hd0 h90 hs hR hn0 hE hM
  go_enter Tryz.func30, Tryz.ntmps30
  go_wp2_with (first
    | (go_at_call 51; refine Calls.mono (KT _).out ?_; rintro e W1 ⟨rfl, rfl⟩)
    | (go_at_call 52; (with_reducible refine Calls.mono (KD0 _).out ?_); clear KD0; rintro e w1 ⟨rfl, hb1⟩; have B1 := Lib.hid hb1; clear hb1)
    | (go_at_call 65; refine Calls.mono (KR _).out ?_; rintro e w2 ⟨b, q, Dd, rfl, hF, hb2⟩; have B2 := Lib.hid (Bl.step B1.out hb2); have hlk : (Instr.lookup 86 (.map (some b)) (.int .u8 78) true).run Tryz.prog w2 = .ok (.tuple #[.func (.func 102) #[.agg #[.string s, .int .i64 (y0 : Int)]] #[], .bool true]) w2 := (look_ok lawU8 Tryz.underlying86 (zeroG w2) hF.out.1 hF.out.2 78 Tryz.underlying5); clear hb2)
    | (go_at_call 102; refine Calls.mono (KX _ (HE.out.below B2.out) (HM.out.below B2.out)).out ?_; rintro e w3 ⟨rfl, hb3⟩; have B3 := Lib.hid (Bl.step B2.out hb3); clear hb3))
  go_ret2
  exact ⟨rfl, B3.out⟩
set_option maxHeartbeats 4000000 in
theorem ReadDay_N_ok (s : ByteArray) (n0 y0 m0 k0 : Nat) (w : World) (hd0 : IsDate n0 y0 m0 k0) (h90 : y0 ≤ 9999) (hs : s.size ≤ 1000000) (hE : Env w) (hM : HasMax w) (n y m k : Nat) (hd : IsDate n y m k) (h9 : y ≤ 9999) (hR : calOf (num2 (bts s)) (1 + monV (bts s)) (num1 (bts s)) = some n) (hf : bts s = normL y m k) : Calls Tryz.prog 30 #[.string s, .int .u8 78, .int .i64 (n0 : Int)] w (Gives w #[.int .i64 (n : Int), .int .i64 0]) := by
  have hn0 := isDate_max hd0 h90
  have KT := fun W => Lib.hid (isDay_any (n0 : Int) W)
  rw [inR_true (by omega) (by omega)] at KT
  have KD0 := fun W => Lib.hid (dateOf_any n0 y0 m0 k0 W hd0 h90)
  have KR := fun W => Lib.hid (dayR_any s y0 W)
  have KX := fun W (hW : Env W) (hV : HasMax W) => Lib.hid (show Calls Tryz.prog 102 #[.agg #[.string s, .int .i64 (y0 : Int)]] W (fun e w' => e = .returned (.tuple #[.int .i64 (n : Int), .bool true]) ∧ Below W.heap.size W w') from by have h := cal_to (d_normal_any s y0 W hs hW hV); rw [hR] at h; exact h)
  have hk31 : k ≤ 31 := by have := hd.kd; have := dim_pos y m; omega
  have KD := fun W => Lib.hid (dateOf_any n y m k W hd h9)
  have KF := fun W => Lib.hid (datF_any y m k W)
  have KG := fun W hW => Lib.hid (normal_any y m k W h9 hd.m1 hd.m12 hk31 hW)
  have HE := Lib.hid hE
  have HM := Lib.hid hM
  have HF := Lib.hid hf
  have hfd := field_date
  have hid := index_date
  unfold dtV at KF KG
  clear hd0 h90 hd h9 hf hs hE hM hn0 hR hk31
  go_enter Tryz.func30, Tryz.ntmps30
  go_wp2_with (first
    | (go_at_call 51; refine Calls.mono (KT _).out ?_; rintro e W1 ⟨rfl, rfl⟩)
    | (go_at_call 52; (with_reducible refine Calls.mono (KD0 _).out ?_); clear KD0; rintro e w1 ⟨rfl, hb1⟩; have B1 := Lib.hid hb1; clear hb1)
    | (go_at_call 65; refine Calls.mono (KR _).out ?_; rintro e w2 ⟨b, q, Dd, rfl, hF, hb2⟩; have B2 := Lib.hid (Bl.step B1.out hb2); have hlk : (Instr.lookup 86 (.map (some b)) (.int .u8 78) true).run Tryz.prog w2 = .ok (.tuple #[.func (.func 102) #[.agg #[.string s, .int .i64 (y0 : Int)]] #[], .bool true]) w2 := (look_ok lawU8 Tryz.underlying86 (zeroG w2) hF.out.1 hF.out.2 78 Tryz.underlying5); clear hb2)
    | (go_at_call 102; refine Calls.mono (KX _ (HE.out.below B2.out) (HM.out.below B2.out)).out ?_; rintro e w3 ⟨rfl, hb3⟩; have B3 := Lib.hid (Bl.step B2.out hb3); clear hb3)
    | (go_at_call 52; (with_reducible refine Calls.mono (KD _).out ?_); rintro e w4 ⟨rfl, hb4⟩; have B4 := Lib.hid (Bl.step B3.out hb4); clear hb4)
    | (go_at_call 60; refine Calls.mono (KF _).out ?_; rintro e w5 ⟨b5, q5, D5, rfl, hF5, hb5⟩; have B5 := Lib.hid (Bl.step B4.out hb5); have hlk5 : (Instr.lookup 81 (.map (some b5)) (.int .u8 78) false).run Tryz.prog w5 = .ok (.func (.func 93) #[.agg #[.int .i64 (y : Int), .int .i64 (m : Int), .int .i64 (k : Int)]] #[]) w5 := (look_no lawU8 Tryz.underlying81 (zeroF w5) hF5.out.1 hF5.out.2 78 Tryz.underlying5); clear hb5)
    | (go_at_call 93; refine Calls.mono (KG _ (HE.out.below B5.out)).out ?_; rintro e w6 ⟨t, rfl, ht, hb6⟩; have B6 := Lib.hid (Bl.step B5.out hb6); obtain rfl : t = s := bts_inj (ht.out.trans HF.out.symm); clear hb6))
  go_ret2
  exact ⟨rfl, B6.out⟩
set_option maxHeartbeats 4000000 in
theorem ReadDay_N_ne (s : ByteArray) (n0 y0 m0 k0 : Nat) (w : World) (hd0 : IsDate n0 y0 m0 k0) (h90 : y0 ≤ 9999) (hs : s.size ≤ 1000000) (hE : Env w) (hM : HasMax w) (n y m k : Nat) (hd : IsDate n y m k) (h9 : y ≤ 9999) (hR : calOf (num2 (bts s)) (1 + monV (bts s)) (num1 (bts s)) = some n) (hf : ¬ bts s = normL y m k) : Calls Tryz.prog 30 #[.string s, .int .u8 78, .int .i64 (n0 : Int)] w (Gives w #[.int .i64 0, .int .i64 2]) := by
  have hn0 := isDate_max hd0 h90
  have KT := fun W => Lib.hid (isDay_any (n0 : Int) W)
  rw [inR_true (by omega) (by omega)] at KT
  have KD0 := fun W => Lib.hid (dateOf_any n0 y0 m0 k0 W hd0 h90)
  have KR := fun W => Lib.hid (dayR_any s y0 W)
  have KX := fun W (hW : Env W) (hV : HasMax W) => Lib.hid (show Calls Tryz.prog 102 #[.agg #[.string s, .int .i64 (y0 : Int)]] W (fun e w' => e = .returned (.tuple #[.int .i64 (n : Int), .bool true]) ∧ Below W.heap.size W w') from by have h := cal_to (d_normal_any s y0 W hs hW hV); rw [hR] at h; exact h)
  have hk31 : k ≤ 31 := by have := hd.kd; have := dim_pos y m; omega
  have KD := fun W => Lib.hid (dateOf_any n y m k W hd h9)
  have KF := fun W => Lib.hid (datF_any y m k W)
  have KG := fun W hW => Lib.hid (normal_any y m k W h9 hd.m1 hd.m12 hk31 hW)
  have HE := Lib.hid hE
  have HM := Lib.hid hM
  have HF := Lib.hid hf
  have hfd := field_date
  have hid := index_date
  unfold dtV at KF KG
  clear hd0 h90 hd h9 hf hs hE hM hn0 hR hk31
  go_enter Tryz.func30, Tryz.ntmps30
  go_wp2_with (first
    | (go_at_call 51; refine Calls.mono (KT _).out ?_; rintro e W1 ⟨rfl, rfl⟩)
    | (go_at_call 52; (with_reducible refine Calls.mono (KD0 _).out ?_); clear KD0; rintro e w1 ⟨rfl, hb1⟩; have B1 := Lib.hid hb1; clear hb1)
    | (go_at_call 65; refine Calls.mono (KR _).out ?_; rintro e w2 ⟨b, q, Dd, rfl, hF, hb2⟩; have B2 := Lib.hid (Bl.step B1.out hb2); have hlk : (Instr.lookup 86 (.map (some b)) (.int .u8 78) true).run Tryz.prog w2 = .ok (.tuple #[.func (.func 102) #[.agg #[.string s, .int .i64 (y0 : Int)]] #[], .bool true]) w2 := (look_ok lawU8 Tryz.underlying86 (zeroG w2) hF.out.1 hF.out.2 78 Tryz.underlying5); clear hb2)
    | (go_at_call 102; refine Calls.mono (KX _ (HE.out.below B2.out) (HM.out.below B2.out)).out ?_; rintro e w3 ⟨rfl, hb3⟩; have B3 := Lib.hid (Bl.step B2.out hb3); clear hb3)
    | (go_at_call 52; (with_reducible refine Calls.mono (KD _).out ?_); rintro e w4 ⟨rfl, hb4⟩; have B4 := Lib.hid (Bl.step B3.out hb4); clear hb4)
    | (go_at_call 60; refine Calls.mono (KF _).out ?_; rintro e w5 ⟨b5, q5, D5, rfl, hF5, hb5⟩; have B5 := Lib.hid (Bl.step B4.out hb5); have hlk5 : (Instr.lookup 81 (.map (some b5)) (.int .u8 78) false).run Tryz.prog w5 = .ok (.func (.func 93) #[.agg #[.int .i64 (y : Int), .int .i64 (m : Int), .int .i64 (k : Int)]] #[]) w5 := (look_no lawU8 Tryz.underlying81 (zeroF w5) hF5.out.1 hF5.out.2 78 Tryz.underlying5); clear hb5)
    | (go_at_call 93; refine Calls.mono (KG _ (HE.out.below B5.out)).out ?_; rintro e w6 ⟨t, rfl, ht, hb6⟩; have B6 := Lib.hid (Bl.step B5.out hb6); have hne : ¬ t.toList = s.toList := (by rw [toList_bts, toList_bts, ht.out]; exact fun q => HF.out q.symm); have hne2 : (t.toList == s.toList) = false := (beq_eq_false_iff_ne.2 hne); clear hb6))
  go_ret2
  exact ⟨rfl, B6.out⟩
theorem rest_none (x : UInt8) (s : ByteArray) (y : Nat) (h : ¬ (x = 66 ∨ x = 68 ∨ x = 69 ∨ x = 73 ∨ x = 78 ∨ x = 79 ∨ x = 83 ∨ x = 85)) : (dayRL s y).lookup x = none := by
  simp only [not_or] at h
  obtain ⟨h1, h2, h3, h4, h5, h6, h7, h8⟩ := h
  unfold dayRL
  simp [List.lookup_cons, beq_eq_false_iff_ne.2 h1, beq_eq_false_iff_ne.2 h2, beq_eq_false_iff_ne.2 h3, beq_eq_false_iff_ne.2 h4, beq_eq_false_iff_ne.2 h5, beq_eq_false_iff_ne.2 h6, beq_eq_false_iff_ne.2 h7, beq_eq_false_iff_ne.2 h8]
set_option maxHeartbeats 4000000 in
theorem ReadDay_none (s : ByteArray) (n0 y0 m0 k0 : Nat) (x : UInt8) (w : World) (hd0 : IsDate n0 y0 m0 k0) (h90 : y0 ≤ 9999) (hx : (dayRL s y0).lookup x = none) : Calls Tryz.prog 30 #[.string s, .int .u8 (x.toNat : Int), .int .i64 (n0 : Int)] w (Gives w #[.int .i64 0, .int .i64 1]) := by
  have hn0 := isDate_max hd0 h90
  have KT := fun W => Lib.hid (isDay_any (n0 : Int) W)
  rw [inR_true (by omega) (by omega)] at KT
  have KD0 := fun W => Lib.hid (dateOf_any n0 y0 m0 k0 W hd0 h90)
  have KR := fun W => Lib.hid (dayR_any s y0 W)
  have HX := Lib.hid hx
  have hfd := field_date
  have hid := index_date
  clear hd0 h90 hx hn0
  go_enter Tryz.func30, Tryz.ntmps30
  go_wp2_with (first
    | (go_at_call 51; refine Calls.mono (KT _).out ?_; rintro e W1 ⟨rfl, rfl⟩)
    | (go_at_call 52; (with_reducible refine Calls.mono (KD0 _).out ?_); clear KD0; rintro e w1 ⟨rfl, hb1⟩; have B1 := Lib.hid hb1; clear hb1)
    | (go_at_call 65; refine Calls.mono (KR _).out ?_; rintro e w2 ⟨b, q, Dd, rfl, hF, hb2⟩; have B2 := Lib.hid (Bl.step B1.out hb2); have hlk := look_ok lawU8 Tryz.underlying86 (zeroG w2) hF.out.1 hF.out.2 x Tryz.underlying5; rw [HX.out] at hlk; clear hb2))
  go_ret2
  exact ⟨rfl, B2.out⟩
set_option maxHeartbeats 1000000 in
theorem ReadDay_bad (s : ByteArray) (n x : Int) (w : World) (h : ¬ (0 ≤ n ∧ n ≤ 3652058)) : Calls Tryz.prog 30 #[.string s, .int .u8 x, .int .i64 n] w (Gives w #[.int .i64 0, .int .i64 1]) := by
  have KT := fun W => Lib.hid (isDay_any n W)
  rw [inR_false h] at KT
  clear h
  go_enter Tryz.func30, Tryz.ntmps30
  go_wp2_with (go_at_call 51; refine Calls.mono (KT _).out ?_; rintro e W1 ⟨rfl, rfl⟩)
  go_ret2
  exact ⟨rfl, Below.refl _ _⟩
end Go.Proofs.YtmjifmlibgpjiaaGreatDoor
namespace Go.Proofs.YtmjifmlibgpjiaaGreatDoor
open Go.Lib Tx
namespace Tx
theorem isCal_of {n y m k : Nat} (hd : IsDate n y m k) (h9 : y ≤ 9999) : IsCal n (y : Int) (m : Int) (k : Int) := ⟨y, m, k, rfl, rfl, rfl, hd, h9⟩
theorem dayIn_of {n : Nat} {v : Int} (hn : n ≤ 3652058) (hv : v = (n : Int)) : dayIn v = some n := by
  unfold dayIn
  rw [if_pos ⟨by omega, by omega⟩, hv, Int.toNat_natCast]
theorem p4len {n : Nat} (h : n ≤ 9999) : (padd n 4).length ≤ 11 := by rw [padd_wlen (w := 3) (by omega)]; decide
theorem three_of (s1 s2 : List UInt8) (a b c wa : Nat) (h1 : NoDg s1) (h2 : NoDg s2) (q1 : ∀ x ∈ s1, isDg x = false) (q2 : ∀ x ∈ s2, isDg x = false) (n1 : s1 ≠ []) (n2 : s2 ≠ []) (ha : (padd a wa).length ≤ 11) (hb : b < 100) (hc : (padd c 2).length ≤ 11) :
    num1 (padd a wa ++ (s1 ++ (padd b 2 ++ (s2 ++ padd c 2)))) = (a : Int) ∧ num2 (padd a wa ++ (s1 ++ (padd b 2 ++ (s2 ++ padd c 2)))) = (b : Int) ∧ num3 (padd a wa ++ (s1 ++ (padd b 2 ++ (s2 ++ padd c 2)))) = (c : Int) := by
  have nd : ∀ (s r : List UInt8), NoDg s → s ≠ [] → NoDg (s ++ r) := by
    intro s r h hn
    rcases h with h | ⟨x, t, rfl, hx⟩
    · exact absurd h hn
    · exact .inr ⟨x, t ++ r, rfl, hx⟩
  have e1 := num_padd [] (s1 ++ (padd b 2 ++ (s2 ++ padd c 2))) a wa (fun c hc => by cases hc) (nd _ _ h1 n1) ha
  have e2 := num_padd s1 (s2 ++ padd c 2) b 2 q1 (nd _ _ h2 n2) (p2len hb)
  have e3 := num_padd s2 [] c 2 q2 (.inl rfl) hc
  rw [List.nil_append] at e1
  rw [List.append_nil] at e3
  unfold num1 num2 num3
  rw [e1.1, e1.2, e2.1, e2.2, e3.1]
  exact ⟨rfl, rfl, rfl⟩
theorem iso_nums (y m k : Nat) (hy : y ≤ 9999) (hm : m ≤ 12) (hk : k ≤ 31) : num1 (longL [45] y m k) = (y : Int) ∧ num2 (longL [45] y m k) = (m : Int) ∧ num3 (longL [45] y m k) = (k : Int) := by
  rw [longL_eq]
  exact three_of [45] [45] y m k 4 (.inr ⟨45, [], rfl, by decide⟩) (.inr ⟨45, [], rfl, by decide⟩) (by decide) (by decide) (by decide) (by decide) (p4len hy) (by omega) (p2len (by omega))
theorem shortL_eq (a b c : Nat) : shortL a b c = padd a 2 ++ ([47] ++ (padd b 2 ++ ([47] ++ padd c 2))) := by simp [shortL, Lib.join]
theorem short_nums (a b c : Nat) (ha : a < 100) (hb : b < 100) (hc : c < 100) : num1 (shortL a b c) = (a : Int) ∧ num2 (shortL a b c) = (b : Int) ∧ num3 (shortL a b c) = (c : Int) := by
  rw [shortL_eq]
  exact three_of [47] [47] a b c 2 (.inr ⟨47, [], rfl, by decide⟩) (.inr ⟨47, [], rfl, by decide⟩) (by decide) (by decide) (by decide) (by decide) (p2len ha) hb (p2len hc)
theorem base_num (n : Nat) (hn : n ≤ 99999999999) : num1 (decDigits n) = (n : Int) := by
  have h := num_padd [] [] n 1 (fun c hc => by cases hc) (.inl rfl) (by rw [padd_low]; exact dd11 hn)
  rw [List.nil_append, List.append_nil, padd_low] at h
  exact h.1
theorem std_num (y m k : Nat) (hy : y ≤ 9999) (hm : m < 100) (hk : k < 100) : num1 (longL [] y m k) = ((y * 10000 + m * 100 + k : Nat) : Int) := by
  have e : longL [] y m k = padd y 4 ++ ([dgt (m / 10), dgt m] ++ [dgt (k / 10), dgt k]) := by rw [longL_eq, padd_two (n := m) (by omega), padd_two (n := k) (by omega)]; rfl
  have d0 := decFrom_padd y 4
  have d1 := decFrom_snoc (m / 10) _ _ _ d0
  have d2 := decFrom_snoc m _ _ _ d1
  have d3 := decFrom_snoc (k / 10) _ _ _ d2
  have d4 := decFrom_snoc k _ _ _ d3
  have e2 : padd y 4 ++ [dgt (m / 10)] ++ [dgt m] ++ [dgt (k / 10)] ++ [dgt k] = longL [] y m k := by rw [e]; simp
  rw [e2] at d4
  have hv : (((y * 10 + m / 10 % 10) * 10 + m % 10) * 10 + k / 10 % 10) * 10 + k % 10 = y * 10000 + m * 100 + k := by omega
  rw [hv] at d4
  have hall : ∀ c ∈ longL [] y m k, isDg c = true := by
    rw [← e2]
    intro c hc
    simp only [List.mem_append, List.mem_singleton] at hc
    rcases hc with (((hc | rfl) | rfl) | rfl) | rfl
    · exact padd_all y 4 c hc
    all_goals exact dgt_isDg _
  have hlen : (longL [] y m k).length = 8 := by rw [e, List.length_append, padd_wlen (w := 3) (by omega)]; rfl
  have h := num_at [] (longL [] y m k) [] _ (fun c hc => by cases hc) hall (by intro q; rw [q] at hlen; cases hlen) (.inl rfl) (by omega) d4
  rw [List.nil_append, List.append_nil] at h
  exact h.1
theorem std_parts (v y m k : Nat) (hv : v = y * 10000 + m * 100 + k) (hm : m < 100) (hk : k < 100) : (v : Int).tdiv 10000 = (y : Int) ∧ ((v : Int).tdiv 100).tmod 100 = (m : Int) ∧ (v : Int).tmod 100 = (k : Int) := by
  rw [Int.tdiv_eq_ediv_of_nonneg (by omega), Int.tdiv_eq_ediv_of_nonneg (by omega), Int.tmod_eq_emod_of_nonneg (by omega), Int.tmod_eq_emod_of_nonneg (by omega)]
  omega
theorem fyR_of (y0 y : Nat) (h1 : y < y0 + 50) (h2 : y0 < y + 50) : fyR y0 ((y % 100 : Nat) : Int) = (y : Int) := by
  obtain ⟨g, hg⟩ : ∃ g, g = y0 / 100 * 100 := ⟨_, rfl⟩
  unfold fyR
  rw [← hg]
  have hg1 : g ≤ y0 := by omega
  have hg2 : y0 < g + 100 := by omega
  have hg3 : g % 100 = 0 := by omega
  have hc : y = g + y % 100 ∨ y = g + y % 100 + 100 ∨ y + 100 = g + y % 100 := by omega
  clear hg
  split
  · omega
  · split <;> omega
/- The name of a month in a format. -/
theorem occ_at {l S : List UInt8} {x : UInt8} {i : Nat} (h : occAt l (x :: S) i = true) : l[i]? = some x := by
  unfold occAt at h
  rw [List.isPrefixOf_iff_prefix] at h
  obtain ⟨t, ht⟩ := h
  have e := congrArg (fun z => z[0]?) ht
  simpa using e.symm
theorem occ_here (A B C : List UInt8) : occAt (A ++ (B ++ C)) B A.length = true := by
  unfold occAt
  rw [List.drop_left, List.isPrefixOf_iff_prefix]
  exact List.prefix_append _ _
theorem contains_of_occ {l S : List UInt8} {i : Nat} (hi : i ≤ l.length) (h : occAt l S i = true) : contains l S = true := by
  unfold contains
  rcases index_spec l S with ⟨_, q⟩ | ⟨j, q, _⟩
  · rw [q i hi] at h; cases h
  · rw [q]; exact decide_eq_true (by omega)
theorem occ_of_contains {l S : List UInt8} (h : contains l S = true) : ∃ i, occAt l S i = true := by
  unfold contains at h
  have h' := of_decide_eq_true h
  rcases index_spec l S with ⟨q, _⟩ | ⟨j, _, _, q, _⟩
  · omega
  · exact ⟨j, q⟩
theorem one_name (A C : List UInt8) (b0 b1 b2 x y z : UInt8) (hA : ∀ c ∈ A, c.toNat < 65) (hC : ∀ c ∈ C, c.toNat < 65) (h1 : 96 < b1.toNat) (h2 : 96 < b2.toNat) (hx : 64 < x.toNat) (hx9 : x.toNat < 91)
    (h : contains (A ++ ([b0, b1, b2] ++ C)) [x, y, z] = true) : [x, y, z] = [b0, b1, b2] := by
  obtain ⟨i, hi⟩ := occ_of_contains h
  have hxi := occ_at hi
  rcases Nat.lt_or_ge i A.length with q | q
  · rw [List.getElem?_append_left q] at hxi
    have := hA x (List.mem_of_getElem? hxi)
    omega
  · rw [List.getElem?_append_right q] at hxi
    obtain ⟨j, hj⟩ : ∃ j, j = i - A.length := ⟨_, rfl⟩
    rw [← hj] at hxi
    match j, hxi, hj with
    | 0, _, hj =>
      have ei : i = A.length := by omega
      unfold occAt at hi
      rw [ei, List.drop_left, List.isPrefixOf_iff_prefix] at hi
      obtain ⟨t, ht⟩ := hi
      have := congrArg (List.take 3) ht
      simpa using this
    | 1, hxi, _ => have e : b1 = x := by simpa using hxi
                   subst e; omega
    | 2, hxi, _ => have e : b2 = x := by simpa using hxi
                   subst e; omega
    | j + 3, hxi, _ =>
      have e : C[j]? = some x := by simpa using hxi
      have := hC x (List.mem_of_getElem? e)
      omega
theorem monA_at : ∀ q, q < 12 → ∃ b0 b1 b2 : UInt8, monA q = [b0, b1, b2] ∧ 64 < b0.toNat ∧ b0.toNat < 91 ∧ 96 < b1.toNat ∧ 96 < b2.toNat := by
  intro q h
  match q, h with
  | 0, _ | 1, _ | 2, _ | 3, _ | 4, _ | 5, _ | 6, _ | 7, _ | 8, _ | 9, _ | 10, _ | 11, _ => exact ⟨_, _, _, rfl, by decide, by decide, by decide, by decide⟩
theorem monA_inj : ∀ j, j < 12 → ∀ q, q < 12 → monA j = monA q → j = q := by decide
theorem monFrom_at (l : List UInt8) (q : Nat) (hq : contains l (monA q) = true) : ∀ k m, m ≤ q → q < m + k → (∀ j, m ≤ j → j < q → contains l (monA j) = false) → monFrom l k m = (q : Int)
  | 0, m, h1, h2, _ => by omega
  | k + 1, m, h1, h2, h3 => by
    unfold monFrom
    by_cases e : m = q
    · subst e
      rw [if_pos hq]
    · rw [if_neg (by rw [h3 m (Nat.le_refl _) (by omega)]; decide)]
      exact monFrom_at l q hq k (m + 1) (by omega) (by omega) (fun j a b => h3 j (by omega) b)
theorem dgt_lt65 (n : Nat) : (dgt n).toNat < 65 := by rw [dgt_nat]; omega
theorem dd_lt65 (n : Nat) : ∀ c ∈ decDigits n, c.toNat < 65 := by
  induction n using Nat.strongRecOn with
  | ind n ih =>
    intro c hc
    by_cases h : n < 10
    · rw [dd_small h, List.mem_singleton] at hc
      rw [hc]; exact dgt_lt65 n
    · rw [dd_big h, List.mem_append, List.mem_singleton] at hc
      rcases hc with hc | hc
      · exact ih _ (by omega) c hc
      · rw [hc]; exact dgt_lt65 n
theorem padd_lt65 (n w : Nat) : ∀ c ∈ padd n w, c.toNat < 65 := by
  intro c hc
  unfold padd at hc
  rw [List.mem_append] at hc
  rcases hc with hc | hc
  · rw [List.eq_of_mem_replicate hc]; decide
  · exact dd_lt65 n c hc
theorem normL_eq (y m k : Nat) (h1 : 1 ≤ m) : normL y m k = (decDigits k ++ [32]) ++ (monA (m - 1) ++ ([32] ++ padd y 4)) := by
  unfold normL monA monN
  simp
theorem norm_mon (y m k : Nat) (h1 : 1 ≤ m) (h12 : m ≤ 12) : 1 + monV (normL y m k) = (m : Int) := by
  obtain ⟨b0, b1, b2, e, b3, b4, b5, b6⟩ := monA_at (m - 1) (by omega)
  have hA : ∀ c ∈ decDigits k ++ [32], c.toNat < 65 := by
    intro c hc
    rw [List.mem_append, List.mem_singleton] at hc
    rcases hc with hc | hc
    · exact dd_lt65 k c hc
    · rw [hc]; decide
  have hC : ∀ c ∈ [32] ++ padd y 4, c.toNat < 65 := by
    intro c hc
    rw [List.mem_append, List.mem_singleton] at hc
    rcases hc with hc | hc
    · rw [hc]; decide
    · exact padd_lt65 y 4 c hc
  have hq : contains (normL y m k) (monA (m - 1)) = true := by
    rw [normL_eq y m k h1]
    exact contains_of_occ (by simp) (occ_here _ _ _)
  have hn : ∀ j, 0 ≤ j → j < m - 1 → contains (normL y m k) (monA j) = false := by
    intro j _ hj
    cases hc : contains (normL y m k) (monA j) with
    | false => rfl
    | true =>
      obtain ⟨x, y', z, ej, x1, x2, _, _⟩ := monA_at j (by omega)
      rw [normL_eq y m k h1, e, ej] at hc
      have := one_name _ _ b0 b1 b2 x y' z hA hC b5 b6 x1 x2 hc
      rw [← e, ← ej] at this
      have := monA_inj j (by omega) (m - 1) (by omega) this
      omega
  have := monFrom_at (normL y m k) (m - 1) hq 12 0 (by omega) (by omega) hn
  unfold monV
  rw [this]
  omega
theorem norm_nums (y m k : Nat) (hy : y ≤ 9999) (h1 : 1 ≤ m) (h12 : m ≤ 12) (hk : k ≤ 31) : num1 (normL y m k) = (k : Int) ∧ num2 (normL y m k) = (y : Int) := by
  obtain ⟨b0, b1, b2, e, b3, b4, b5, b6⟩ := monA_at (m - 1) (by omega)
  have hi : ∀ b : UInt8, 64 < b.toNat → isDg b = false := by
    intro b hb
    cases h : isDg b with
    | false => rfl
    | true =>
      exfalso
      unfold isDg digs at h
      simp only [List.contains_eq_mem, List.mem_cons, List.not_mem_nil, or_false, decide_eq_true_eq] at h
      rcases h with rfl | rfl | rfl | rfl | rfl | rfl | rfl | rfl | rfl | rfl <;> revert hb <;> decide
  have e1 := num_padd [] ([32] ++ (monA (m - 1) ++ ([32] ++ padd y 4))) k 1 (fun c hc => by cases hc) (.inr ⟨32, _, rfl, by decide⟩) (by rw [padd_low]; exact dd11 (by omega))
  have e2 := num_padd ([32] ++ (monA (m - 1) ++ [32])) [] y 4 (by
    rw [e]
    intro c hc
    simp only [List.mem_append, List.mem_cons, List.not_mem_nil, or_false] at hc
    rcases hc with rfl | (rfl | rfl | rfl) | rfl
    · decide
    · exact hi _ b3
    · exact hi _ (by omega)
    · exact hi _ (by omega)
    · decide) (.inl rfl) (p4len hy)
  rw [List.nil_append, padd_low] at e1
  rw [List.append_nil] at e2
  have en : normL y m k = decDigits k ++ ([32] ++ (monA (m - 1) ++ ([32] ++ padd y 4))) := by rw [normL_eq y m k h1, List.append_assoc]
  have en2 : [32] ++ (monA (m - 1) ++ ([32] ++ padd y 4)) = ([32] ++ (monA (m - 1) ++ [32])) ++ padd y 4 := by simp
  unfold num1 num2
  rw [en, e1.1, e1.2, en2, e2.1]
  exact ⟨rfl, rfl⟩
theorem days_eq {n y m k : Nat} (hd : IsDate n y m k) : bef (y - 1) ≤ n := by rw [hd.eq]; omega
end Tx
end Go.Proofs.YtmjifmlibgpjiaaGreatDoor
namespace Go.Proofs.YtmjifmlibgpjiaaGreatDoor
open Go.RowKit Go.Shelf Tx Go.Maps
set_option linter.unusedVariables false
set_option maxRecDepth 100000

theorem dd_short (n : Nat) (h : n ≤ 99999999999) : (Lib.decDigits n).length ≤ 1000000 := by have := dd11 h; omega
theorem short_len (a b c : Nat) (ha : a < 100) (hb : b < 100) (hc : c < 100) : (shortL a b c).length ≤ 1000000 := by
  rw [shortL_eq]
  simp only [List.length_append, padd_wlen' ha, padd_wlen' hb, padd_wlen' hc, List.length_cons, List.length_nil]
  omega
theorem longL_len (sep : List UInt8) (y m k : Nat) (hs : sep.length ≤ 10) (hy : y ≤ 9999) (hm : m < 100) (hk : k < 100) : (longL sep y m k).length ≤ 1000000 := by
  rw [longL_eq]
  have := p4len hy
  simp only [List.length_append, padd_wlen' hm, padd_wlen' hk]
  omega
theorem normL_len (y m k : Nat) (hy : y ≤ 9999) (h1 : 1 ≤ m) (h12 : m ≤ 12) (hk : k ≤ 31) : (normL y m k).length ≤ 1000000 := by
  obtain ⟨b0, b1, b2, e, _⟩ := monA_at (m - 1) (by omega)
  rw [normL_eq y m k h1, e]
  have := p4len hy
  have := dd11 (n := k) (by omega)
  simp only [List.length_append, List.length_cons, List.length_nil]
  omega
theorem day31 {n y m k : Nat} (hd : IsDate n y m k) : k ≤ 31 := by have := hd.kd; have := dim_pos y m; omega
theorem dayIn_le {v : Int} {n : Nat} (h : dayIn v = some n) : n ≤ 3652058 := by
  unfold dayIn at h
  split at h
  · cases h; omega
  · cases h
theorem calOf_le {y m k : Int} {n : Nat} (h : calOf y m k = some n) : n ≤ 3652058 := by
  obtain ⟨_, _, _, _, _, _, hd, h9⟩ := calOf_is h
  exact isDate_max hd h9
theorem find_B (y0 n y m k : Nat) (hd : IsDate n y m k) (h9 : y ≤ 9999) : dayIn (num1 (Lib.decDigits n)) = some n := dayIn_of (isDate_max hd h9) (base_num n (by have := isDate_max hd h9; omega))
theorem back_B (n0 y0 m0 k0 n y m k : Nat) (hd0 : IsDate n0 y0 m0 k0) (h90 : y0 ≤ 9999) (hd : IsDate n y m k) (h9 : y ≤ 9999) (t : ByteArray) (ht : bts t = Lib.decDigits n) (W : World) (hE : Env W) (hM : HasMax W) : Calls Tryz.prog 30 #[.string t, .int .u8 66, .int .i64 (n0 : Int)] W (Gives W #[.int .i64 (n : Int), .int .i64 0]) := by
  have hR := find_B y0 n y m k hd h9 
  rw [← ht] at hR
  exact ReadDay_B_ok t n0 y0 m0 k0 W hd0 h90 (by rw [← bts_length, ht]; exact dd_short n (by have := isDate_max hd h9; omega)) n y m k hd h9 hR ht hE
theorem find_I (y0 n y m k : Nat) (hd : IsDate n y m k) (h9 : y ≤ 9999) : calOf (num1 (longL [45] y m k)) (num2 (longL [45] y m k)) (num3 (longL [45] y m k)) = some n := by obtain ⟨e1, e2, e3⟩ := iso_nums y m k h9 hd.m12 (day31 hd); rw [e1, e2, e3]; exact calOf_some (isCal_of hd h9)
theorem back_I (n0 y0 m0 k0 n y m k : Nat) (hd0 : IsDate n0 y0 m0 k0) (h90 : y0 ≤ 9999) (hd : IsDate n y m k) (h9 : y ≤ 9999) (t : ByteArray) (ht : bts t = longL [45] y m k) (W : World) (hE : Env W) (hM : HasMax W) : Calls Tryz.prog 30 #[.string t, .int .u8 73, .int .i64 (n0 : Int)] W (Gives W #[.int .i64 (n : Int), .int .i64 0]) := by
  have hR := find_I y0 n y m k hd h9 
  rw [← ht] at hR
  exact ReadDay_I_ok t n0 y0 m0 k0 W hd0 h90 (by rw [← bts_length, ht]; exact longL_len [45] y m k (by decide) h9 (by have := hd.m12; omega) (by have := day31 hd; omega)) n y m k hd h9 hR ht hE
theorem find_N (y0 n y m k : Nat) (hd : IsDate n y m k) (h9 : y ≤ 9999) : calOf (num2 (normL y m k)) (1 + monV (normL y m k)) (num1 (normL y m k)) = some n := by obtain ⟨e1, e2⟩ := norm_nums y m k h9 hd.m1 hd.m12 (day31 hd); rw [e1, e2, norm_mon y m k hd.m1 hd.m12]; exact calOf_some (isCal_of hd h9)
theorem back_N (n0 y0 m0 k0 n y m k : Nat) (hd0 : IsDate n0 y0 m0 k0) (h90 : y0 ≤ 9999) (hd : IsDate n y m k) (h9 : y ≤ 9999) (t : ByteArray) (ht : bts t = normL y m k) (W : World) (hE : Env W) (hM : HasMax W) : Calls Tryz.prog 30 #[.string t, .int .u8 78, .int .i64 (n0 : Int)] W (Gives W #[.int .i64 (n : Int), .int .i64 0]) := by
  have hR := find_N y0 n y m k hd h9 
  rw [← ht] at hR
  exact ReadDay_N_ok t n0 y0 m0 k0 W hd0 h90 (by rw [← bts_length, ht]; exact normL_len y m k h9 hd.m1 hd.m12 (day31 hd)) hE hM n y m k hd h9 hR ht
theorem find_S (y0 n y m k : Nat) (hd : IsDate n y m k) (h9 : y ≤ 9999) : calOf ((num1 (longL [] y m k)).tdiv 10000) (((num1 (longL [] y m k)).tdiv 100).tmod 100) ((num1 (longL [] y m k)).tmod 100) = some n := by have h12 := hd.m12; have h31 := day31 hd; obtain ⟨e1, e2, e3⟩ := std_parts _ y m k rfl (by omega) (by omega); rw [std_num y m k h9 (by omega) (by omega), e1, e2, e3]; exact calOf_some (isCal_of hd h9)
theorem back_S (n0 y0 m0 k0 n y m k : Nat) (hd0 : IsDate n0 y0 m0 k0) (h90 : y0 ≤ 9999) (hd : IsDate n y m k) (h9 : y ≤ 9999) (t : ByteArray) (ht : bts t = longL [] y m k) (W : World) (hE : Env W) (hM : HasMax W) : Calls Tryz.prog 30 #[.string t, .int .u8 83, .int .i64 (n0 : Int)] W (Gives W #[.int .i64 (n : Int), .int .i64 0]) := by
  have hR := find_S y0 n y m k hd h9 
  rw [← ht] at hR
  exact ReadDay_S_ok t n0 y0 m0 k0 W hd0 h90 (by rw [← bts_length, ht]; exact longL_len [] y m k (by decide) h9 (by have := hd.m12; omega) (by have := day31 hd; omega)) n y m k hd h9 hR ht hE
theorem find_E (y0 n y m k : Nat) (hd : IsDate n y m k) (h9 : y ≤ 9999) (q1 : y < y0 + 50) (q2 : y0 < y + 50) : calOf (fyR y0 (num3 (shortL (k % 100) (m % 100) (y % 100)))) (num2 (shortL (k % 100) (m % 100) (y % 100))) (num1 (shortL (k % 100) (m % 100) (y % 100))) = some n := by have h12 := hd.m12; have h31 := day31 hd; obtain ⟨e1, e2, e3⟩ := short_nums (k % 100) (m % 100) (y % 100) (Nat.mod_lt _ (by decide)) (Nat.mod_lt _ (by decide)) (Nat.mod_lt _ (by decide)); rw [e1, e2, e3, fyR_of y0 y q1 q2, Nat.mod_eq_of_lt (show m < 100 by omega), Nat.mod_eq_of_lt (show k < 100 by omega)]; exact calOf_some (isCal_of hd h9)
theorem back_E (n0 y0 m0 k0 n y m k : Nat) (hd0 : IsDate n0 y0 m0 k0) (h90 : y0 ≤ 9999) (hd : IsDate n y m k) (h9 : y ≤ 9999) (q1 : y < y0 + 50) (q2 : y0 < y + 50) (t : ByteArray) (ht : bts t = shortL (k % 100) (m % 100) (y % 100)) (W : World) (hE : Env W) (hM : HasMax W) : Calls Tryz.prog 30 #[.string t, .int .u8 69, .int .i64 (n0 : Int)] W (Gives W #[.int .i64 (n : Int), .int .i64 0]) := by
  have hR := find_E y0 n y m k hd h9 q1 q2
  rw [← ht] at hR
  exact ReadDay_E_ok t n0 y0 m0 k0 W hd0 h90 (by rw [← bts_length, ht]; exact short_len _ _ _ (Nat.mod_lt _ (by decide)) (Nat.mod_lt _ (by decide)) (Nat.mod_lt _ (by decide))) n y m k hd h9 hR ht hE
theorem find_O (y0 n y m k : Nat) (hd : IsDate n y m k) (h9 : y ≤ 9999) (q1 : y < y0 + 50) (q2 : y0 < y + 50) : calOf (fyR y0 (num1 (shortL (y % 100) (m % 100) (k % 100)))) (num2 (shortL (y % 100) (m % 100) (k % 100))) (num3 (shortL (y % 100) (m % 100) (k % 100))) = some n := by have h12 := hd.m12; have h31 := day31 hd; obtain ⟨e1, e2, e3⟩ := short_nums (y % 100) (m % 100) (k % 100) (Nat.mod_lt _ (by decide)) (Nat.mod_lt _ (by decide)) (Nat.mod_lt _ (by decide)); rw [e1, e2, e3, fyR_of y0 y q1 q2, Nat.mod_eq_of_lt (show m < 100 by omega), Nat.mod_eq_of_lt (show k < 100 by omega)]; exact calOf_some (isCal_of hd h9)
theorem back_O (n0 y0 m0 k0 n y m k : Nat) (hd0 : IsDate n0 y0 m0 k0) (h90 : y0 ≤ 9999) (hd : IsDate n y m k) (h9 : y ≤ 9999) (q1 : y < y0 + 50) (q2 : y0 < y + 50) (t : ByteArray) (ht : bts t = shortL (y % 100) (m % 100) (k % 100)) (W : World) (hE : Env W) (hM : HasMax W) : Calls Tryz.prog 30 #[.string t, .int .u8 79, .int .i64 (n0 : Int)] W (Gives W #[.int .i64 (n : Int), .int .i64 0]) := by
  have hR := find_O y0 n y m k hd h9 q1 q2
  rw [← ht] at hR
  exact ReadDay_O_ok t n0 y0 m0 k0 W hd0 h90 (by rw [← bts_length, ht]; exact short_len _ _ _ (Nat.mod_lt _ (by decide)) (Nat.mod_lt _ (by decide)) (Nat.mod_lt _ (by decide))) n y m k hd h9 hR ht hE
theorem find_U (y0 n y m k : Nat) (hd : IsDate n y m k) (h9 : y ≤ 9999) (q1 : y < y0 + 50) (q2 : y0 < y + 50) : calOf (fyR y0 (num3 (shortL (m % 100) (k % 100) (y % 100)))) (num1 (shortL (m % 100) (k % 100) (y % 100))) (num2 (shortL (m % 100) (k % 100) (y % 100))) = some n := by have h12 := hd.m12; have h31 := day31 hd; obtain ⟨e1, e2, e3⟩ := short_nums (m % 100) (k % 100) (y % 100) (Nat.mod_lt _ (by decide)) (Nat.mod_lt _ (by decide)) (Nat.mod_lt _ (by decide)); rw [e1, e2, e3, fyR_of y0 y q1 q2, Nat.mod_eq_of_lt (show m < 100 by omega), Nat.mod_eq_of_lt (show k < 100 by omega)]; exact calOf_some (isCal_of hd h9)
theorem back_U (n0 y0 m0 k0 n y m k : Nat) (hd0 : IsDate n0 y0 m0 k0) (h90 : y0 ≤ 9999) (hd : IsDate n y m k) (h9 : y ≤ 9999) (q1 : y < y0 + 50) (q2 : y0 < y + 50) (t : ByteArray) (ht : bts t = shortL (m % 100) (k % 100) (y % 100)) (W : World) (hE : Env W) (hM : HasMax W) : Calls Tryz.prog 30 #[.string t, .int .u8 85, .int .i64 (n0 : Int)] W (Gives W #[.int .i64 (n : Int), .int .i64 0]) := by
  have hR := find_U y0 n y m k hd h9 q1 q2
  rw [← ht] at hR
  exact ReadDay_U_ok t n0 y0 m0 k0 W hd0 h90 (by rw [← bts_length, ht]; exact short_len _ _ _ (Nat.mod_lt _ (by decide)) (Nat.mod_lt _ (by decide)) (Nat.mod_lt _ (by decide))) n y m k hd h9 hR ht hE
theorem find_D (y0 n y m k : Nat) (hd : IsDate n y m k) (h9 : y ≤ 9999) (e : y0 = y) : dayIn ((bef (y0 - 1) : Int) - 1 + num1 (Lib.decDigits (n - bef (y - 1) + 1))) = some n := by subst e; have hn := isDate_max hd h9; have hb := days_eq hd; exact dayIn_of hn (by rw [base_num _ (by omega)]; omega)
theorem back_D (n0 y0 m0 k0 n y m k : Nat) (hd0 : IsDate n0 y0 m0 k0) (h90 : y0 ≤ 9999) (hd : IsDate n y m k) (h9 : y ≤ 9999) (e : y0 = y) (t : ByteArray) (ht : bts t = Lib.decDigits (n - bef (y - 1) + 1)) (W : World) (hE : Env W) (hM : HasMax W) : Calls Tryz.prog 30 #[.string t, .int .u8 68, .int .i64 (n0 : Int)] W (Gives W #[.int .i64 (n : Int), .int .i64 0]) := by
  have hR := find_D y0 n y m k hd h9 e
  rw [← ht] at hR
  exact ReadDay_D_ok t n0 y0 m0 k0 W hd0 h90 (by rw [← bts_length, ht]; exact dd_short _ (by have := isDate_max hd h9; omega)) n y m k hd h9 hR ht hE
/-- What ReadDay gives of a text: an error, or the day whose format it is. -/
def ReadOk (X n0 : Int) (s : ByteArray) : Prop := (∃ v g : Int, (∀ W, Env W → HasMax W → Calls Tryz.prog 30 #[.string s, .int .u8 X, .int .i64 n0] W (Gives W #[.int .i64 v, .int .i64 g])) ∧ (g == 0) = false ∧ ¬ g = 0) ∨
  (∃ v : Int, (∀ W, Env W → HasMax W → Calls Tryz.prog 30 #[.string s, .int .u8 X, .int .i64 n0] W (Gives W #[.int .i64 v, .int .i64 0])) ∧ (∀ W, Env W → Calls Tryz.prog 28 #[.int .i64 v, .int .u8 X] W (GivesSE W (bts s))))
theorem readOk_of (X n0 : Int) (s : ByteArray) (R : Option Nat) (f : Nat → Nat → Nat → Nat → List UInt8) (hR9 : ∀ n, R = some n → n ≤ 3652058)
    (K0 : R = none → ∀ W, Env W → HasMax W → Calls Tryz.prog 30 #[.string s, .int .u8 X, .int .i64 n0] W (Gives W #[.int .i64 0, .int .i64 2]))
    (K1 : ∀ n y m k, IsDate n y m k → y ≤ 9999 → R = some n → bts s = f n y m k → ∀ W, Env W → HasMax W → Calls Tryz.prog 30 #[.string s, .int .u8 X, .int .i64 n0] W (Gives W #[.int .i64 (n : Int), .int .i64 0]))
    (K2 : ∀ n y m k, IsDate n y m k → y ≤ 9999 → R = some n → ¬ bts s = f n y m k → ∀ W, Env W → HasMax W → Calls Tryz.prog 30 #[.string s, .int .u8 X, .int .i64 n0] W (Gives W #[.int .i64 0, .int .i64 2]))
    (KD : ∀ n y m k, IsDate n y m k → y ≤ 9999 → ∀ W, Env W → Calls Tryz.prog 28 #[.int .i64 (n : Int), .int .u8 X] W (GivesSE W (f n y m k))) : ReadOk X n0 s := by
  cases hR : R with
  | none => exact .inl ⟨0, 2, fun W h1 h2 => K0 hR W h1 h2, by decide, by decide⟩
  | some n =>
    obtain ⟨y, m, k, hd⟩ := isDate_ex n
    have h9 : y ≤ 9999 := hd.isYear.le (hR9 n hR)
    by_cases hf : bts s = f n y m k
    · exact .inr ⟨(n : Int), fun W h1 h2 => K1 n y m k hd h9 hR hf W h1 h2, fun W h1 => by rw [hf]; exact KD n y m k hd h9 W h1⟩
    · exact .inl ⟨0, 2, fun W h1 h2 => K2 n y m k hd h9 hR hf W h1 h2, by decide, by decide⟩
theorem readOk_B (n0 y0 m0 k0 : Nat) (s : ByteArray) (hd0 : IsDate n0 y0 m0 k0) (h90 : y0 ≤ 9999) (hs : s.size ≤ 1000000) : ReadOk 66 (n0 : Int) s :=
  readOk_of 66 (n0 : Int) s (dayIn (num1 (bts s))) (fun n y m k => Lib.decDigits n) (fun _ h => dayIn_le h) (fun h W hE hM => ReadDay_B_none s n0 y0 m0 k0 W hd0 h90 hs h) (fun n y m k hd h9 h hf W hE hM => ReadDay_B_ok s n0 y0 m0 k0 W hd0 h90 hs n y m k hd h9 h hf hE) (fun n y m k hd h9 h hf W hE hM => ReadDay_B_ne s n0 y0 m0 k0 W hd0 h90 hs n y m k hd h9 h hf hE) (fun n y m k hd h9 W hE => Date_B n y m k W hd h9 hE)
theorem readOk_D (n0 y0 m0 k0 : Nat) (s : ByteArray) (hd0 : IsDate n0 y0 m0 k0) (h90 : y0 ≤ 9999) (hs : s.size ≤ 1000000) : ReadOk 68 (n0 : Int) s :=
  readOk_of 68 (n0 : Int) s (dayIn ((bef (y0 - 1) : Int) - 1 + num1 (bts s))) (fun n y m k => Lib.decDigits (n - bef (y - 1) + 1)) (fun _ h => dayIn_le h) (fun h W hE hM => ReadDay_D_none s n0 y0 m0 k0 W hd0 h90 hs h) (fun n y m k hd h9 h hf W hE hM => ReadDay_D_ok s n0 y0 m0 k0 W hd0 h90 hs n y m k hd h9 h hf hE) (fun n y m k hd h9 h hf W hE hM => ReadDay_D_ne s n0 y0 m0 k0 W hd0 h90 hs n y m k hd h9 h hf hE) (fun n y m k hd h9 W hE => Date_D n y m k W hd h9 hE)
theorem readOk_E (n0 y0 m0 k0 : Nat) (s : ByteArray) (hd0 : IsDate n0 y0 m0 k0) (h90 : y0 ≤ 9999) (hs : s.size ≤ 1000000) : ReadOk 69 (n0 : Int) s :=
  readOk_of 69 (n0 : Int) s (calOf (fyR y0 (num3 (bts s))) (num2 (bts s)) (num1 (bts s))) (fun n y m k => shortL (k % 100) (m % 100) (y % 100)) (fun _ h => calOf_le h) (fun h W hE hM => ReadDay_E_none s n0 y0 m0 k0 W hd0 h90 hs h) (fun n y m k hd h9 h hf W hE hM => ReadDay_E_ok s n0 y0 m0 k0 W hd0 h90 hs n y m k hd h9 h hf hE) (fun n y m k hd h9 h hf W hE hM => ReadDay_E_ne s n0 y0 m0 k0 W hd0 h90 hs n y m k hd h9 h hf hE) (fun n y m k hd h9 W hE => Date_E n y m k W hd h9 hE)
theorem readOk_I (n0 y0 m0 k0 : Nat) (s : ByteArray) (hd0 : IsDate n0 y0 m0 k0) (h90 : y0 ≤ 9999) (hs : s.size ≤ 1000000) : ReadOk 73 (n0 : Int) s :=
  readOk_of 73 (n0 : Int) s (calOf (num1 (bts s)) (num2 (bts s)) (num3 (bts s))) (fun n y m k => longL [45] y m k) (fun _ h => calOf_le h) (fun h W hE hM => ReadDay_I_none s n0 y0 m0 k0 W hd0 h90 hs h) (fun n y m k hd h9 h hf W hE hM => ReadDay_I_ok s n0 y0 m0 k0 W hd0 h90 hs n y m k hd h9 h hf hE) (fun n y m k hd h9 h hf W hE hM => ReadDay_I_ne s n0 y0 m0 k0 W hd0 h90 hs n y m k hd h9 h hf hE) (fun n y m k hd h9 W hE => Date_I n y m k W hd h9 hE)
theorem readOk_N (n0 y0 m0 k0 : Nat) (s : ByteArray) (hd0 : IsDate n0 y0 m0 k0) (h90 : y0 ≤ 9999) (hs : s.size ≤ 1000000) : ReadOk 78 (n0 : Int) s :=
  readOk_of 78 (n0 : Int) s (calOf (num2 (bts s)) (1 + monV (bts s)) (num1 (bts s))) (fun n y m k => normL y m k) (fun _ h => calOf_le h) (fun h W hE hM => ReadDay_N_none s n0 y0 m0 k0 W hd0 h90 hs hE hM h) (fun n y m k hd h9 h hf W hE hM => ReadDay_N_ok s n0 y0 m0 k0 W hd0 h90 hs hE hM n y m k hd h9 h hf) (fun n y m k hd h9 h hf W hE hM => ReadDay_N_ne s n0 y0 m0 k0 W hd0 h90 hs hE hM n y m k hd h9 h hf) (fun n y m k hd h9 W hE => Date_N n y m k W hd h9 hE)
theorem readOk_O (n0 y0 m0 k0 : Nat) (s : ByteArray) (hd0 : IsDate n0 y0 m0 k0) (h90 : y0 ≤ 9999) (hs : s.size ≤ 1000000) : ReadOk 79 (n0 : Int) s :=
  readOk_of 79 (n0 : Int) s (calOf (fyR y0 (num1 (bts s))) (num2 (bts s)) (num3 (bts s))) (fun n y m k => shortL (y % 100) (m % 100) (k % 100)) (fun _ h => calOf_le h) (fun h W hE hM => ReadDay_O_none s n0 y0 m0 k0 W hd0 h90 hs h) (fun n y m k hd h9 h hf W hE hM => ReadDay_O_ok s n0 y0 m0 k0 W hd0 h90 hs n y m k hd h9 h hf hE) (fun n y m k hd h9 h hf W hE hM => ReadDay_O_ne s n0 y0 m0 k0 W hd0 h90 hs n y m k hd h9 h hf hE) (fun n y m k hd h9 W hE => Date_O n y m k W hd h9 hE)
theorem readOk_S (n0 y0 m0 k0 : Nat) (s : ByteArray) (hd0 : IsDate n0 y0 m0 k0) (h90 : y0 ≤ 9999) (hs : s.size ≤ 1000000) : ReadOk 83 (n0 : Int) s :=
  readOk_of 83 (n0 : Int) s (calOf ((num1 (bts s)).tdiv 10000) (((num1 (bts s)).tdiv 100).tmod 100) ((num1 (bts s)).tmod 100)) (fun n y m k => longL [] y m k) (fun _ h => calOf_le h) (fun h W hE hM => ReadDay_S_none s n0 y0 m0 k0 W hd0 h90 hs h) (fun n y m k hd h9 h hf W hE hM => ReadDay_S_ok s n0 y0 m0 k0 W hd0 h90 hs n y m k hd h9 h hf hE) (fun n y m k hd h9 h hf W hE hM => ReadDay_S_ne s n0 y0 m0 k0 W hd0 h90 hs n y m k hd h9 h hf hE) (fun n y m k hd h9 W hE => Date_S n y m k W hd h9 hE)
theorem readOk_U (n0 y0 m0 k0 : Nat) (s : ByteArray) (hd0 : IsDate n0 y0 m0 k0) (h90 : y0 ≤ 9999) (hs : s.size ≤ 1000000) : ReadOk 85 (n0 : Int) s :=
  readOk_of 85 (n0 : Int) s (calOf (fyR y0 (num3 (bts s))) (num1 (bts s)) (num2 (bts s))) (fun n y m k => shortL (m % 100) (k % 100) (y % 100)) (fun _ h => calOf_le h) (fun h W hE hM => ReadDay_U_none s n0 y0 m0 k0 W hd0 h90 hs h) (fun n y m k hd h9 h hf W hE hM => ReadDay_U_ok s n0 y0 m0 k0 W hd0 h90 hs n y m k hd h9 h hf hE) (fun n y m k hd h9 h hf W hE hM => ReadDay_U_ne s n0 y0 m0 k0 W hd0 h90 hs n y m k hd h9 h hf hE) (fun n y m k hd h9 W hE => Date_U n y m k W hd h9 hE)
theorem readOk_any (n0 y0 m0 k0 : Nat) (x : UInt8) (s : ByteArray) (hd0 : IsDate n0 y0 m0 k0) (h90 : y0 ≤ 9999) (hs : s.size ≤ 1000000) : ReadOk (x.toNat : Int) (n0 : Int) s := by
  by_cases hx : x = 66 ∨ x = 68 ∨ x = 69 ∨ x = 73 ∨ x = 78 ∨ x = 79 ∨ x = 83 ∨ x = 85
  · rcases hx with rfl | rfl | rfl | rfl | rfl | rfl | rfl | rfl
    · exact readOk_B n0 y0 m0 k0 s hd0 h90 hs
    · exact readOk_D n0 y0 m0 k0 s hd0 h90 hs
    · exact readOk_E n0 y0 m0 k0 s hd0 h90 hs
    · exact readOk_I n0 y0 m0 k0 s hd0 h90 hs
    · exact readOk_N n0 y0 m0 k0 s hd0 h90 hs
    · exact readOk_O n0 y0 m0 k0 s hd0 h90 hs
    · exact readOk_S n0 y0 m0 k0 s hd0 h90 hs
    · exact readOk_U n0 y0 m0 k0 s hd0 h90 hs
  · exact .inl ⟨0, 1, fun W _ _ => ReadDay_none s n0 y0 m0 k0 x W hd0 h90 (rest_none x s y0 hx), by decide, by decide⟩
end Go.Proofs.YtmjifmlibgpjiaaGreatDoor
