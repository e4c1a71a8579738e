/- The times that texts count, in any units. -/
import Derived.Test.YtmjifmlibgpjiaaGreatDoorGb
import Derived.Test.YtmjifmlibgpjiaaGreatDoorDr
namespace Go.Proofs.YtmjifmlibgpjiaaGreatDoor
open Go.RowKit Go.Shelf Tx Go.Maps
set_option linter.unusedVariables false
set_option maxRecDepth 100000

namespace Tx
/-- What the numbers of a text count, each in its unit, behind what is counted so far. -/
def cntL : List Nat → List UInt8 → Nat → Option Nat
  | [], _, m => some m
  | u :: us, l, m => if 0 ≤ numV l ∧ numV l ≤ ((86400000000 / u : Nat) : Int) then cntL us (numR l) (m + (numV l).toNat * u) else none
/-- A time of day, if it is one. -/
def cntR (us : List Nat) (l : List UInt8) : Option Nat := match cntL us l 0 with
  | some m => if m ≤ 86399999999 then some m else none
  | none => none
def optV : Option Nat → Int
  | some n => (n : Int)
  | none => 0
def rowU (us : List Nat) : Array Value := (us.map fun (u : Nat) => Value.int .i64 (u : Int)).toArray
end Tx
theorem rowU_get (us : List Nat) (k u : Nat) (h : us[k]? = some u) : (rowU us)[k]? = some (.int .i64 (u : Int)) := by unfold rowU; simp [h]
theorem ctFacts (a u m : Nat) (hu : 1 ≤ u) (ha : a ≤ 86400000000 / u) (hm : m ≤ 1000000000000) : a * u ≤ 86400000000 ∧ IntKind.i64.wrap ((a : Int) * (u : Int)) = ((a * u : Nat) : Int) ∧ wrap64 ((a : Int) * (u : Int)) = ((a * u : Nat) : Int) ∧ IntKind.i64.wrap ((m : Int) + ((a * u : Nat) : Int)) = ((m + a * u : Nat) : Int) ∧ wrap64 ((m : Int) + ((a * u : Nat) : Int)) = ((m + a * u : Nat) : Int) := by
  have h : a * u ≤ 86400000000 := Nat.le_trans (Nat.mul_le_mul_right u ha) (Nat.div_mul_le_self _ _)
  refine ⟨h, ?_, ?_, ?_, ?_⟩
  · rw [← Int.natCast_mul]; exact i64i' (by omega) (by omega)
  · rw [← Int.natCast_mul]; exact w64 (by omega) (by omega)
  · rw [← Int.natCast_add]; exact i64i' (by omega) (by omega)
  · rw [← Int.natCast_add]; exact w64 (by omega) (by omega)
set_option maxHeartbeats 8000000 in
theorem counted_any (us : List Nat) (n q : Nat) (s : ByteArray) (w : World) (hs : s.size ≤ 1000000) (hn : n = us.length) (hn4 : n ≤ 4) (hu : ∀ u ∈ us, 1 ≤ u) (hq : BoxC w q 3 (rowU us)) :
    Calls Tryz.prog 144 #[.string s, .slice (some ⟨q, 0, none⟩) n n] w fun e w' => e = .returned (.tuple #[.int .i64 (optV (cntR us (bts s))), .bool (cntR us (bts s)).isSome]) ∧ Below w.heap.size w w' := by
  have hlt := hq.lt
  have HQ := Lib.hid hq
  have HS := Lib.hid hs
  have HU := Lib.hid hu
  have HN := Lib.hid hn
  have H4 := Lib.hid hn4
  obtain ⟨R, hR⟩ : ∃ R, R = cntR us (bts s) := ⟨_, rfl⟩
  have HR := Lib.hid hR
  rw [← hR]
  clear hq hs hu hn hn4 hR
  go_enter Tryz.func144, Tryz.ntmps144
  go_wp2_with (go_at_call 138; refine Calls.mono (numbersIn_any _ _) ?_; rintro e w9 ⟨rfl, rfl⟩)
  go_loopw [6, 15] (fun v6 v15 wr => ∃ (k M : Nat) (r : ByteArray), v6 = .int .i64 (M : Int) ∧ v15 = .int .i64 (k : Int) ∧ k ≤ n ∧ Hid (M ≤ k * 86400000000) ∧ Hid (cntL us (bts s) 0 = cntL (us.drop k) (bts r) M) ∧ Hid (r.size ≤ 1000000) ∧ Hid (BoxC wr w.heap.size 9 #[.string r]) ∧ Hid (BoxC wr q 3 (rowU us)) ∧ Hid (Below w.heap.size w wr)) (fun _ v15 _ => n - (intOf v15).toNat)
  case atStart => exact ⟨0, 0, s, rfl, rfl, Nat.zero_le _, Lib.hid (Nat.zero_le _), Lib.hid rfl, HS, Lib.hid (BoxC.new w _ _), Lib.hid (HQ.out.alloc _), Lib.hid (Bl.alloc (Below.refl _ w) _)⟩
  case round =>
    obtain ⟨k, M, r, rfl, rfl, hk, hM, hc, hr, hb, hqq, hbl⟩ := hrel
    have k1 : IntKind.i64.wrap ((k : Int) + 1) = (k : Int) + 1 := i64i' (by omega) (by have := H4.out; omega)
    have k2 : wrap64 ((k : Int) + 1) = (k : Int) + 1 := w64 (by omega) (by have := H4.out; omega)
    by_cases hkn : k < n
    · obtain ⟨u, hu⟩ : ∃ u, us[k]? = some u := ⟨_, List.getElem?_eq_getElem (by rw [← HN.out]; exact hkn)⟩
      have hu1 : 1 ≤ u := HU.out u (List.mem_of_getElem? hu)
      have q0 : wr.cell? ⟨q, k, none⟩ = some (.int .i64 (u : Int)) := hqq.out.cell (rowU_get us k u hu)
      have hdr : us.drop k = u :: us.drop (k + 1) := by
        obtain ⟨hl, he⟩ := List.getElem?_eq_some_iff.1 hu
        rw [← he]; exact List.drop_eq_getElem_cons hl
      have HC := Lib.hid (show cntL us (bts s) 0 = if 0 ≤ numV (bts r) ∧ numV (bts r) ≤ ((86400000000 / u : Nat) : Int) then cntL (us.drop (k + 1)) (numR (bts r)) (M + (numV (bts r)).toNat * u) else none by rw [hc.out, hdr, cntL])
      have KN := Lib.hid (number_next r w.heap.size wr hr.out (idxOk_any r hr.out) hb.out)
      have hd0 : ¬ (u : Int) = 0 := by omega
      have hd1 : (86400000000 : Int).tdiv (u : Int) = ((86400000000 / u : Nat) : Int) := tdivN 86400000000 u
      have hdv : 86400000000 / u ≤ 86400000000 := Nat.div_le_self _ _
      obtain ⟨v, hv⟩ : ∃ v, v = numV (bts r) := ⟨_, rfl⟩
      obtain ⟨d, hd⟩ : ∃ d, d = 86400000000 / u := ⟨_, rfl⟩
      rw [← hv] at HC
      rw [← hd] at hd1 HC hdv
      have HV := Lib.hid hv
      have HU1 := Lib.hid hu1
      have HD := Lib.hid hd
      clear hdr hu hu1 hv hd
      have hd2 : wrap64 (d : Int) = (d : Int) := w64 (by omega) (by omega)
      have hd3 : IntKind.i64.wrap (d : Int) = (d : Int) := i64i' (by omega) (by omega)
      have KR := fun W => Lib.hid (inRange_any v 0 (d : Int) W)
      clear hdv
      by_cases hin : 0 ≤ v ∧ v ≤ (d : Int)
      · rw [inR_true hin.1 hin.2] at KR
        obtain ⟨a, rfl⟩ : ∃ a : Nat, v = (a : Int) := ⟨v.toNat, by omega⟩
        have F := Lib.hid (ctFacts a u M HU1.out (by rw [← HD.out]; have := hin.2; omega) (by have := hM.out; have := H4.out; omega))
        have HIN := Lib.hid hin
        clear hin
        obtain ⟨_, f1, f2, f3, f4⟩ := F.out
        obtain ⟨p, hp⟩ : ∃ p, p = a * u := ⟨_, rfl⟩
        obtain ⟨M', hM'⟩ : ∃ M', M' = M + p := ⟨_, rfl⟩
        rw [← hp] at f1 f2 f3 f4
        rw [← hM'] at f3 f4
        have HP := Lib.hid (And.intro hp hM')
        clear hp hM'
        go_wp2_with (first
          | (go_at_call 155; refine Calls.mono KN.out ?_; rintro e w2 ⟨r', rfl, hr', hb', hg'⟩; rw [← HV.out]; have HR2 := Lib.hid hr'.out; have HB2 := Lib.hid hb'; have HG2 := Lib.hid hg'; have Q2 := Lib.hid (BoxC.kept hqq.out hg' (by simp; omega)); have qk := Q2.out; clear hr' hb' hg' qk)
          | (go_at_call 58; refine Calls.mono (KR _).out ?_; rintro e w3 ⟨rfl, hw⟩; subst w3))
        go_roundw
        case rel =>
          refine ⟨k + 1, M', r', rfl, by go_num, by omega, Lib.hid ?_, Lib.hid ?_, Lib.hid ?_, HB2, Q2, Lib.hid (hbl.out.grown HG2.out hbl.out.size (fun j hj => by simp at hj; omega))⟩
          · have := hM.out; have := F.out.1; rw [HP.out.2, HP.out.1]; omega
          · rw [HC.out, if_pos HIN.out, HR2.out, HP.out.2, HP.out.1]; rfl
          · have h := hr.out; have h1 := numR_len (bts r); rw [← HR2.out, bts_length, bts_length] at h1; omega
        case measure => simp [intOf]; omega
      · rw [inR_false hin] at KR
        have HIN := Lib.hid hin
        clear hin
        have HE := Lib.hid (show R = none by rw [HR.out]; unfold cntR; rw [HC.out, if_neg HIN.out])
        go_wp2_with (first
          | (go_at_call 155; refine Calls.mono KN.out ?_; rintro e w2 ⟨r', rfl, hr', hb', hg'⟩; rw [← HV.out]; have HG2 := Lib.hid hg'; have Q2 := Lib.hid (BoxC.kept hqq.out hg' (by simp; omega)); clear hr' hb' hg')
          | (go_at_call 58; refine Calls.mono (KR _).out ?_; rintro e w3 ⟨rfl, hw⟩; subst w3))
        go_ret2
        exact ⟨by rw [HE.out]; rfl, hbl.out.grown HG2.out hbl.out.size (fun j hj => by simp at hj; omega)⟩
    · obtain rfl : k = n := by omega
      have HC := Lib.hid (show cntL us (bts s) 0 = some M by rw [hc.out, HN.out, List.drop_length]; rfl)
      have KT := fun W => Lib.hid (isTime_any (M : Int) W)
      by_cases hm : M ≤ 86399999999
      · rw [inR_true (by omega) (by omega)] at KT
        have HE := Lib.hid (show R = some M by rw [HR.out]; unfold cntR; rw [HC.out]; simp [hm])
        clear hm hkn
        go_wp2_with (go_at_call 72; refine Calls.mono (KT _).out ?_; rintro e w3 ⟨rfl, hw⟩; subst w3)
        go_ret2
        exact ⟨by rw [HE.out]; rfl, hbl.out⟩
      · rw [inR_false (by omega)] at KT
        have HE := Lib.hid (show R = none by rw [HR.out]; unfold cntR; rw [HC.out]; simp; omega)
        clear hm hkn
        go_wp2_with (go_at_call 72; refine Calls.mono (KT _).out ?_; rintro e w3 ⟨rfl, hw⟩; subst w3)
        go_ret2
        exact ⟨by rw [HE.out]; rfl, hbl.out⟩
end Go.Proofs.YtmjifmlibgpjiaaGreatDoor
