/- The reference's numerals, and its readers of numbers and times. -/
import Derived.Test.YtmjifmlibgpjiaaGreatDoorDd
import Derived.Test.YtmjifmlibgpjiaaGreatDoorTf
import Derived.Test.YtmjifmlibgpjiaaGreatDoorTd
import Derived.Laws.IdiomStrings
import Derived.Test.YtmjifmlibgpjiaaGreatDoorGf
import Derived.Test.YtmjifmlibgpjiaaGreatDoorGe
import Derived.Test.YtmjifmlibgpjiaaGreatDoorGg
import Derived.Test.YtmjifmlibgpjiaaGreatDoorDk
import Derived.Test.YtmjifmlibgpjiaaGreatDoorDs
namespace Go.Proofs.YtmjifmlibgpjiaaGreatDoor
open Go.RowKit Go.Shelf Tx
set_option linter.unusedVariables false
set_option maxRecDepth 100000

theorem conv_one (w : World) (x : UInt8) : (convert 64 9 (.slice (some ⟨w.heap.size, 0, none⟩) 1 1)).run Tryz.prog (w.alloc (.cells #[.int .u8 (x.toNat : Int)] 5)) = .ok (.string ⟨[x].toArray⟩) (w.alloc (.cells #[.int .u8 (x.toNat : Int)] 5)) :=
  run_convert_bytes_back (P := Tryz.prog) (w.alloc (.cells #[.int .u8 (x.toNat : Int)] 5)) 64 9 5 ⟨w.heap.size, 0, none⟩ 1 [x] Tryz.underlying64 Tryz.underlying5 Tryz.underlying9 (fun j hj => by
    obtain rfl : j = 0 := by simpa using hj
    exact World.cell?_alloc_mark w _ _ (0, 0) 0)
set_option maxHeartbeats 1000000 in
theorem rtext_small (n : Nat) (w : World) (hn : n < 10) : Calls Tryz.prog 62 #[.int .i64 (n : Int)] w (GivesS w (Lib.decDigits n)) := by
  have hd := dgt_nat n
  rw [Nat.mod_eq_of_lt hn] at hd
  have f1 : IntKind.i64.wrap (48 + (n : Int)) = ((dgt n).toNat : Int) := by rw [hd]; rw [show (48 : Int) + (n : Int) = ((48 + n : Nat) : Int) by omega]; exact i64i' (by omega) (by omega)
  have f2 : wrap64 (48 + (n : Int)) = ((dgt n).toNat : Int) := by rw [hd]; rw [show (48 : Int) + (n : Int) = ((48 + n : Nat) : Int) by omega]; exact w64 (by omega) (by omega)
  have f3 : IntKind.u8.wrap ((dgt n).toNat : Int) = ((dgt n).toNat : Int) := by have := (dgt n).toNat_lt; unfold IntKind.wrap; simp [IntKind.bits, IntKind.signed]; omega
  have h10 : (n : Int) < 10 := by omega
  have HR := Lib.hid (dd_small hn)
  obtain ⟨x, hx⟩ : ∃ x, x = dgt n := ⟨_, rfl⟩
  rw [← hx] at f1 f2 f3 HR
  have hcv := conv_one w x
  clear hd hn hx
  go_enter Tryz.func62, Tryz.ntmps62
  go_wp2
  go_ret
  exact ⟨_, rfl, Lib.hid (by rw [HR.out]; exact bts_mk [x]), Bl.alloc (Below.refl _ w) _⟩
theorem dd_len19 {n : Nat} (h : n ≤ 9223372036854775807) : (Lib.decDigits n).length ≤ 19 := dd_len (k := 18) (by omega)
set_option maxHeartbeats 1000000 in
theorem rtext_any (n : Nat) : n ≤ 9223372036854775807 → ∀ w, Calls Tryz.prog 62 #[.int .i64 (n : Int)] w (GivesS w (Lib.decDigits n)) := by
  induction n using Nat.strongRecOn with
  | ind n ih =>
    intro hn w
    by_cases h10 : n < 10
    · exact rtext_small n w h10
    · have K1 := fun W => Lib.hid (ih (n / 10) (by omega) (by omega) W)
      have K2 := fun W => Lib.hid (rtext_small (n % 10) W (by omega))
      have t1 : (n : Int).tdiv 10 = ((n / 10 : Nat) : Int) := tdivN n 10
      have t2 : (n : Int).tmod 10 = ((n % 10 : Nat) : Int) := tmodN n 10
      have w1 : wrap64 ((n / 10 : Nat) : Int) = ((n / 10 : Nat) : Int) := w64 (by omega) (by omega)
      have w2 : wrap64 ((n % 10 : Nat) : Int) = ((n % 10 : Nat) : Int) := w64 (by omega) (by omega)
      have l1 := Lib.hid (dd_len19 (n := n / 10) (by omega))
      have HR := Lib.hid (show Lib.decDigits n = Lib.decDigits (n / 10) ++ Lib.decDigits (n % 10) by rw [dd_big h10, dd_small (n := n % 10) (by omega)]; unfold dgt; rw [Nat.mod_mod])
      have l2 := Lib.hid (dd_len19 (n := n % 10) (by omega))
      obtain ⟨a, ha⟩ : ∃ a, a = n / 10 := ⟨_, rfl⟩
      obtain ⟨b, hb⟩ : ∃ b, b = n % 10 := ⟨_, rfl⟩
      rw [← ha] at K1 t1 w1 l1 HR
      rw [← hb] at K2 t2 w2 l2 HR
      have hge : ¬ (n : Int) < 10 := by omega
      clear ih hn h10 ha hb
      go_enter Tryz.func62, Tryz.ntmps62
      go_wp2_with (first
        | (go_at_call 62; refine Calls.mono (K1 _).out ?_; rintro e w3 ⟨s1, rfl, hs1, hb3⟩; clear K1; have B3 := Lib.hid hb3; clear hb3)
        | (go_at_call 62; refine Calls.mono (K2 _).out ?_; rintro e w4 ⟨s2, rfl, hs2, hb4⟩; clear K2; have B4 := Lib.hid (Bl.step B3.out hb4); have hsz : ¬ 9223372036854775807 < s1.size + s2.size := (by have q1 := congrArg List.length hs1.out; have q2 := congrArg List.length hs2.out; rw [bts_length] at q1 q2; have := l1.out; have := l2.out; omega); clear hb4))
      go_ret
      exact ⟨_, rfl, Lib.hid (by rw [bts_append, hs1.out, hs2.out, HR.out]), B4.out⟩
set_option maxHeartbeats 1000000 in
theorem rpadded_any (n k : Nat) (w : World) (hn : n ≤ 9223372036854775807) (hk : k ≤ 100) : Calls Tryz.prog 61 #[.int .i64 (n : Int), .int .i64 (k : Int)] w (GivesS w (padd n k)) := by
  have K1 := fun W => Lib.hid (rtext_any n hn W)
  have HL := Lib.hid (dd_len19 hn)
  have HK := Lib.hid hk
  clear hn hk
  go_enter Tryz.func61, Tryz.ntmps61
  go_wp2_with (go_at_call 62; refine Calls.mono (K1 _).out ?_; rintro e w3 ⟨s1, rfl, hs1, hb3⟩; clear K1; have B3 := Lib.hid hb3; clear hb3)
  go_loopw [5] (fun v wr => ∃ (t : ByteArray) (j : Nat), v = .string t ∧ Hid (bts t = List.replicate j 48 ++ Lib.decDigits n) ∧ (j = 0 ∨ Hid (t.size ≤ k)) ∧ Hid (t.size = j + (Lib.decDigits n).length) ∧ wr = w3) (fun v _ => k - (match v with | .string t => t.size | _ => 0))
  case atStart => exact ⟨s1, 0, rfl, hs1, Or.inl rfl, Lib.hid (by have q1 := congrArg List.length hs1.out; rw [bts_length] at q1; omega), rfl⟩
  case round =>
    obtain ⟨t, j, rfl, ht, hj, hz, rfl⟩ := hrel
    by_cases hlt : t.size < k
    · have hsz : ¬ 9223372036854775807 < (⟨#[48]⟩ : ByteArray).size + t.size := by have := HK.out; show ¬ _ < 1 + t.size; omega
      have hsz2 : ¬ 9223372036854775807 < 1 + t.size := by have := HK.out; omega
      have hlt' : (t.size : Int) < (k : Int) := by omega
      go_wp2
      go_roundw
      case rel => exact ⟨_, j + 1, rfl, Lib.hid (by rw [bts_append, ht.out, show bts (⟨#[48]⟩ : ByteArray) = [48] from rfl]; rfl), Or.inr (Lib.hid (by rw [ByteArray.size_append]; show 1 + t.size ≤ k; omega)), Lib.hid (by rw [ByteArray.size_append, hz.out]; show 1 + _ = _; omega), by first | trivial | rfl⟩
      case measure => simp [ByteArray.size_append]; show k - (1 + t.size) < k - t.size; omega
    · have hlt' : ¬ (t.size : Int) < (k : Int) := by omega
      have HF := Lib.hid (show bts t = padd n k by
        rw [ht.out]
        unfold padd
        have := hz.out
        rcases hj with rfl | hj
        · rw [show k - (Lib.decDigits n).length = 0 by omega]
        · have := hj.out
          rw [show k - (Lib.decDigits n).length = j by omega])
      clear hj
      go_wp2
      go_ret
      exact ⟨t, rfl, HF, B3.out⟩
end Go.Proofs.YtmjifmlibgpjiaaGreatDoor
namespace Go.Proofs.YtmjifmlibgpjiaaGreatDoor
open Go.RowKit Go.Shelf Tx
set_option linter.unusedVariables false
set_option maxRecDepth 100000

namespace Tx
/-- The value of digits, at most twelve; -1 if there is none. -/
def digV (l : List UInt8) : Int := if l = [] ∨ 12 < l.length then -1 else match Lib.decFrom 0 l with
  | some n => (n : Int)
  | none => -1
theorem decFrom_snocX : ∀ (l : List UInt8) (a m : Nat) (x : UInt8), Lib.decFrom a l = some m → Lib.decFrom a (l ++ [x]) = match Lib.digitVal x with | some d => some (m * 10 + d) | none => none
  | [], a, m, x, h => by
    rw [Lib.decFrom] at h
    cases h
    show Lib.decFrom a [x] = _
    rw [Lib.decFrom]
    cases Lib.digitVal x <;> rfl
  | b :: l, a, m, x, h => by
    show Lib.decFrom a (b :: (l ++ [x])) = _
    rw [Lib.decFrom] at h ⊢
    cases hb : Lib.digitVal b with
    | none => rw [hb] at h; cases h
    | some d => rw [hb] at h; exact decFrom_snocX l _ m x h
theorem decFrom_bad {l : List UInt8} {i m : Nat} {x : UInt8} (h : Lib.decFrom 0 (l.take i) = some m) (hx : l[i]? = some x) (hd : Lib.digitVal x = none) : Lib.decFrom 0 l = none := by
  cases hl : Lib.decFrom 0 l with
  | none => rfl
  | some n =>
    obtain ⟨k, hk⟩ := Lib.decFrom_prefix l 0 n hl (i + 1)
    rw [List.take_add_one, hx] at hk
    have := decFrom_snocX (l.take i) 0 m x h
    rw [hd] at this
    rw [show (some x).toList = [x] from rfl, this] at hk
    cases hk
theorem digVal_lo {x : UInt8} (h : x.toNat < 48) : Lib.digitVal x = none := by unfold Lib.digitVal; rw [if_neg (by omega)]
theorem digVal_hi {x : UInt8} (h : 57 < x.toNat) : Lib.digitVal x = none := by unfold Lib.digitVal; rw [if_neg (by omega)]
theorem digVal_in {x : UInt8} (h : 48 ≤ x.toNat) (h2 : x.toNat ≤ 57) : Lib.digitVal x = some (x.toNat - 48) := by unfold Lib.digitVal; rw [if_pos ⟨h, h2⟩]
theorem decFrom_lt12 {l : List UInt8} {m : Nat} (h : Lib.decFrom 0 l = some m) (hl : l.length ≤ 12) : m < 1000000000000 := by
  have := Lib.decFrom_lt l 0 m h
  have h2 : (10 : Nat) ^ l.length ≤ 10 ^ 12 := Nat.pow_le_pow_right (by decide) hl
  omega
end Tx
theorem digFacts (m d x p n : Nat) (hm : m < 1000000000000) (h1 : 48 ≤ x) (h2 : x ≤ 57) (hd : d = x - 48) (hp : p = 10 * m) (hn : n = p + d) :
    IntKind.u8.wrap ((x : Int) - 48) = (d : Int) ∧ IntKind.i64.wrap (d : Int) = (d : Int) ∧ wrap64 (d : Int) = (d : Int) ∧ IntKind.i64.wrap (10 * (m : Int)) = (p : Int) ∧ wrap64 (10 * (m : Int)) = (p : Int) ∧ IntKind.i64.wrap ((p : Int) + (d : Int)) = (n : Int) ∧ wrap64 ((p : Int) + (d : Int)) = (n : Int) := by
  have e1 : (x : Int) - 48 = (d : Int) := by omega
  have e2 : 10 * (m : Int) = (p : Int) := by omega
  have e3 : (p : Int) + (d : Int) = (n : Int) := by omega
  rw [e1, e2, e3]
  refine ⟨?_, i64i' (by omega) (by omega), w64 (by omega) (by omega), i64i' (by omega) (by omega), w64 (by omega) (by omega), i64i' (by omega) (by omega), w64 (by omega) (by omega)⟩
  unfold IntKind.wrap
  simp [IntKind.bits, IntKind.signed]
  omega
set_option maxHeartbeats 4000000 in
theorem rdigits_short (s : ByteArray) (w : World) (h12 : s.size ≤ 12) : Calls Tryz.prog 70 #[.string s] w fun e w' => e = .returned (.int .i64 (digV (bts s))) ∧ w = w' := by
  have HZ := Lib.hid h12
  go_enter Tryz.func70, Tryz.ntmps70
  go_wp2
  go_loopw [3, 4] (fun v3 v4 wr => ∃ i m : Nat, v3 = .int .i64 (m : Int) ∧ v4 = .int .i64 (i : Int) ∧ i ≤ s.size ∧ Hid (Lib.decFrom 0 ((bts s).take i) = some m) ∧ wr = w) (fun _ v4 _ => s.size - (intOf v4).toNat)
  case atStart => exact ⟨0, 0, rfl, rfl, Nat.zero_le _, Lib.hid rfl, rfl⟩
  case round =>
    obtain ⟨i, m, rfl, rfl, hi, hm, rfl⟩ := hrel
    by_cases hlt : i < s.size
    · have hlt' : (i : Int) < (s.size : Int) := by omega
      obtain ⟨x, hx⟩ : ∃ x : UInt8, s[i]'hlt = x := ⟨_, rfl⟩
      have hxl := Lib.hid (show (bts s)[i]? = some x by rw [← hx]; exact bts_get s hlt)
      have k1 : IntKind.i64.wrap ((i : Int) + 1) = (i : Int) + 1 := i64i' (by omega) (by omega)
      have k2 : wrap64 ((i : Int) + 1) = (i : Int) + 1 := w64 (by omega) (by omega)
      by_cases hlo : x.toNat < 48
      · have h1 : (x.toNat : Int) < 48 := by omega
        have HR := Lib.hid (show digV (bts s) = -1 by unfold digV; rw [decFrom_bad hm.out hxl.out (digVal_lo hlo)]; split <;> rfl)
        go_wp2
        go_ret
        exact ⟨by rw [HR.out]; rfl, rfl⟩
      · have h1 : ¬ (x.toNat : Int) < 48 := by omega
        by_cases hhi : 57 < x.toNat
        · have h2 : 57 < (x.toNat : Int) := by omega
          have HR := Lib.hid (show digV (bts s) = -1 by unfold digV; rw [decFrom_bad hm.out hxl.out (digVal_hi hhi)]; split <;> rfl)
          go_wp2
          go_ret
          exact ⟨by rw [HR.out]; rfl, rfl⟩
        · have h2 : ¬ 57 < (x.toNat : Int) := by omega
          have hb := decFrom_lt12 hm.out (by rw [List.length_take, bts_length]; omega)
          obtain ⟨d, hd⟩ : ∃ d, d = x.toNat - 48 := ⟨_, rfl⟩
          obtain ⟨p, hp⟩ : ∃ p, p = 10 * m := ⟨_, rfl⟩
          obtain ⟨m', hm'⟩ : ∃ m', m' = p + d := ⟨_, rfl⟩
          obtain ⟨f1, f2, f3, f4, f5, f6, f7⟩ := digFacts m d x.toNat p m' hb (by omega) (by omega) hd hp hm'
          have HN := Lib.hid (show Lib.decFrom 0 ((bts s).take (i + 1)) = some m' by
            rw [List.take_add_one, hxl.out, show (some x).toList = [x] from rfl, decFrom_snocX _ 0 m x hm.out, digVal_in (by omega) (by omega), hm', hp, hd]
            show some (m * 10 + (x.toNat - 48)) = _
            rw [Nat.mul_comm])
          clear hb hp hm' hd hlo hhi
          go_wp2
          go_roundw
          case rel => exact ⟨i + 1, m', rfl, by first | rfl | go_num, by omega, HN, by first | trivial | rfl⟩
          case measure => simp [intOf]; omega
    · obtain rfl : i = s.size := by omega
      have ht : (bts s).take s.size = bts s := List.take_of_length_le (by rw [bts_length]; omega)
      rw [ht] at hm
      have c1 : ¬ (12 : Int) < (s.size : Int) := by omega
      by_cases h0 : s.size = 0
      · have HR := Lib.hid (show digV (bts s) = -1 by unfold digV; rw [if_pos (.inl (List.eq_nil_of_length_eq_zero (by rw [bts_length]; exact h0)))])
        have c2 : ((s.size : Int) == 0) = true := by rw [beq_iff_eq]; omega
        go_wp2
        go_ret
        exact ⟨by rw [HR.out]; rfl, rfl⟩
      · have HR := Lib.hid (show digV (bts s) = (m : Int) by
          unfold digV
          rw [if_neg (by rw [bts_length]; rintro (q | q); exact h0 (by rw [← bts_length, q]; rfl); omega), hm.out])
        have c2 : ((s.size : Int) == 0) = false := beq_eq_false_iff_ne.2 (by omega)
        go_wp2
        go_ret
        exact ⟨by rw [HR.out]; rfl, rfl⟩
end Go.Proofs.YtmjifmlibgpjiaaGreatDoor
namespace Go.Proofs.YtmjifmlibgpjiaaGreatDoor
open Go.Lib Tx
namespace Tx
/-- The value of digits without leading zeros, at most so many; -1 if there is none. -/
def plainV (l : List UInt8) (k : Nat) : Int := if k < l.length ∨ (1 < l.length ∧ l.head? = some 48) then -1 else digV l
def unitV (l : List UInt8) (u : Nat) : Int := if plainV l 11 < 0 ∨ ((86399999999 / u : Nat) : Int) < plainV l 11 then -1 else plainV l 11 * u
theorem dd_head (v : Nat) : 10 ≤ v → (decDigits v).head? ≠ some 48 := by
  induction v using Nat.strongRecOn with
  | ind v ih =>
    intro h
    rw [dd_big (by omega)]
    by_cases h10 : v / 10 < 10
    · rw [dd_small h10]
      intro q
      have q2 : dgt (v / 10) = 48 := by simpa using q
      have := congrArg UInt8.toNat q2
      rw [dgt_nat] at this
      have e : (48 : UInt8).toNat = 48 := rfl
      omega
    · have := ih (v / 10) (by omega) (by omega)
      cases hd : decDigits (v / 10) with
      | nil => exact absurd hd (dd_ne _)
      | cons a r => rw [hd] at this; simpa using this
theorem digV_dd {v : Nat} (h : v ≤ 99999999999) : digV (decDigits v) = (v : Int) := by
  have := dd11 h
  unfold digV
  rw [if_neg (by rintro (q | q); exact dd_ne v q; omega), decFrom_dd]
theorem plain_dd {v : Nat} (h : v ≤ 99999999999) : plainV (decDigits v) 11 = (v : Int) := by
  have h11 := dd11 h
  unfold plainV
  rw [if_neg, digV_dd h]
  rintro (q | ⟨q1, q2⟩)
  · omega
  · by_cases h10 : v < 10
    · rw [dd_small h10] at q1; simp at q1
    · exact dd_head v (by omega) q2
theorem digitVal_eq {x : UInt8} {d : Nat} (h : digitVal x = some d) : x = dgt d ∧ d < 10 := by
  unfold digitVal at h
  split at h
  · rename_i q
    cases h
    have h10 : x.toNat - 48 < 10 := by omega
    exact ⟨by rw [← UInt8.toNat_inj, dgt_nat, Nat.mod_eq_of_lt h10]; omega, h10⟩
  · cases h
theorem dd_of (n : Nat) : ∀ (l : List UInt8) (v : Nat), l.length = n → l ≠ [] → decFrom 0 l = some v → (l.length = 1 ∨ l.head? ≠ some 48) → l = decDigits v := by
  induction n with
  | zero => intro l v h hne _ _; exact absurd (List.eq_nil_of_length_eq_zero h) hne
  | succ n ih =>
    intro l v hl hne hv hh
    obtain ⟨l', x, rfl⟩ : ∃ l' x, l = l' ++ [x] := ⟨l.dropLast, l.getLast hne, (List.dropLast_concat_getLast hne).symm⟩
    obtain ⟨m, hm⟩ := decFrom_prefix _ 0 v hv l'.length
    rw [List.take_left] at hm
    have hs := decFrom_snocX l' 0 m x hm
    rw [hv] at hs
    cases hx : digitVal x with
    | none => rw [hx] at hs; cases hs
    | some d =>
      rw [hx] at hs
      obtain rfl : v = m * 10 + d := by simpa using hs
      obtain ⟨ex, hd⟩ := digitVal_eq hx
      by_cases h0 : l' = []
      · subst h0
        rw [decFrom] at hm
        cases hm
        rw [dd_small (by omega), ex]
        simp
      · have hlen : l'.length = n := by simpa using hl
        have hhd : (l' ++ [x]).head? = l'.head? := by cases l' with | nil => exact absurd rfl h0 | cons _ _ => rfl
        have hne48 : l'.head? ≠ some 48 := by
          rcases hh with hh | hh
          · have : 1 ≤ l'.length := List.length_pos_iff.2 h0
            rw [List.length_append, List.length_singleton] at hh; omega
          · rw [← hhd]; exact hh
        have e := ih l' m hlen h0 hm (.inr hne48)
        have hm1 : 1 ≤ m := by
          rcases Nat.eq_zero_or_pos m with rfl | h
          · exact absurd (by rw [e, dd_small (by decide)]; rfl) hne48
          · exact h
        rw [dd_big (by omega), show (m * 10 + d) / 10 = m by omega, ← e, ex]
        congr 2
        unfold dgt
        rw [show (m * 10 + d) % 10 = d % 10 by omega]
theorem digV_cases (l : List UInt8) : digV l = -1 ∨ ∃ v : Nat, digV l = (v : Int) ∧ l ≠ [] ∧ decFrom 0 l = some v := by
  unfold digV
  split
  · exact .inl rfl
  · rename_i q
    cases h : decFrom 0 l with
    | none => exact .inl rfl
    | some v => exact .inr ⟨v, rfl, fun e => q (.inl e), rfl⟩
theorem plain_cases (l : List UInt8) (k : Nat) : plainV l k = -1 ∨ ∃ v : Nat, plainV l k = (v : Int) ∧ l = decDigits v ∧ l.length ≤ k := by
  unfold plainV
  split
  · exact .inl rfl
  · rename_i q
    rcases digV_cases l with h | ⟨v, h, hne, hv⟩
    · exact .inl h
    · refine .inr ⟨v, h, dd_of l.length l v rfl hne hv ?_, by omega⟩
      by_cases h1 : l.length = 1
      · exact .inl h1
      · have : 1 ≤ l.length := List.length_pos_iff.2 hne
        exact .inr fun e => q (.inr ⟨by omega, e⟩)
theorem unit_same (u : Nat) (hu : 1 ≤ u) (l : List UInt8) : tmV (cntR [u] l) (fun c => decDigits (c / u)) l = if unitV l u < 0 then (0, 2) else (unitV l u, 0) := by
  rcases plain_cases l 11 with h | ⟨v, h, rfl, hl⟩
  · have e : unitV l u = -1 := by unfold unitV; rw [h, if_pos (.inl (by decide))]
    rw [e, if_pos (by decide)]
    cases hc : cntR [u] l with
    | none => rfl
    | some c =>
      unfold tmV
      refine if_neg fun q => ?_
      have hc9 := cntR_le hc
      have hcu : c / u ≤ 99999999999 := Nat.le_trans (Nat.div_le_self _ _) (by omega)
      have hp := plain_dd hcu
      have q2 : l = decDigits (c / u) := q
      rw [← q2, h] at hp
      have h0 := Int.natCast_nonneg (c / u)
      rw [← hp] at h0
      exact absurd h0 (by decide)
  · have hv : v ≤ 99999999999 := by
      have := decFrom_lt (decDigits v) 0 v (decFrom_dd v)
      have h2 : (10 : Nat) ^ (decDigits v).length ≤ 10 ^ 11 := Nat.pow_le_pow_right (by decide) hl
      omega
    by_cases hvu : v ≤ 86399999999 / u
    · have h1 : v * u ≤ 86399999999 := (Nat.le_div_iff_mul_le hu).1 hvu
      have e : unitV (decDigits v) u = ((v * u : Nat) : Int) := by
        unfold unitV
        rw [h, if_neg (by omega), Int.natCast_mul]
      have hd : 86399999999 / u ≤ 86400000000 / u := Nat.div_le_div_right (by omega)
      rw [e, if_neg (by omega), cnt1 u v hu (Nat.le_trans hvu hd) h1 hl]
      unfold tmV
      exact if_pos (by show decDigits v = decDigits (v * u / u); rw [Nat.mul_div_cancel _ hu])
    · have e : unitV (decDigits v) u = -1 := by
        unfold unitV
        rw [h, if_pos (.inr (by omega))]
      have h1 : 86399999999 < v * u := (Nat.div_lt_iff_lt_mul hu).1 (by omega)
      have hn : cntR [u] (decDigits v) = none := by
        have q := num_padd [] [] v 1 (fun c hc => by cases hc) (.inl rfl) (by rw [padd_low]; exact hl)
        rw [List.nil_append, List.append_nil, padd_low] at q
        unfold cntR
        rw [cntL, q.1]
        by_cases c : (0 : Int) ≤ (v : Int) ∧ (v : Int) ≤ ((86400000000 / u : Nat) : Int)
        · rw [if_pos c, cntL]
          simp only [Int.toNat_natCast, Nat.zero_add]
          exact if_neg (by omega)
        · rw [if_neg c]
      rw [hn, e]
      rfl
end Tx
end Go.Proofs.YtmjifmlibgpjiaaGreatDoor
namespace Go.Proofs.YtmjifmlibgpjiaaGreatDoor
open Go.Lib Tx
namespace Tx
theorem same_of (R : List UInt8 → Option Nat) (f : Nat → List UInt8) (v : List UInt8 → Int) (r : Nat → Nat) (l : List UInt8)
    (le : ∀ c, R l = some c → c ≤ 86399999999) (rd : ∀ c, c ≤ 86399999999 → R (f c) = some (r c)) (fm : ∀ c, f (r c) = f c)
    (h1 : ∀ c, c ≤ 86399999999 → v (f c) = (r c : Int)) (h2 : 0 ≤ v l → ∃ c, c ≤ 86399999999 ∧ l = f c) :
    tmV (R l) f l = if v l < 0 then (0, 2) else (v l, 0) := by
  by_cases h : 0 ≤ v l
  · obtain ⟨c, hc, e⟩ := h2 h
    rw [if_neg (by omega)]
    rw [e, rd c hc, h1 c hc]
    unfold tmV
    exact if_pos (fm c).symm
  · rw [if_pos (by omega)]
    cases hR : R l with
    | none => rfl
    | some c =>
      unfold tmV
      refine if_neg fun e => h ?_
      rw [e, h1 c (le c hR)]
      exact Int.natCast_nonneg _
theorem dgt_add (m d : Nat) : dgt (m * 10 + d) = dgt d := by
  unfold dgt
  rw [show (m * 10 + d) % 10 = d % 10 by omega]
theorem digits_padd : ∀ (n : Nat) (l : List UInt8) (v : Nat), l.length = n + 1 → decFrom 0 l = some v → l = padd v (n + 1)
  | 0, l, v, hl, hv => by
    obtain ⟨x, rfl⟩ := List.length_eq_one_iff.1 hl
    have hs := decFrom_snocX [] 0 0 x rfl
    rw [List.nil_append, hv] at hs
    cases hx : digitVal x with
    | none => rw [hx] at hs; cases hs
    | some d =>
      rw [hx] at hs
      obtain ⟨ex, hd⟩ := digitVal_eq hx
      have e : v = 0 * 10 + d := by simpa using hs
      rw [e, padd_one (by omega), dgt_add, ex]
  | n + 1, l, v, hl, hv => by
    obtain ⟨l', x, rfl⟩ : ∃ l' x, l = l' ++ [x] := ⟨l.dropLast, l.getLast (by intro h; rw [h] at hl; cases hl), (List.dropLast_concat_getLast _).symm⟩
    obtain ⟨m, hm⟩ := decFrom_prefix _ 0 v hv l'.length
    rw [List.take_left] at hm
    have hs := decFrom_snocX l' 0 m x hm
    rw [hv] at hs
    cases hx : digitVal x with
    | none => rw [hx] at hs; cases hs
    | some d =>
      rw [hx] at hs
      obtain ⟨ex, hd⟩ := digitVal_eq hx
      have e : v = m * 10 + d := by simpa using hs
      have e2 := digits_padd n l' m (by simpa using hl) hm
      rw [e, padd_succ _ _ (by omega), show (m * 10 + d) / 10 = m by omega, ← e2, dgt_add, ex]
theorem digV_nat {l : List UInt8} (h : 0 ≤ digV l) : ∃ v : Nat, digV l = (v : Int) ∧ decFrom 0 l = some v := by
  rcases digV_cases l with q | ⟨v, q, _, hv⟩
  · omega
  · exact ⟨v, q, hv⟩
theorem digV_pd {v k : Nat} (h : (padd v k).length ≤ 12) : digV (padd v k) = (v : Int) := by
  unfold digV
  rw [if_neg (by rintro (q | q); exact padd_ne v k q; omega), decFrom_padd]
theorem digV_p2 {v : Nat} (h : v < 100) : digV (padd v 2) = (v : Int) := digV_pd (by rw [padd_wlen' h]; decide)
theorem digV_lt (l : List UInt8) : -1 ≤ digV l ∧ digV l < 10 ^ l.length := by
  rcases digV_cases l with q | ⟨v, q, _, hv⟩
  · rw [q]
    have h0 : 0 < 10 ^ l.length := Nat.pow_pos (by decide)
    have h3 : ((10 ^ l.length : Nat) : Int) = (10 : Int) ^ l.length := by simp
    exact ⟨by decide, by omega⟩
  · have := decFrom_lt l 0 v hv
    rw [q]
    refine ⟨by omega, ?_⟩
    have h2 : v < 10 ^ l.length := by omega
    have h3 : ((10 ^ l.length : Nat) : Int) = (10 : Int) ^ l.length := by simp
    omega
theorem eight {l : List UInt8} (h : l.length = 8) : ∃ a b c d e f g i, l = [a, b, c, d, e, f, g, i] := by
  match l, h with
  | [a, b, c, d, e, f, g, i], _ => exact ⟨a, b, c, d, e, f, g, i, rfl⟩
def hmsV (h m c : Int) : Int := if h < 0 ∨ 23 < h ∨ m < 0 ∨ 59 < m ∨ c < 0 ∨ 59 < c then -1 else 1000000 * (3600 * h + 60 * m + c)
def clockV (l : List UInt8) : Int := if l.length ≠ 8 ∨ l[2]? ≠ some 58 ∨ l[5]? ≠ some 58 then -1 else hmsV (digV (l.take 2)) (digV ((l.drop 3).take 2)) (digV (l.drop 6))
theorem clock_of (x y z : Nat) (hx : x < 24) (hy : y < 60) (hz : z < 60) : clockV (padd x 2 ++ (58 :: (padd y 2 ++ (58 :: padd z 2)))) = ((1000000 * (3600 * x + 60 * y + z) : Nat) : Int) := by
  have e1 := digV_p2 (v := x) (by omega)
  have e2 := digV_p2 (v := y) (by omega)
  have e3 := digV_p2 (v := z) (by omega)
  rw [padd_two (n := x) (by omega)] at e1 ⊢
  rw [padd_two (n := y) (by omega)] at e2 ⊢
  rw [padd_two (n := z) (by omega)] at e3 ⊢
  unfold clockV
  rw [if_neg (by simp)]
  show hmsV (digV [dgt (x / 10), dgt x]) (digV [dgt (y / 10), dgt y]) (digV [dgt (z / 10), dgt z]) = _
  rw [e1, e2, e3]
  unfold hmsV
  rw [if_neg (by omega)]
  omega
theorem clock_fmt (c : Nat) (hc : c ≤ 86399999999) : clockV (hmsL c) = ((c / 1000000 * 1000000 : Nat) : Int) := by
  rw [hmsL_eq, clock_of _ _ _ (by omega) (by unfold minF; omega) (by unfold secF; omega)]
  unfold minF secF
  omega
theorem clock_sound (l : List UInt8) (h : 0 ≤ clockV l) : ∃ c, c ≤ 86399999999 ∧ l = hmsL c := by
  unfold clockV at h
  split at h
  · omega
  · rename_i q
    simp only [not_or, ne_eq, Decidable.not_not] at q
    obtain ⟨hl, h2, h5⟩ := q
    obtain ⟨a, b, c0, d, e, f0, g, i, rfl⟩ := eight hl
    have g2 : c0 = 58 := by simpa using h2
    have g5 : f0 = 58 := by simpa using h5
    subst g2 g5
    unfold hmsV at h
    split at h
    · omega
    · rename_i q
      simp only [not_or, Int.not_lt] at q
      obtain ⟨q1, q2, q3, q4, q5, q6⟩ := q
      obtain ⟨x, hx, dx⟩ := digV_nat q1
      obtain ⟨y, hy, dy⟩ := digV_nat q3
      obtain ⟨z, hz, dz⟩ := digV_nat q5
      rw [hx] at q2
      rw [hy] at q4
      rw [hz] at q6
      have e1 : [a, b] = padd x 2 := digits_padd 1 [a, b] x rfl dx
      have e2 : [d, e] = padd y 2 := digits_padd 1 [d, e] y rfl dy
      have e3 : [g, i] = padd z 2 := digits_padd 1 [g, i] z rfl dz
      refine ⟨3600000000 * x + 60000000 * y + 1000000 * z, by omega, ?_⟩
      rw [hmsL_eq, show (3600000000 * x + 60000000 * y + 1000000 * z) / 3600000000 = x by omega, show minF (3600000000 * x + 60000000 * y + 1000000 * z) = y by unfold minF; omega, show secF (3600000000 * x + 60000000 * y + 1000000 * z) = z by unfold secF; omega, ← e1, ← e2, ← e3]
      rfl
theorem clock_same (l : List UInt8) : tmV (cntR [3600000000, 60000000, 1000000] l) (fun c => hmsL c) l = if clockV l < 0 then (0, 2) else (clockV l, 0) :=
  same_of (cntR [3600000000, 60000000, 1000000]) (fun c => hmsL c) clockV (fun c => c / 1000000 * 1000000) l (fun _ h => cntR_le h) (fun c hc => rN c hc) fN clock_fmt (clock_sound l)
def sumV (a b : Int) : Int := if a < 0 ∨ b < 0 then -1 else a + b
def longV (l : List UInt8) : Int := if l.length ≠ 15 ∨ l[8]? ≠ some 46 then -1 else sumV (clockV (l.take 8)) (digV (l.drop 9))
theorem hms_len8 (c : Nat) (hc : c ≤ 86399999999) : (hmsL c).length = 8 := by
  rw [hmsL_eq, List.length_append, List.length_cons, List.length_append, List.length_cons, padd_wlen' (by omega), padd_wlen' (by unfold minF; omega), padd_wlen' (by unfold secF; omega)]
theorem padd_len6 {n : Nat} (h : n < 1000000) : (padd n 6).length = 6 := by rw [padd_six h]; rfl
theorem long_fmt (c : Nat) (hc : c ≤ 86399999999) : longV (longT c) = (c : Int) := by
  have h8 := hms_len8 c hc
  have h6 := padd_len6 (n := c % 1000000) (by omega)
  have e : longT c = hmsL c ++ (46 :: padd (c % 1000000) 6) := by simp [longT]
  have e1 : (hmsL c ++ (46 :: padd (c % 1000000) 6)).take 8 = hmsL c := by rw [← h8, List.take_left]
  have e2 : (hmsL c ++ (46 :: padd (c % 1000000) 6)).drop 9 = padd (c % 1000000) 6 := by rw [show 9 = (hmsL c).length + 1 by omega, List.drop_append]; simp
  have e3 : (hmsL c ++ (46 :: padd (c % 1000000) 6))[8]? = some 46 := by rw [List.getElem?_append_right (by omega), h8]; rfl
  unfold longV
  rw [e, if_neg (by rw [e3, List.length_append, List.length_cons, h8, h6]; simp), e1, e2, clock_fmt c hc, digV_pd (by omega)]
  unfold sumV
  rw [if_neg (by omega)]
  omega
theorem long_sound (l : List UInt8) (h : 0 ≤ longV l) : ∃ c, c ≤ 86399999999 ∧ l = longT c := by
  unfold longV at h
  split at h
  · omega
  · rename_i q
    simp only [not_or, ne_eq, Decidable.not_not] at q
    obtain ⟨hl, h8⟩ := q
    unfold sumV at h
    split at h
    · omega
    · rename_i q
      simp only [not_or, Int.not_lt] at q
      obtain ⟨c0, hc0, e0⟩ := clock_sound _ q.1
      obtain ⟨z, hz, dz⟩ := digV_nat q.2
      have l6 : (l.drop 9).length = 6 := by rw [List.length_drop]; omega
      have hz6 : z < 1000000 := by
        have := decFrom_lt _ 0 z dz
        rw [l6] at this
        omega
      have e9 := digits_padd 5 _ z l6 dz
      have ed : l.drop 8 = 46 :: l.drop 9 := by
        obtain ⟨hh, e⟩ := List.getElem?_eq_some_iff.1 h8
        rw [List.drop_eq_getElem_cons hh, e]
      refine ⟨c0 / 1000000 * 1000000 + z, by omega, ?_⟩
      have ef : hmsL (c0 / 1000000 * 1000000 + z) = hmsL c0 := by rw [← fN, show (c0 / 1000000 * 1000000 + z) / 1000000 * 1000000 = c0 / 1000000 * 1000000 by omega, fN]
      unfold longT
      rw [ef, show (c0 / 1000000 * 1000000 + z) % 1000000 = z by omega, ← e9, ← e0, List.append_assoc, List.singleton_append, ← ed, List.take_append_drop]
theorem long_same (l : List UInt8) : tmV (cntR [3600000000, 60000000, 1000000, 1] l) (fun c => longT c) l = if longV l < 0 then (0, 2) else (longV l, 0) :=
  same_of (cntR [3600000000, 60000000, 1000000, 1]) (fun c => longT c) longV (fun c => c) l (fun _ h => cntR_le h) (fun c hc => rL c hc) (fun _ => rfl) long_fmt (long_sound l)
def halfT (h m : Int) (t : List UInt8) : Int := if h < 1 ∨ 12 < h ∨ m < 0 ∨ 59 < m then -1 else if t = [97, 109] then 60000000 * (60 * (h % 12) + m) else if t = [112, 109] then 60000000 * (60 * (h % 12 + 12) + m) else -1
def civK (k : Nat) (l : List UInt8) : Int := if l[k]? ≠ some 58 then -1 else halfT (plainV (l.take k) 2) (digV ((l.drop (k + 1)).take 2)) (l.drop (k + 3))
def civilV (l : List UInt8) : Int := if l.length = 6 then civK 1 l else if l.length = 7 then civK 2 l else -1
theorem plain_ddk {v k : Nat} (h : (decDigits v).length ≤ k) (h12 : k ≤ 12) : plainV (decDigits v) k = (v : Int) := by
  unfold plainV
  rw [if_neg]
  · unfold digV
    rw [if_neg (by rintro (q | q); exact dd_ne v q; omega), decFrom_dd]
  · rintro (q | ⟨q1, q2⟩)
    · omega
    · by_cases h10 : v < 10
      · rw [dd_small h10] at q1; simp at q1
      · exact dd_head v (by omega) q2
theorem half_of (g m : Nat) (hg : g < 24) (hm : m < 60) : halfT ((1 + (g + 11) % 12 : Nat) : Int) (m : Int) (if g < 12 then [97, 109] else [112, 109]) = ((3600000000 * g + 60000000 * m : Nat) : Int) := by
  unfold halfT
  rw [if_neg (by omega)]
  by_cases h : g < 12
  · rw [if_pos h, if_pos rfl]
    omega
  · rw [if_neg h, if_neg (by decide), if_pos rfl]
    omega
theorem civil_fmt (c : Nat) (hc : c ≤ 86399999999) : civilV (civL c) = ((c / 60000000 * 60000000 : Nat) : Int) := by
  have hg : hourF c < 24 := by unfold hourF; omega
  have hm : minF c < 60 := by unfold minF; omega
  have hH := half_of (hourF c) (minF c) hg hm
  have hx : (1 + (hourF c + 11) % 12) ≤ 12 := by omega
  have hr : 3600000000 * hourF c + 60000000 * minF c = c / 60000000 * 60000000 := by unfold hourF minF; omega
  rw [hr] at hH
  rw [civL_eq, padd_low]
  obtain ⟨ap, hap⟩ : ∃ ap : List UInt8, ap = if hourF c < 12 then [97, 109] else [112, 109] := ⟨_, rfl⟩
  have hap2 : ap.length = 2 := by rw [hap]; split <;> rfl
  rw [← hap] at hH ⊢
  obtain ⟨x, ex⟩ : ∃ x, x = 1 + (hourF c + 11) % 12 := ⟨_, rfl⟩
  rw [← ex] at hH hx ⊢
  have e2 := digV_p2 (v := minF c) (by omega)
  rw [padd_two (n := minF c) (by omega)] at e2 ⊢
  have hp := plain_ddk (v := x) (k := 2) (dd_len (k := 1) (by omega)) (by decide)
  by_cases h10 : x < 10
  · rw [dd_small h10] at hp ⊢
    unfold civilV
    rw [if_pos (by simp [hap2])]
    unfold civK
    rw [if_neg (by simp)]
    show halfT (plainV [dgt x] 2) (digV [dgt (minF c / 10), dgt (minF c)]) ap = _
    rw [hp, e2, hH]
  · rw [dd_big h10, dd_small (n := x / 10) (by omega)] at hp ⊢
    unfold civilV
    rw [if_neg (by simp [hap2]), if_pos (by simp [hap2])]
    unfold civK
    rw [if_neg (by simp)]
    show halfT (plainV [dgt (x / 10), dgt x] 2) (digV [dgt (minF c / 10), dgt (minF c)]) ap = _
    have hp2 : plainV [dgt (x / 10), dgt x] 2 = (x : Int) := hp
    rw [hp2, e2, hH]
theorem civK_sound (k : Nat) (l : List UInt8) (hl : l.length = k + 5) (h : 0 ≤ civK k l) : ∃ c, c ≤ 86399999999 ∧ l = civL c := by
  unfold civK at h
  split at h
  · omega
  · rename_i q
    have hk : l[k]? = some 58 := Decidable.not_not.1 q
    obtain ⟨hh, ek⟩ := List.getElem?_eq_some_iff.1 hk
    have el : l = l.take k ++ (58 :: ((l.drop (k + 1)).take 2 ++ l.drop (k + 3))) := by
      have e1 : l.drop k = 58 :: l.drop (k + 1) := by rw [List.drop_eq_getElem_cons hh, ek]
      have e2 : (l.drop (k + 1)).take 2 ++ l.drop (k + 3) = l.drop (k + 1) := by have e := List.take_append_drop 2 (l.drop (k + 1)); rw [List.drop_drop] at e; exact e
      rw [e2, ← e1, List.take_append_drop]
    obtain ⟨p, hp⟩ : ∃ p, p = l.take k := ⟨_, rfl⟩
    obtain ⟨r, hr⟩ : ∃ r, r = (l.drop (k + 1)).take 2 := ⟨_, rfl⟩
    obtain ⟨t, ht⟩ : ∃ t, t = l.drop (k + 3) := ⟨_, rfl⟩
    have lr : r.length = 2 := by rw [hr, List.length_take, List.length_drop]; omega
    rw [← hp, ← hr, ← ht] at h el
    unfold halfT at h
    split at h
    · omega
    · rename_i q
      simp only [not_or, Int.not_lt] at q
      obtain ⟨q1, q2, q3, q4⟩ := q
      obtain ⟨y, hy, dy⟩ := digV_nat q3
      have ey := digits_padd 1 r y lr dy
      rw [hy] at q4
      rcases plain_cases p 2 with hx | ⟨x, hx, ex, _⟩
      · omega
      · rw [hx] at q1 q2
        have main : ∀ g : Nat, g < 24 → 1 + (g + 11) % 12 = x → t = (if g < 12 then [97, 109] else [112, 109]) → ∃ c, c ≤ 86399999999 ∧ l = civL c := by
          intro g hg hgx hgt
          refine ⟨3600000000 * g + 60000000 * y, by omega, ?_⟩
          rw [civL_eq, show hourF (3600000000 * g + 60000000 * y) = g by unfold hourF; omega, show minF (3600000000 * g + 60000000 * y) = y by unfold minF; omega, hgx, padd_low, ← ex, ← ey, ← hgt, ← el]
        split at h
        · rename_i e
          exact main (x % 12) (by omega) (by omega) (by rw [if_pos (by omega)]; exact e)
        · split at h
          · rename_i e
            exact main (x % 12 + 12) (by omega) (by omega) (by rw [if_neg (by omega)]; exact e)
          · omega
theorem civil_sound (l : List UInt8) (h : 0 ≤ civilV l) : ∃ c, c ≤ 86399999999 ∧ l = civL c := by
  unfold civilV at h
  split at h
  · rename_i q; exact civK_sound 1 l q h
  · split at h
    · rename_i q; exact civK_sound 2 l q h
    · omega
theorem civil_same (l : List UInt8) : tmV (civR l) (fun c => civL c) l = if civilV l < 0 then (0, 2) else (civilV l, 0) :=
  same_of civR (fun c => civL c) civilV (fun c => c / 60000000 * 60000000) l (fun _ h => civR_le h) (fun c hc => rC c hc) fC civil_fmt (civil_sound l)
end Tx
end Go.Proofs.YtmjifmlibgpjiaaGreatDoor
namespace Go.Proofs.YtmjifmlibgpjiaaGreatDoor
open Go.RowKit Go.Shelf Tx
set_option linter.unusedVariables false
set_option maxRecDepth 100000

/-- A function gives a number, and the world as it was. -/
def GivesI (w : World) (v : Int) (e : Ending) (w' : World) : Prop := e = .returned (.int .i64 v) ∧ w = w'
theorem rdig (s : ByteArray) (w : World) (h : s.size ≤ 12) : Calls Tryz.prog 70 #[.string s] w (GivesI w (digV (bts s))) := rdigits_short s w h
set_option maxHeartbeats 1000000 in
theorem Rplain_any (s : ByteArray) (k : Nat) (w : World) (hk : k ≤ 12) : Calls Tryz.prog 66 #[.string s, .int .i64 (k : Int)] w (GivesI w (plainV (bts s) k)) := by
  by_cases h1 : k < s.size
  · have c1 : (k : Int) < (s.size : Int) := by omega
    have HR := Lib.hid (show plainV (bts s) k = -1 by unfold plainV; rw [if_pos (.inl (by rw [bts_length]; exact h1))])
    clear h1 hk
    go_enter Tryz.func66, Tryz.ntmps66
    go_wp2
    go_ret
    exact ⟨by rw [HR.out]; first | rfl | (simp; done) | simp [*], rfl⟩
  · have c1 : ¬ (k : Int) < (s.size : Int) := by omega
    have KD := fun W => Lib.hid (rdig s W (by omega))
    by_cases h2 : 1 < s.size
    · have c2 : (1 : Int) < (s.size : Int) := by omega
      have c0 : 0 < s.size := by omega
      obtain ⟨x, hx⟩ : ∃ x : UInt8, s[0]'c0 = x := ⟨_, rfl⟩
      have hxl : (bts s).head? = some x := by rw [List.head?_eq_getElem?, bts_get s c0, hx]
      by_cases h48 : x = 48
      · have HR := Lib.hid (show plainV (bts s) k = -1 by unfold plainV; rw [if_pos (.inr ⟨by rw [bts_length]; exact h2, by rw [hxl, h48]⟩)])
        have c3 : ((x.toNat : Int) == 48) = true := by rw [h48]; rfl
        clear h1 hk hxl h48 h2
        go_enter Tryz.func66, Tryz.ntmps66
        go_wp2
        go_ret
        exact ⟨by rw [HR.out]; first | rfl | (simp; done) | simp [*], rfl⟩
      · have HR := Lib.hid (show plainV (bts s) k = digV (bts s) by
          unfold plainV
          rw [if_neg]
          rintro (q | ⟨_, q⟩)
          · rw [bts_length] at q; exact h1 q
          · rw [hxl] at q; exact h48 (Option.some.inj q))
        have c3 : ((x.toNat : Int) == 48) = false := by
          rw [beq_eq_false_iff_ne]
          intro q
          exact h48 (UInt8.toNat_inj.1 (by rw [show (48 : UInt8).toNat = 48 from rfl]; omega))
        clear h1 hk hxl h48 h2
        go_enter Tryz.func66, Tryz.ntmps66
        go_wp2_with (go_at_call 70; refine Calls.mono (KD _).out ?_; rintro e w1 ⟨rfl, rfl⟩)
        go_ret
        exact ⟨by rw [HR.out]; first | rfl | (simp; done) | simp [*], rfl⟩
    · have c2 : ¬ (1 : Int) < (s.size : Int) := by omega
      have HR := Lib.hid (show plainV (bts s) k = digV (bts s) by
        unfold plainV
        rw [if_neg]
        rintro (q | ⟨q, _⟩)
        · rw [bts_length] at q; exact h1 q
        · rw [bts_length] at q; exact h2 q)
      clear h1 hk h2
      go_enter Tryz.func66, Tryz.ntmps66
      go_wp2_with (go_at_call 70; refine Calls.mono (KD _).out ?_; rintro e w1 ⟨rfl, rfl⟩)
      go_ret
      exact ⟨by rw [HR.out]; first | rfl | (simp; done) | simp [*], rfl⟩
theorem plain_lo (l : List UInt8) (k : Nat) : -1 ≤ plainV l k := by
  rcases plain_cases l k with h | ⟨v, h, _⟩ <;> omega
theorem plain_hi (l : List UInt8) : plainV l 11 ≤ 99999999999 := by
  rcases plain_cases l 11 with h | ⟨v, h, e, hl⟩
  · omega
  · have := Lib.decFrom_lt (Lib.decDigits v) 0 v (decFrom_dd v)
    rw [← e] at this
    have h2 : (10 : Nat) ^ l.length ≤ 10 ^ 11 := Nat.pow_le_pow_right (by decide) hl
    omega
set_option maxHeartbeats 1000000 in
theorem Runit_1 (s : ByteArray) (w : World) : Calls Tryz.prog 76 #[.string s, .int .i64 1] w (GivesI w (unitV (bts s) 1)) := by
  have KP := fun W => Lib.hid (Rplain_any s 11 W (by decide))
  have hlo := plain_lo (bts s) 11
  have hhi := plain_hi (bts s)
  have HU := Lib.hid (show unitV (bts s) 1 = if plainV (bts s) 11 < 0 ∨ (86399999999 : Int) < plainV (bts s) 11 then -1 else plainV (bts s) 11 * 1 from rfl)
  obtain ⟨p, hp⟩ : ∃ p, p = plainV (bts s) 11 := ⟨_, rfl⟩
  rw [← hp] at hlo hhi HU KP
  obtain ⟨v, hv⟩ : ∃ v, v = unitV (bts s) 1 := ⟨_, rfl⟩
  rw [← hv] at HU ⊢
  clear hp hv
  rcases Int.lt_or_le p 0 with c1 | c1
  · have HR := Lib.hid (show v = -1 by rw [HU.out, if_pos (.inl c1)])
    clear hlo hhi HU
    go_enter Tryz.func76, Tryz.ntmps76
    go_wp2_with (go_at_call 66; refine Calls.mono (KP _).out ?_; rintro e w1 ⟨rfl, rfl⟩)
    go_ret
    exact ⟨by rw [HR.out]; first | rfl | (simp; done) | simp [*], rfl⟩
  · have c2 : ¬ p < 0 := by omega
    rcases Int.lt_or_le 86399999999 p with c3 | c3
    · have HR := Lib.hid (show v = -1 by rw [HU.out, if_pos (.inr c3)])
      clear hlo hhi HU c1
      go_enter Tryz.func76, Tryz.ntmps76
      go_wp2_with (go_at_call 66; refine Calls.mono (KP _).out ?_; rintro e w1 ⟨rfl, rfl⟩)
      go_ret
      exact ⟨by rw [HR.out]; first | rfl | (simp; done) | simp [*], rfl⟩
    · have c4 : ¬ (86399999999 : Int) < p := by omega
      have HR := Lib.hid (show v = p * 1 by rw [HU.out, if_neg (by omega)])
      have f1 : IntKind.i64.wrap (p * 1) = p * 1 := i64i' (by omega) (by omega)
      have f2 : wrap64 (p * 1) = p * 1 := w64 (by omega) (by omega)
      clear hlo hhi HU c1 c3
      go_enter Tryz.func76, Tryz.ntmps76
      go_wp2_with (go_at_call 66; refine Calls.mono (KP _).out ?_; rintro e w1 ⟨rfl, rfl⟩)
      go_ret
      exact ⟨by rw [HR.out]; first | rfl | (simp; done) | simp [*], rfl⟩
set_option maxHeartbeats 1000000 in
theorem Runit_1000000 (s : ByteArray) (w : World) : Calls Tryz.prog 76 #[.string s, .int .i64 1000000] w (GivesI w (unitV (bts s) 1000000)) := by
  have KP := fun W => Lib.hid (Rplain_any s 11 W (by decide))
  have hlo := plain_lo (bts s) 11
  have hhi := plain_hi (bts s)
  have HU := Lib.hid (show unitV (bts s) 1000000 = if plainV (bts s) 11 < 0 ∨ (86399 : Int) < plainV (bts s) 11 then -1 else plainV (bts s) 11 * 1000000 from rfl)
  obtain ⟨p, hp⟩ : ∃ p, p = plainV (bts s) 11 := ⟨_, rfl⟩
  rw [← hp] at hlo hhi HU KP
  obtain ⟨v, hv⟩ : ∃ v, v = unitV (bts s) 1000000 := ⟨_, rfl⟩
  rw [← hv] at HU ⊢
  clear hp hv
  rcases Int.lt_or_le p 0 with c1 | c1
  · have HR := Lib.hid (show v = -1 by rw [HU.out, if_pos (.inl c1)])
    clear hlo hhi HU
    go_enter Tryz.func76, Tryz.ntmps76
    go_wp2_with (go_at_call 66; refine Calls.mono (KP _).out ?_; rintro e w1 ⟨rfl, rfl⟩)
    go_ret
    exact ⟨by rw [HR.out]; first | rfl | (simp; done) | simp [*], rfl⟩
  · have c2 : ¬ p < 0 := by omega
    rcases Int.lt_or_le 86399 p with c3 | c3
    · have HR := Lib.hid (show v = -1 by rw [HU.out, if_pos (.inr c3)])
      clear hlo hhi HU c1
      go_enter Tryz.func76, Tryz.ntmps76
      go_wp2_with (go_at_call 66; refine Calls.mono (KP _).out ?_; rintro e w1 ⟨rfl, rfl⟩)
      go_ret
      exact ⟨by rw [HR.out]; first | rfl | (simp; done) | simp [*], rfl⟩
    · have c4 : ¬ (86399 : Int) < p := by omega
      have HR := Lib.hid (show v = p * 1000000 by rw [HU.out, if_neg (by omega)])
      have f1 : IntKind.i64.wrap (p * 1000000) = p * 1000000 := i64i' (by omega) (by omega)
      have f2 : wrap64 (p * 1000000) = p * 1000000 := w64 (by omega) (by omega)
      clear hlo hhi HU c1 c3
      go_enter Tryz.func76, Tryz.ntmps76
      go_wp2_with (go_at_call 66; refine Calls.mono (KP _).out ?_; rintro e w1 ⟨rfl, rfl⟩)
      go_ret
      exact ⟨by rw [HR.out]; first | rfl | (simp; done) | simp [*], rfl⟩
set_option maxHeartbeats 1000000 in
theorem Runit_60000000 (s : ByteArray) (w : World) : Calls Tryz.prog 76 #[.string s, .int .i64 60000000] w (GivesI w (unitV (bts s) 60000000)) := by
  have KP := fun W => Lib.hid (Rplain_any s 11 W (by decide))
  have hlo := plain_lo (bts s) 11
  have hhi := plain_hi (bts s)
  have HU := Lib.hid (show unitV (bts s) 60000000 = if plainV (bts s) 11 < 0 ∨ (1439 : Int) < plainV (bts s) 11 then -1 else plainV (bts s) 11 * 60000000 from rfl)
  obtain ⟨p, hp⟩ : ∃ p, p = plainV (bts s) 11 := ⟨_, rfl⟩
  rw [← hp] at hlo hhi HU KP
  obtain ⟨v, hv⟩ : ∃ v, v = unitV (bts s) 60000000 := ⟨_, rfl⟩
  rw [← hv] at HU ⊢
  clear hp hv
  rcases Int.lt_or_le p 0 with c1 | c1
  · have HR := Lib.hid (show v = -1 by rw [HU.out, if_pos (.inl c1)])
    clear hlo hhi HU
    go_enter Tryz.func76, Tryz.ntmps76
    go_wp2_with (go_at_call 66; refine Calls.mono (KP _).out ?_; rintro e w1 ⟨rfl, rfl⟩)
    go_ret
    exact ⟨by rw [HR.out]; first | rfl | (simp; done) | simp [*], rfl⟩
  · have c2 : ¬ p < 0 := by omega
    rcases Int.lt_or_le 1439 p with c3 | c3
    · have HR := Lib.hid (show v = -1 by rw [HU.out, if_pos (.inr c3)])
      clear hlo hhi HU c1
      go_enter Tryz.func76, Tryz.ntmps76
      go_wp2_with (go_at_call 66; refine Calls.mono (KP _).out ?_; rintro e w1 ⟨rfl, rfl⟩)
      go_ret
      exact ⟨by rw [HR.out]; first | rfl | (simp; done) | simp [*], rfl⟩
    · have c4 : ¬ (1439 : Int) < p := by omega
      have HR := Lib.hid (show v = p * 60000000 by rw [HU.out, if_neg (by omega)])
      have f1 : IntKind.i64.wrap (p * 60000000) = p * 60000000 := i64i' (by omega) (by omega)
      have f2 : wrap64 (p * 60000000) = p * 60000000 := w64 (by omega) (by omega)
      clear hlo hhi HU c1 c3
      go_enter Tryz.func76, Tryz.ntmps76
      go_wp2_with (go_at_call 66; refine Calls.mono (KP _).out ?_; rintro e w1 ⟨rfl, rfl⟩)
      go_ret
      exact ⟨by rw [HR.out]; first | rfl | (simp; done) | simp [*], rfl⟩
set_option maxHeartbeats 1000000 in
theorem Runit_3600000000 (s : ByteArray) (w : World) : Calls Tryz.prog 76 #[.string s, .int .i64 3600000000] w (GivesI w (unitV (bts s) 3600000000)) := by
  have KP := fun W => Lib.hid (Rplain_any s 11 W (by decide))
  have hlo := plain_lo (bts s) 11
  have hhi := plain_hi (bts s)
  have HU := Lib.hid (show unitV (bts s) 3600000000 = if plainV (bts s) 11 < 0 ∨ (23 : Int) < plainV (bts s) 11 then -1 else plainV (bts s) 11 * 3600000000 from rfl)
  obtain ⟨p, hp⟩ : ∃ p, p = plainV (bts s) 11 := ⟨_, rfl⟩
  rw [← hp] at hlo hhi HU KP
  obtain ⟨v, hv⟩ : ∃ v, v = unitV (bts s) 3600000000 := ⟨_, rfl⟩
  rw [← hv] at HU ⊢
  clear hp hv
  rcases Int.lt_or_le p 0 with c1 | c1
  · have HR := Lib.hid (show v = -1 by rw [HU.out, if_pos (.inl c1)])
    clear hlo hhi HU
    go_enter Tryz.func76, Tryz.ntmps76
    go_wp2_with (go_at_call 66; refine Calls.mono (KP _).out ?_; rintro e w1 ⟨rfl, rfl⟩)
    go_ret
    exact ⟨by rw [HR.out]; first | rfl | (simp; done) | simp [*], rfl⟩
  · have c2 : ¬ p < 0 := by omega
    rcases Int.lt_or_le 23 p with c3 | c3
    · have HR := Lib.hid (show v = -1 by rw [HU.out, if_pos (.inr c3)])
      clear hlo hhi HU c1
      go_enter Tryz.func76, Tryz.ntmps76
      go_wp2_with (go_at_call 66; refine Calls.mono (KP _).out ?_; rintro e w1 ⟨rfl, rfl⟩)
      go_ret
      exact ⟨by rw [HR.out]; first | rfl | (simp; done) | simp [*], rfl⟩
    · have c4 : ¬ (23 : Int) < p := by omega
      have HR := Lib.hid (show v = p * 3600000000 by rw [HU.out, if_neg (by omega)])
      have f1 : IntKind.i64.wrap (p * 3600000000) = p * 3600000000 := i64i' (by omega) (by omega)
      have f2 : wrap64 (p * 3600000000) = p * 3600000000 := w64 (by omega) (by omega)
      clear hlo hhi HU c1 c3
      go_enter Tryz.func76, Tryz.ntmps76
      go_wp2_with (go_at_call 66; refine Calls.mono (KP _).out ?_; rintro e w1 ⟨rfl, rfl⟩)
      go_ret
      exact ⟨by rw [HR.out]; first | rfl | (simp; done) | simp [*], rfl⟩
theorem ext_take (s : ByteArray) (k : Nat) : bts (s.extract 0 k) = (bts s).take k := by rw [bts_extract]; simp
theorem ext_mid (s : ByteArray) (a b k : Nat) (h : k = b - a) : bts (s.extract a b) = ((bts s).drop a).take k := by rw [bts_extract, h]
theorem ext_drop (s : ByteArray) (a : Nat) : bts (s.extract a s.size) = (bts s).drop a := by rw [bts_extract, List.take_of_length_le (by rw [List.length_drop, bts_length]; omega)]
theorem ext_dropN (s : ByteArray) (a n : Nat) (h : s.size = n) : bts (s.extract a n) = (bts s).drop a := by rw [← h]; exact ext_drop s a
theorem ext_size (s : ByteArray) (a b : Nat) : (s.extract a b).size ≤ b - a := by rw [← bts_length, bts_extract, List.length_take]; omega
theorem digV_hi2 (l : List UInt8) (h : l.length ≤ 2) : digV l ≤ 99 := by
  have h1 := (digV_lt l).2
  have h2 : (10 : Nat) ^ l.length ≤ 10 ^ 2 := Nat.pow_le_pow_right (by decide) h
  have h3 : ((10 ^ l.length : Nat) : Int) = (10 : Int) ^ l.length := by simp
  omega
theorem digV_hi6 (l : List UInt8) (h : l.length ≤ 6) : digV l ≤ 999999 := by
  have h1 := (digV_lt l).2
  have h2 : (10 : Nat) ^ l.length ≤ 10 ^ 6 := Nat.pow_le_pow_right (by decide) h
  have h3 : ((10 ^ l.length : Nat) : Int) = (10 : Int) ^ l.length := by simp
  omega
end Go.Proofs.YtmjifmlibgpjiaaGreatDoor
namespace Go.Proofs.YtmjifmlibgpjiaaGreatDoor
open Go.RowKit Go.Shelf Tx
set_option linter.unusedVariables false
set_option maxRecDepth 100000

theorem clock_range (l : List UInt8) : -1 ≤ clockV l ∧ clockV l ≤ 86399000000 := by
  unfold clockV
  split
  · omega
  · unfold hmsV
    split
    · omega
    · omega
set_option maxHeartbeats 2000000 in
theorem Rclock_any (s : ByteArray) (w : World) : Calls Tryz.prog 78 #[.string s] w (GivesI w (clockV (bts s))) := by
  by_cases h8 : s.size = 8
  · have c8 : ((s.size : Int) != 8) = false := by rw [h8]; rfl
    have d8 : (s.size : Int) = 8 := by omega
    obtain ⟨x, hx⟩ : ∃ x : UInt8, s[2]'(by omega) = x := ⟨_, rfl⟩
    have lx : (bts s)[2]? = some x := by rw [bts_get s (by omega), hx]
    obtain ⟨y, hy⟩ : ∃ x : UInt8, s[5]'(by omega) = x := ⟨_, rfl⟩
    have ly : (bts s)[5]? = some y := by rw [bts_get s (by omega), hy]
    by_cases ex : x = 58
    · have qx : ((x.toNat : Int) != 58) = false := by rw [ex]; rfl
      by_cases ey : y = 58
      · have qy : ((y.toNat : Int) != 58) = false := by rw [ey]; rfl
        have KH := fun W => Lib.hid (show Calls Tryz.prog 70 #[.string (s.extract 0 2)] W (GivesI W (digV ((bts s).take 2))) from by rw [← ext_take]; exact rdig _ W (Nat.le_trans (ext_size s 0 2) (by decide)))
        have KM := fun W => Lib.hid (show Calls Tryz.prog 70 #[.string (s.extract 3 5)] W (GivesI W (digV (((bts s).drop 3).take 2))) from by rw [← ext_mid s 3 5 2 rfl]; exact rdig _ W (Nat.le_trans (ext_size s 3 5) (by decide)))
        have KC := fun W => Lib.hid (show Calls Tryz.prog 70 #[.string (s.extract 6 8)] W (GivesI W (digV ((bts s).drop 6))) from by rw [← ext_dropN s 6 8 h8]; exact rdig _ W (Nat.le_trans (ext_size s 6 8) (by decide)))
        have hH := (digV_lt ((bts s).take 2)).1
        have hH9 := digV_hi2 ((bts s).take 2) (by rw [List.length_take]; omega)
        have hM := (digV_lt (((bts s).drop 3).take 2)).1
        have hM9 := digV_hi2 (((bts s).drop 3).take 2) (by rw [List.length_take]; omega)
        have hC := (digV_lt ((bts s).drop 6)).1
        have hC9 := digV_hi2 ((bts s).drop 6) (by rw [List.length_drop, bts_length]; omega)
        have HU := Lib.hid (show clockV (bts s) = hmsV (digV ((bts s).take 2)) (digV (((bts s).drop 3).take 2)) (digV ((bts s).drop 6)) by
          unfold clockV
          rw [if_neg (by rw [bts_length, lx, ly, ex, ey]; simp [h8])])
        obtain ⟨H, eH⟩ : ∃ H, H = digV ((bts s).take 2) := ⟨_, rfl⟩
        obtain ⟨M, eM⟩ : ∃ H, H = digV (((bts s).drop 3).take 2) := ⟨_, rfl⟩
        obtain ⟨C, eC⟩ : ∃ H, H = digV ((bts s).drop 6) := ⟨_, rfl⟩
        rw [← eH] at hH hH9 HU KH
        rw [← eM] at hM hM9 HU KM
        rw [← eC] at hC hC9 HU KC
        rw [HU.out]
        have P : (H < 0 ∨ 23 < H ∨ M < 0 ∨ 59 < M ∨ C < 0 ∨ 59 < C) ∨ ¬ (H < 0 ∨ 23 < H ∨ M < 0 ∨ 59 < M ∨ C < 0 ∨ 59 < C) := Decidable.em _
        clear HU eH eM eC lx ly
        rcases P with P | P
        · have HR := Lib.hid (show hmsV H M C = -1 by unfold hmsV; rw [if_pos P])
          have Q : H < 0 ∨ (¬ H < 0 ∧ 23 < H) ∨ (¬ H < 0 ∧ ¬ 23 < H ∧ M < 0) ∨ (¬ H < 0 ∧ ¬ 23 < H ∧ ¬ M < 0 ∧ 59 < M) ∨ (¬ H < 0 ∧ ¬ 23 < H ∧ ¬ M < 0 ∧ ¬ 59 < M ∧ C < 0) ∨ (¬ H < 0 ∧ ¬ 23 < H ∧ ¬ M < 0 ∧ ¬ 59 < M ∧ ¬ C < 0 ∧ 59 < C) := by omega
          clear P hH hH9 hM hM9 hC hC9
          rcases Q with Q | ⟨_, Q⟩ | ⟨_, _, Q⟩ | ⟨_, _, _, Q⟩ | ⟨_, _, _, _, Q⟩ | ⟨_, _, _, _, _, Q⟩
          all_goals
            go_enter Tryz.func78, Tryz.ntmps78
            go_wp2_with (go_at_call 70; first | (refine Calls.mono (KH _).out ?_; clear KH; rintro e w1 ⟨rfl, rfl⟩) | (refine Calls.mono (KM _).out ?_; clear KM; rintro e w2 ⟨rfl, rfl⟩) | (refine Calls.mono (KC _).out ?_; clear KC; rintro e w3 ⟨rfl, rfl⟩))
            go_ret
            exact ⟨by rw [HR.out]; first | rfl | (simp; done) | simp [*], rfl⟩
        · have HR := Lib.hid (show hmsV H M C = 1000000 * (3600 * H + 60 * M + C) by unfold hmsV; rw [if_neg P])
          simp only [not_or] at P
          obtain ⟨p1, p2, p3, p4, p5, p6⟩ := P
          have f1 : IntKind.i64.wrap (3600 * H) = 3600 * H := i64i' (by omega) (by omega)
          have f2 : IntKind.i64.wrap (60 * M) = 60 * M := i64i' (by omega) (by omega)
          have f3 : IntKind.i64.wrap (3600 * H + 60 * M) = 3600 * H + 60 * M := i64i' (by omega) (by omega)
          have f4 : IntKind.i64.wrap (3600 * H + 60 * M + C) = 3600 * H + 60 * M + C := i64i' (by omega) (by omega)
          have f5 : IntKind.i64.wrap (1000000 * (3600 * H + 60 * M + C)) = 1000000 * (3600 * H + 60 * M + C) := i64i' (by omega) (by omega)
          have g1 : wrap64 (3600 * H) = 3600 * H := w64 (by omega) (by omega)
          have g2 : wrap64 (60 * M) = 60 * M := w64 (by omega) (by omega)
          have g3 : wrap64 (3600 * H + 60 * M) = 3600 * H + 60 * M := w64 (by omega) (by omega)
          have g4 : wrap64 (3600 * H + 60 * M + C) = 3600 * H + 60 * M + C := w64 (by omega) (by omega)
          have g5 : wrap64 (1000000 * (3600 * H + 60 * M + C)) = 1000000 * (3600 * H + 60 * M + C) := w64 (by omega) (by omega)
          clear hH hH9 hM hM9 hC hC9
          go_enter Tryz.func78, Tryz.ntmps78
          go_wp2_with (go_at_call 70; first | (refine Calls.mono (KH _).out ?_; clear KH; rintro e w1 ⟨rfl, rfl⟩) | (refine Calls.mono (KM _).out ?_; clear KM; rintro e w2 ⟨rfl, rfl⟩) | (refine Calls.mono (KC _).out ?_; clear KC; rintro e w3 ⟨rfl, rfl⟩))
          go_ret
          exact ⟨by rw [HR.out]; first | rfl | (simp; done) | simp [*], rfl⟩
      · have qy : ((y.toNat : Int) != 58) = true := by rw [bne_iff_ne]; intro q; exact ey (UInt8.toNat_inj.1 (by rw [show (58 : UInt8).toNat = 58 from rfl]; omega))
        have HR := Lib.hid (show clockV (bts s) = -1 by unfold clockV; rw [if_pos (.inr (.inr (by rw [ly]; exact fun q => ey (Option.some.inj q))))])
        clear lx ly ex ey
        go_enter Tryz.func78, Tryz.ntmps78
        go_wp2
        go_ret
        exact ⟨by rw [HR.out]; first | rfl | (simp; done) | simp [*], rfl⟩
    · have qx : ((x.toNat : Int) != 58) = true := by rw [bne_iff_ne]; intro q; exact ex (UInt8.toNat_inj.1 (by rw [show (58 : UInt8).toNat = 58 from rfl]; omega))
      have HR := Lib.hid (show clockV (bts s) = -1 by unfold clockV; rw [if_pos (.inr (.inl (by rw [lx]; exact fun q => ex (Option.some.inj q))))])
      clear lx ly ex
      go_enter Tryz.func78, Tryz.ntmps78
      go_wp2
      go_ret
      exact ⟨by rw [HR.out]; first | rfl | (simp; done) | simp [*], rfl⟩
  · have c8 : ((s.size : Int) != 8) = true := bne_iff_ne.2 (by omega)
    have HR := Lib.hid (show clockV (bts s) = -1 by unfold clockV; rw [if_pos (.inl (by rw [bts_length]; exact h8))])
    clear h8
    go_enter Tryz.func78, Tryz.ntmps78
    go_wp2
    go_ret
    exact ⟨by rw [HR.out]; first | rfl | (simp; done) | simp [*], rfl⟩
set_option maxHeartbeats 1000000 in
theorem Rlong_any (s : ByteArray) (w : World) : Calls Tryz.prog 77 #[.string s] w (GivesI w (longV (bts s))) := by
  by_cases h15 : s.size = 15
  · have c8 : ((s.size : Int) != 15) = false := by rw [h15]; rfl
    have d8 : (s.size : Int) = 15 := by omega
    obtain ⟨x, hx⟩ : ∃ x : UInt8, s[8]'(by omega) = x := ⟨_, rfl⟩
    have lx : (bts s)[8]? = some x := by rw [bts_get s (by omega), hx]
    by_cases ex : x = 46
    · have qx : ((x.toNat : Int) != 46) = false := by rw [ex]; rfl
      have KH := fun W => Lib.hid (show Calls Tryz.prog 78 #[.string (s.extract 0 8)] W (GivesI W (clockV ((bts s).take 8))) from by rw [← ext_take]; exact Rclock_any _ W)
      have KC := fun W => Lib.hid (show Calls Tryz.prog 70 #[.string (s.extract 9 15)] W (GivesI W (digV ((bts s).drop 9))) from by rw [← ext_dropN s 9 15 h15]; exact rdig _ W (Nat.le_trans (ext_size s 9 15) (by decide)))
      have hC := (digV_lt ((bts s).drop 9)).1
      have hC9 := digV_hi6 ((bts s).drop 9) (by rw [List.length_drop, bts_length]; omega)
      have hH := clock_range ((bts s).take 8)
      have HU := Lib.hid (show longV (bts s) = sumV (clockV ((bts s).take 8)) (digV ((bts s).drop 9)) by
        unfold longV
        rw [if_neg (by rw [bts_length, lx, ex]; simp [h15])])
      obtain ⟨H, eH⟩ : ∃ H, H = clockV ((bts s).take 8) := ⟨_, rfl⟩
      obtain ⟨C, eC⟩ : ∃ H, H = digV ((bts s).drop 9) := ⟨_, rfl⟩
      rw [← eH] at hH HU KH
      rw [← eC] at hC hC9 HU KC
      rw [HU.out]
      clear HU eH eC lx
      rcases Int.lt_or_le H 0 with p1 | p1
      · have HR := Lib.hid (show sumV H C = -1 by unfold sumV; rw [if_pos (.inl p1)])
        clear hH hC hC9
        go_enter Tryz.func77, Tryz.ntmps77
        go_wp2_with (first
          | (go_at_call 78; refine Calls.mono (KH _).out ?_; rintro e w1 ⟨rfl, rfl⟩)
          | (go_at_call 70; refine Calls.mono (KC _).out ?_; rintro e w2 ⟨rfl, rfl⟩))
        go_ret
        exact ⟨by rw [HR.out]; first | rfl | (simp; done) | simp [*], rfl⟩
      · have p2 : ¬ H < 0 := by omega
        rcases Int.lt_or_le C 0 with p3 | p3
        · have HR := Lib.hid (show sumV H C = -1 by unfold sumV; rw [if_pos (.inr p3)])
          clear hH hC hC9 p1
          go_enter Tryz.func77, Tryz.ntmps77
          go_wp2_with (first
            | (go_at_call 78; refine Calls.mono (KH _).out ?_; rintro e w1 ⟨rfl, rfl⟩)
            | (go_at_call 70; refine Calls.mono (KC _).out ?_; rintro e w2 ⟨rfl, rfl⟩))
          go_ret
          exact ⟨by rw [HR.out]; first | rfl | (simp; done) | simp [*], rfl⟩
        · have p4 : ¬ C < 0 := by omega
          have HR := Lib.hid (show sumV H C = H + C by unfold sumV; rw [if_neg (by omega)])
          have f1 : IntKind.i64.wrap (H + C) = H + C := i64i' (by omega) (by omega)
          have f2 : wrap64 (H + C) = H + C := w64 (by omega) (by omega)
          clear hH hC hC9 p1 p3
          go_enter Tryz.func77, Tryz.ntmps77
          go_wp2_with (first
            | (go_at_call 78; refine Calls.mono (KH _).out ?_; rintro e w1 ⟨rfl, rfl⟩)
            | (go_at_call 70; refine Calls.mono (KC _).out ?_; rintro e w2 ⟨rfl, rfl⟩))
          go_ret
          exact ⟨by rw [HR.out]; first | rfl | (simp; done) | simp [*], rfl⟩
    · have qx : ((x.toNat : Int) != 46) = true := by rw [bne_iff_ne]; intro q; exact ex (UInt8.toNat_inj.1 (by rw [show (46 : UInt8).toNat = 46 from rfl]; omega))
      have HR := Lib.hid (show longV (bts s) = -1 by unfold longV; rw [if_pos (.inr (by rw [lx]; exact fun q => ex (Option.some.inj q)))])
      clear lx ex
      go_enter Tryz.func77, Tryz.ntmps77
      go_wp2
      go_ret
      exact ⟨by rw [HR.out]; first | rfl | (simp; done) | simp [*], rfl⟩
  · have c8 : ((s.size : Int) != 15) = true := bne_iff_ne.2 (by omega)
    have HR := Lib.hid (show longV (bts s) = -1 by unfold longV; rw [if_pos (.inl (by rw [bts_length]; exact h15))])
    clear h15
    go_enter Tryz.func77, Tryz.ntmps77
    go_wp2
    go_ret
    exact ⟨by rw [HR.out]; first | rfl | (simp; done) | simp [*], rfl⟩
end Go.Proofs.YtmjifmlibgpjiaaGreatDoor
namespace Go.Proofs.YtmjifmlibgpjiaaGreatDoor
open Go.RowKit Go.Shelf Tx
set_option linter.unusedVariables false
set_option maxRecDepth 100000

set_option maxHeartbeats 2000000 in
theorem Rcivil_1 (s : ByteArray) (w : World) (h8 : s.size = 6) : Calls Tryz.prog 75 #[.string s] w (GivesI w (civK 1 (bts s))) := by
  have d8 : (s.size : Int) = 6 := by omega
  obtain ⟨x, hx⟩ : ∃ x : UInt8, s[1]'(by omega) = x := ⟨_, rfl⟩
  have lx : (bts s)[1]? = some x := by rw [bts_get s (by omega), hx]
  by_cases ex : x = 58
  · have qx : ((x.toNat : Int) != 58) = false := by rw [ex]; rfl
    have KH := fun W => Lib.hid (show Calls Tryz.prog 66 #[.string (s.extract 0 1), .int .i64 2] W (GivesI W (plainV ((bts s).take 1) 2)) from by rw [← ext_take]; exact Rplain_any _ 2 W (by decide))
    have KM := fun W => Lib.hid (show Calls Tryz.prog 70 #[.string (s.extract 2 4)] W (GivesI W (digV (((bts s).drop 2).take 2))) from by rw [← ext_mid s 2 4 2 rfl]; exact rdig _ W (Nat.le_trans (ext_size s 2 4) (by decide)))
    have hH := plain_lo ((bts s).take 1) 2
    have hM := (digV_lt (((bts s).drop 2).take 2)).1
    have HU := Lib.hid (show civK 1 (bts s) = halfT (plainV ((bts s).take 1) 2) (digV (((bts s).drop 2).take 2)) ((bts s).drop 4) by
      unfold civK
      rw [if_neg (by rw [lx, ex]; simp)])
    have ht := ext_dropN s 4 6 h8
    obtain ⟨H, eH⟩ : ∃ H, H = plainV ((bts s).take 1) 2 := ⟨_, rfl⟩
    obtain ⟨M, eM⟩ : ∃ H, H = digV (((bts s).drop 2).take 2) := ⟨_, rfl⟩
    obtain ⟨T, eT⟩ : ∃ T, T = (bts s).drop 4 := ⟨_, rfl⟩
    rw [← eH] at hH HU KH
    rw [← eM] at hM HU KM
    rw [← eT] at HU ht
    rw [HU.out]
    have P : (H < 1 ∨ 12 < H ∨ M < 0 ∨ 59 < M) ∨ ¬ (H < 1 ∨ 12 < H ∨ M < 0 ∨ 59 < M) := Decidable.em _
    clear HU eH eM eT lx
    rcases P with P | P
    · have HR := Lib.hid (show halfT H M T = -1 by unfold halfT; rw [if_pos P])
      have Q : H < 1 ∨ (¬ H < 1 ∧ 12 < H) ∨ (¬ H < 1 ∧ ¬ 12 < H ∧ M < 0) ∨ (¬ H < 1 ∧ ¬ 12 < H ∧ ¬ M < 0 ∧ 59 < M) := by omega
      clear P hH hM ht
      rcases Q with Q | ⟨_, Q⟩ | ⟨_, _, Q⟩ | ⟨_, _, _, Q⟩
      all_goals
        go_enter Tryz.func75, Tryz.ntmps75
        go_wp2_with (first
          | (go_at_call 66; refine Calls.mono (KH _).out ?_; rintro e w1 ⟨rfl, rfl⟩)
          | (go_at_call 70; refine Calls.mono (KM _).out ?_; rintro e w2 ⟨rfl, rfl⟩))
        go_ret
        exact ⟨by rw [HR.out]; first | rfl | (simp; done) | simp [*], rfl⟩
    · obtain ⟨G, eG⟩ : ∃ G, G = H % 12 := ⟨_, rfl⟩
      have HR := Lib.hid (show halfT H M T = if T = [97, 109] then 60000000 * (60 * G + M) else if T = [112, 109] then 60000000 * (60 * (G + 12) + M) else -1 by unfold halfT; rw [if_neg P, eG])
      simp only [not_or] at P
      obtain ⟨p1, p2, p3, p4⟩ := P
      have t1 : H.tmod 12 = G := by rw [Int.tmod_eq_emod_of_nonneg (by omega)]; exact eG.symm
      have g0 : 0 ≤ G ∧ G ≤ 11 := by omega
      have t2 : H % 12 = G := eG.symm
      have f0 : wrap64 G = G := w64 (by omega) (by omega)
      have f1 : IntKind.i64.wrap (60 * G) = 60 * G := i64i' (by omega) (by omega)
      have f2 : IntKind.i64.wrap (60 * G + M) = 60 * G + M := i64i' (by omega) (by omega)
      have f3 : IntKind.i64.wrap (60000000 * (60 * G + M)) = 60000000 * (60 * G + M) := i64i' (by omega) (by omega)
      have f4 : IntKind.i64.wrap (G + 12) = G + 12 := i64i' (by omega) (by omega)
      have f5 : IntKind.i64.wrap (60 * (G + 12)) = 60 * (G + 12) := i64i' (by omega) (by omega)
      have f6 : IntKind.i64.wrap (60 * (G + 12) + M) = 60 * (G + 12) + M := i64i' (by omega) (by omega)
      have f7 : IntKind.i64.wrap (60000000 * (60 * (G + 12) + M)) = 60000000 * (60 * (G + 12) + M) := i64i' (by omega) (by omega)
      have g1 : wrap64 (60 * G) = 60 * G := w64 (by omega) (by omega)
      have g2 : wrap64 (60 * G + M) = 60 * G + M := w64 (by omega) (by omega)
      have g3 : wrap64 (60000000 * (60 * G + M)) = 60000000 * (60 * G + M) := w64 (by omega) (by omega)
      have g4 : wrap64 (G + 12) = G + 12 := w64 (by omega) (by omega)
      have g5 : wrap64 (60 * (G + 12)) = 60 * (G + 12) := w64 (by omega) (by omega)
      have g6 : wrap64 (60 * (G + 12) + M) = 60 * (G + 12) + M := w64 (by omega) (by omega)
      have g7 : wrap64 (60000000 * (60 * (G + 12) + M)) = 60000000 * (60 * (G + 12) + M) := w64 (by omega) (by omega)
      clear hH hM eG g0
      have HT : (s.extract 4 6).toList = T := by rw [toList_bts, ht]
      by_cases ha : T = [97, 109]
      · rw [if_pos ha] at HR
        have r1 : ((s.extract 4 6).toList == (⟨#[97, 109]⟩ : ByteArray).toList) = true := by rw [HT, ha, toList_bts, bts_lit]; rfl
        have m1 : (T == [97, 109]) = true := by rw [ha]; rfl
        clear ht
        go_enter Tryz.func75, Tryz.ntmps75
        go_wp2_with (first
          | (go_at_call 66; refine Calls.mono (KH _).out ?_; rintro e w1 ⟨rfl, rfl⟩)
          | (go_at_call 70; refine Calls.mono (KM _).out ?_; rintro e w2 ⟨rfl, rfl⟩))
        go_ret
        exact ⟨by rw [HR.out]; first | rfl | (simp; done) | simp [*], rfl⟩
      · rw [if_neg ha] at HR
        have r1 : ((s.extract 4 6).toList == (⟨#[97, 109]⟩ : ByteArray).toList) = false := by rw [HT]; rw [toList_bts, bts_lit]; exact beq_eq_false_iff_ne.2 ha
        have m1 : (T == [97, 109]) = false := beq_eq_false_iff_ne.2 ha
        have nr1 : ¬ (s.extract 4 6).toList = (⟨#[97, 109]⟩ : ByteArray).toList := by rw [HT, toList_bts, bts_lit]; exact ha
        by_cases hb : T = [112, 109]
        · rw [if_pos hb] at HR
          have r2 : ((s.extract 4 6).toList == (⟨#[112, 109]⟩ : ByteArray).toList) = true := by rw [HT, hb, toList_bts, bts_lit]; rfl
          have m2 : (T == [112, 109]) = true := by rw [hb]; rfl
          clear ht
          go_enter Tryz.func75, Tryz.ntmps75
          go_wp2_with (first
            | (go_at_call 66; refine Calls.mono (KH _).out ?_; rintro e w1 ⟨rfl, rfl⟩)
            | (go_at_call 70; refine Calls.mono (KM _).out ?_; rintro e w2 ⟨rfl, rfl⟩))
          go_ret
          exact ⟨by rw [HR.out]; first | rfl | (simp; done) | simp [*], rfl⟩
        · rw [if_neg hb] at HR
          have r2 : ((s.extract 4 6).toList == (⟨#[112, 109]⟩ : ByteArray).toList) = false := by rw [HT]; rw [toList_bts, bts_lit]; exact beq_eq_false_iff_ne.2 hb
          have m2 : (T == [112, 109]) = false := beq_eq_false_iff_ne.2 hb
          have nr2 : ¬ (s.extract 4 6).toList = (⟨#[112, 109]⟩ : ByteArray).toList := by rw [HT, toList_bts, bts_lit]; exact hb
          clear ht
          go_enter Tryz.func75, Tryz.ntmps75
          go_wp2_with (first
            | (go_at_call 66; refine Calls.mono (KH _).out ?_; rintro e w1 ⟨rfl, rfl⟩)
            | (go_at_call 70; refine Calls.mono (KM _).out ?_; rintro e w2 ⟨rfl, rfl⟩))
          go_ret
          exact ⟨by rw [HR.out]; first | rfl | (simp; done) | simp [*], rfl⟩
  · have qx : ((x.toNat : Int) != 58) = true := by rw [bne_iff_ne]; intro q; exact ex (UInt8.toNat_inj.1 (by rw [show (58 : UInt8).toNat = 58 from rfl]; omega))
    have HR := Lib.hid (show civK 1 (bts s) = -1 by unfold civK; rw [if_pos (by rw [lx]; exact fun q => ex (Option.some.inj q))])
    clear lx ex
    go_enter Tryz.func75, Tryz.ntmps75
    go_wp2
    go_ret
    exact ⟨by rw [HR.out]; first | rfl | (simp; done) | simp [*], rfl⟩
set_option maxHeartbeats 2000000 in
theorem Rcivil_2 (s : ByteArray) (w : World) (h8 : s.size = 7) : Calls Tryz.prog 75 #[.string s] w (GivesI w (civK 2 (bts s))) := by
  have d8 : (s.size : Int) = 7 := by omega
  obtain ⟨x, hx⟩ : ∃ x : UInt8, s[2]'(by omega) = x := ⟨_, rfl⟩
  have lx : (bts s)[2]? = some x := by rw [bts_get s (by omega), hx]
  by_cases ex : x = 58
  · have qx : ((x.toNat : Int) != 58) = false := by rw [ex]; rfl
    have KH := fun W => Lib.hid (show Calls Tryz.prog 66 #[.string (s.extract 0 2), .int .i64 2] W (GivesI W (plainV ((bts s).take 2) 2)) from by rw [← ext_take]; exact Rplain_any _ 2 W (by decide))
    have KM := fun W => Lib.hid (show Calls Tryz.prog 70 #[.string (s.extract 3 5)] W (GivesI W (digV (((bts s).drop 3).take 2))) from by rw [← ext_mid s 3 5 2 rfl]; exact rdig _ W (Nat.le_trans (ext_size s 3 5) (by decide)))
    have hH := plain_lo ((bts s).take 2) 2
    have hM := (digV_lt (((bts s).drop 3).take 2)).1
    have HU := Lib.hid (show civK 2 (bts s) = halfT (plainV ((bts s).take 2) 2) (digV (((bts s).drop 3).take 2)) ((bts s).drop 5) by
      unfold civK
      rw [if_neg (by rw [lx, ex]; simp)])
    have ht := ext_dropN s 5 7 h8
    obtain ⟨H, eH⟩ : ∃ H, H = plainV ((bts s).take 2) 2 := ⟨_, rfl⟩
    obtain ⟨M, eM⟩ : ∃ H, H = digV (((bts s).drop 3).take 2) := ⟨_, rfl⟩
    obtain ⟨T, eT⟩ : ∃ T, T = (bts s).drop 5 := ⟨_, rfl⟩
    rw [← eH] at hH HU KH
    rw [← eM] at hM HU KM
    rw [← eT] at HU ht
    rw [HU.out]
    have P : (H < 1 ∨ 12 < H ∨ M < 0 ∨ 59 < M) ∨ ¬ (H < 1 ∨ 12 < H ∨ M < 0 ∨ 59 < M) := Decidable.em _
    clear HU eH eM eT lx
    rcases P with P | P
    · have HR := Lib.hid (show halfT H M T = -1 by unfold halfT; rw [if_pos P])
      have Q : H < 1 ∨ (¬ H < 1 ∧ 12 < H) ∨ (¬ H < 1 ∧ ¬ 12 < H ∧ M < 0) ∨ (¬ H < 1 ∧ ¬ 12 < H ∧ ¬ M < 0 ∧ 59 < M) := by omega
      clear P hH hM ht
      rcases Q with Q | ⟨_, Q⟩ | ⟨_, _, Q⟩ | ⟨_, _, _, Q⟩
      all_goals
        go_enter Tryz.func75, Tryz.ntmps75
        go_wp2_with (first
          | (go_at_call 66; refine Calls.mono (KH _).out ?_; rintro e w1 ⟨rfl, rfl⟩)
          | (go_at_call 70; refine Calls.mono (KM _).out ?_; rintro e w2 ⟨rfl, rfl⟩))
        go_ret
        exact ⟨by rw [HR.out]; first | rfl | (simp; done) | simp [*], rfl⟩
    · obtain ⟨G, eG⟩ : ∃ G, G = H % 12 := ⟨_, rfl⟩
      have HR := Lib.hid (show halfT H M T = if T = [97, 109] then 60000000 * (60 * G + M) else if T = [112, 109] then 60000000 * (60 * (G + 12) + M) else -1 by unfold halfT; rw [if_neg P, eG])
      simp only [not_or] at P
      obtain ⟨p1, p2, p3, p4⟩ := P
      have t1 : H.tmod 12 = G := by rw [Int.tmod_eq_emod_of_nonneg (by omega)]; exact eG.symm
      have g0 : 0 ≤ G ∧ G ≤ 11 := by omega
      have t2 : H % 12 = G := eG.symm
      have f0 : wrap64 G = G := w64 (by omega) (by omega)
      have f1 : IntKind.i64.wrap (60 * G) = 60 * G := i64i' (by omega) (by omega)
      have f2 : IntKind.i64.wrap (60 * G + M) = 60 * G + M := i64i' (by omega) (by omega)
      have f3 : IntKind.i64.wrap (60000000 * (60 * G + M)) = 60000000 * (60 * G + M) := i64i' (by omega) (by omega)
      have f4 : IntKind.i64.wrap (G + 12) = G + 12 := i64i' (by omega) (by omega)
      have f5 : IntKind.i64.wrap (60 * (G + 12)) = 60 * (G + 12) := i64i' (by omega) (by omega)
      have f6 : IntKind.i64.wrap (60 * (G + 12) + M) = 60 * (G + 12) + M := i64i' (by omega) (by omega)
      have f7 : IntKind.i64.wrap (60000000 * (60 * (G + 12) + M)) = 60000000 * (60 * (G + 12) + M) := i64i' (by omega) (by omega)
      have g1 : wrap64 (60 * G) = 60 * G := w64 (by omega) (by omega)
      have g2 : wrap64 (60 * G + M) = 60 * G + M := w64 (by omega) (by omega)
      have g3 : wrap64 (60000000 * (60 * G + M)) = 60000000 * (60 * G + M) := w64 (by omega) (by omega)
      have g4 : wrap64 (G + 12) = G + 12 := w64 (by omega) (by omega)
      have g5 : wrap64 (60 * (G + 12)) = 60 * (G + 12) := w64 (by omega) (by omega)
      have g6 : wrap64 (60 * (G + 12) + M) = 60 * (G + 12) + M := w64 (by omega) (by omega)
      have g7 : wrap64 (60000000 * (60 * (G + 12) + M)) = 60000000 * (60 * (G + 12) + M) := w64 (by omega) (by omega)
      clear hH hM eG g0
      have HT : (s.extract 5 7).toList = T := by rw [toList_bts, ht]
      by_cases ha : T = [97, 109]
      · rw [if_pos ha] at HR
        have r1 : ((s.extract 5 7).toList == (⟨#[97, 109]⟩ : ByteArray).toList) = true := by rw [HT, ha, toList_bts, bts_lit]; rfl
        have m1 : (T == [97, 109]) = true := by rw [ha]; rfl
        clear ht
        go_enter Tryz.func75, Tryz.ntmps75
        go_wp2_with (first
          | (go_at_call 66; refine Calls.mono (KH _).out ?_; rintro e w1 ⟨rfl, rfl⟩)
          | (go_at_call 70; refine Calls.mono (KM _).out ?_; rintro e w2 ⟨rfl, rfl⟩))
        go_ret
        exact ⟨by rw [HR.out]; first | rfl | (simp; done) | simp [*], rfl⟩
      · rw [if_neg ha] at HR
        have r1 : ((s.extract 5 7).toList == (⟨#[97, 109]⟩ : ByteArray).toList) = false := by rw [HT]; rw [toList_bts, bts_lit]; exact beq_eq_false_iff_ne.2 ha
        have m1 : (T == [97, 109]) = false := beq_eq_false_iff_ne.2 ha
        have nr1 : ¬ (s.extract 5 7).toList = (⟨#[97, 109]⟩ : ByteArray).toList := by rw [HT, toList_bts, bts_lit]; exact ha
        by_cases hb : T = [112, 109]
        · rw [if_pos hb] at HR
          have r2 : ((s.extract 5 7).toList == (⟨#[112, 109]⟩ : ByteArray).toList) = true := by rw [HT, hb, toList_bts, bts_lit]; rfl
          have m2 : (T == [112, 109]) = true := by rw [hb]; rfl
          clear ht
          go_enter Tryz.func75, Tryz.ntmps75
          go_wp2_with (first
            | (go_at_call 66; refine Calls.mono (KH _).out ?_; rintro e w1 ⟨rfl, rfl⟩)
            | (go_at_call 70; refine Calls.mono (KM _).out ?_; rintro e w2 ⟨rfl, rfl⟩))
          go_ret
          exact ⟨by rw [HR.out]; first | rfl | (simp; done) | simp [*], rfl⟩
        · rw [if_neg hb] at HR
          have r2 : ((s.extract 5 7).toList == (⟨#[112, 109]⟩ : ByteArray).toList) = false := by rw [HT]; rw [toList_bts, bts_lit]; exact beq_eq_false_iff_ne.2 hb
          have m2 : (T == [112, 109]) = false := beq_eq_false_iff_ne.2 hb
          have nr2 : ¬ (s.extract 5 7).toList = (⟨#[112, 109]⟩ : ByteArray).toList := by rw [HT, toList_bts, bts_lit]; exact hb
          clear ht
          go_enter Tryz.func75, Tryz.ntmps75
          go_wp2_with (first
            | (go_at_call 66; refine Calls.mono (KH _).out ?_; rintro e w1 ⟨rfl, rfl⟩)
            | (go_at_call 70; refine Calls.mono (KM _).out ?_; rintro e w2 ⟨rfl, rfl⟩))
          go_ret
          exact ⟨by rw [HR.out]; first | rfl | (simp; done) | simp [*], rfl⟩
  · have qx : ((x.toNat : Int) != 58) = true := by rw [bne_iff_ne]; intro q; exact ex (UInt8.toNat_inj.1 (by rw [show (58 : UInt8).toNat = 58 from rfl]; omega))
    have HR := Lib.hid (show civK 2 (bts s) = -1 by unfold civK; rw [if_pos (by rw [lx]; exact fun q => ex (Option.some.inj q))])
    clear lx ex
    go_enter Tryz.func75, Tryz.ntmps75
    go_wp2
    go_ret
    exact ⟨by rw [HR.out]; first | rfl | (simp; done) | simp [*], rfl⟩
set_option maxHeartbeats 1000000 in
theorem Rcivil_any (s : ByteArray) (w : World) (hs : s.size ≤ 1000000) : Calls Tryz.prog 75 #[.string s] w (GivesI w (civilV (bts s))) := by
  have hl := bts_length s
  by_cases h6 : s.size = 6
  · rw [show civilV (bts s) = civK 1 (bts s) by unfold civilV; rw [if_pos (by omega)]]
    exact Rcivil_1 s w h6
  · by_cases h7 : s.size = 7
    · rw [show civilV (bts s) = civK 2 (bts s) by unfold civilV; rw [if_neg (by omega), if_pos (by omega)]]
      exact Rcivil_2 s w h7
    · have HR := Lib.hid (show civilV (bts s) = -1 by unfold civilV; rw [if_neg (by omega), if_neg (by omega)])
      have f1 : IntKind.i64.wrap ((s.size : Int) - 5) = (s.size : Int) - 5 := i64i' (by omega) (by omega)
      have f2 : wrap64 ((s.size : Int) - 5) = (s.size : Int) - 5 := w64 (by omega) (by omega)
      rcases Nat.lt_or_ge s.size 6 with q | q
      · have c1 : (s.size : Int) - 5 < 1 := by omega
        clear hl h6 h7 hs q
        go_enter Tryz.func75, Tryz.ntmps75
        go_wp2
        go_ret
        exact ⟨by rw [HR.out]; first | rfl | (simp; done) | simp [*], rfl⟩
      · have c1 : ¬ (s.size : Int) - 5 < 1 := by omega
        have c2 : 2 < (s.size : Int) - 5 := by omega
        clear hl h6 h7 hs q
        go_enter Tryz.func75, Tryz.ntmps75
        go_wp2
        go_ret
        exact ⟨by rw [HR.out]; first | rfl | (simp; done) | simp [*], rfl⟩
end Go.Proofs.YtmjifmlibgpjiaaGreatDoor
