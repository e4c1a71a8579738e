/- ReadDay: of formats, and of any text. -/
import Derived.Test.YtmjifmlibgpjiaaGreatDoorIc
import Derived.Test.YtmjifmlibgpjiaaGreatDoorDk
namespace Go.Proofs.YtmjifmlibgpjiaaGreatDoor
open Go.RowKit Go.Shelf Tx Go.Maps
set_option linter.unusedVariables false
set_option maxRecDepth 100000

theorem dd_short (n : Nat) (h : n ≤ 99999999999) : (Lib.decDigits n).length ≤ 1000000 := by have := dd11 h; omega
theorem short_len (a b c : Nat) (ha : a < 100) (hb : b < 100) (hc : c < 100) : (shortL a b c).length ≤ 1000000 := by
  rw [shortL_eq]
  simp only [List.length_append, padd_wlen' ha, padd_wlen' hb, padd_wlen' hc, List.length_cons, List.length_nil]
  omega
theorem longL_len (sep : List UInt8) (y m k : Nat) (hs : sep.length ≤ 10) (hy : y ≤ 9999) (hm : m < 100) (hk : k < 100) : (longL sep y m k).length ≤ 1000000 := by
  rw [longL_eq]
  have := p4len hy
  simp only [List.length_append, padd_wlen' hm, padd_wlen' hk]
  omega
theorem normL_len (y m k : Nat) (hy : y ≤ 9999) (h1 : 1 ≤ m) (h12 : m ≤ 12) (hk : k ≤ 31) : (normL y m k).length ≤ 1000000 := by
  obtain ⟨b0, b1, b2, e, _⟩ := monA_at (m - 1) (by omega)
  rw [normL_eq y m k h1, e]
  have := p4len hy
  have := dd11 (n := k) (by omega)
  simp only [List.length_append, List.length_cons, List.length_nil]
  omega
theorem day31 {n y m k : Nat} (hd : IsDate n y m k) : k ≤ 31 := by have := hd.kd; have := dim_pos y m; omega
theorem dayIn_le {v : Int} {n : Nat} (h : dayIn v = some n) : n ≤ 3652058 := by
  unfold dayIn at h
  split at h
  · cases h; omega
  · cases h
theorem calOf_le {y m k : Int} {n : Nat} (h : calOf y m k = some n) : n ≤ 3652058 := by
  obtain ⟨_, _, _, _, _, _, hd, h9⟩ := calOf_is h
  exact isDate_max hd h9
theorem find_B (y0 n y m k : Nat) (hd : IsDate n y m k) (h9 : y ≤ 9999) : dayIn (num1 (Lib.decDigits n)) = some n := dayIn_of (isDate_max hd h9) (base_num n (by have := isDate_max hd h9; omega))
theorem back_B (n0 y0 m0 k0 n y m k : Nat) (hd0 : IsDate n0 y0 m0 k0) (h90 : y0 ≤ 9999) (hd : IsDate n y m k) (h9 : y ≤ 9999) (t : ByteArray) (ht : bts t = Lib.decDigits n) (W : World) (hE : Env W) (hM : HasMax W) : Calls Tryz.prog 30 #[.string t, .int .u8 66, .int .i64 (n0 : Int)] W (Gives W #[.int .i64 (n : Int), .int .i64 0]) := by
  have hR := find_B y0 n y m k hd h9 
  rw [← ht] at hR
  exact ReadDay_B_ok t n0 y0 m0 k0 W hd0 h90 (by rw [← bts_length, ht]; exact dd_short n (by have := isDate_max hd h9; omega)) n y m k hd h9 hR ht hE
theorem find_I (y0 n y m k : Nat) (hd : IsDate n y m k) (h9 : y ≤ 9999) : calOf (num1 (longL [45] y m k)) (num2 (longL [45] y m k)) (num3 (longL [45] y m k)) = some n := by obtain ⟨e1, e2, e3⟩ := iso_nums y m k h9 hd.m12 (day31 hd); rw [e1, e2, e3]; exact calOf_some (isCal_of hd h9)
theorem back_I (n0 y0 m0 k0 n y m k : Nat) (hd0 : IsDate n0 y0 m0 k0) (h90 : y0 ≤ 9999) (hd : IsDate n y m k) (h9 : y ≤ 9999) (t : ByteArray) (ht : bts t = longL [45] y m k) (W : World) (hE : Env W) (hM : HasMax W) : Calls Tryz.prog 30 #[.string t, .int .u8 73, .int .i64 (n0 : Int)] W (Gives W #[.int .i64 (n : Int), .int .i64 0]) := by
  have hR := find_I y0 n y m k hd h9 
  rw [← ht] at hR
  exact ReadDay_I_ok t n0 y0 m0 k0 W hd0 h90 (by rw [← bts_length, ht]; exact longL_len [45] y m k (by decide) h9 (by have := hd.m12; omega) (by have := day31 hd; omega)) n y m k hd h9 hR ht hE
theorem find_N (y0 n y m k : Nat) (hd : IsDate n y m k) (h9 : y ≤ 9999) : calOf (num2 (normL y m k)) (1 + monV (normL y m k)) (num1 (normL y m k)) = some n := by obtain ⟨e1, e2⟩ := norm_nums y m k h9 hd.m1 hd.m12 (day31 hd); rw [e1, e2, norm_mon y m k hd.m1 hd.m12]; exact calOf_some (isCal_of hd h9)
theorem back_N (n0 y0 m0 k0 n y m k : Nat) (hd0 : IsDate n0 y0 m0 k0) (h90 : y0 ≤ 9999) (hd : IsDate n y m k) (h9 : y ≤ 9999) (t : ByteArray) (ht : bts t = normL y m k) (W : World) (hE : Env W) (hM : HasMax W) : Calls Tryz.prog 30 #[.string t, .int .u8 78, .int .i64 (n0 : Int)] W (Gives W #[.int .i64 (n : Int), .int .i64 0]) := by
  have hR := find_N y0 n y m k hd h9 
  rw [← ht] at hR
  exact ReadDay_N_ok t n0 y0 m0 k0 W hd0 h90 (by rw [← bts_length, ht]; exact normL_len y m k h9 hd.m1 hd.m12 (day31 hd)) hE hM n y m k hd h9 hR ht
theorem find_S (y0 n y m k : Nat) (hd : IsDate n y m k) (h9 : y ≤ 9999) : calOf ((num1 (longL [] y m k)).tdiv 10000) (((num1 (longL [] y m k)).tdiv 100).tmod 100) ((num1 (longL [] y m k)).tmod 100) = some n := by have h12 := hd.m12; have h31 := day31 hd; obtain ⟨e1, e2, e3⟩ := std_parts _ y m k rfl (by omega) (by omega); rw [std_num y m k h9 (by omega) (by omega), e1, e2, e3]; exact calOf_some (isCal_of hd h9)
theorem back_S (n0 y0 m0 k0 n y m k : Nat) (hd0 : IsDate n0 y0 m0 k0) (h90 : y0 ≤ 9999) (hd : IsDate n y m k) (h9 : y ≤ 9999) (t : ByteArray) (ht : bts t = longL [] y m k) (W : World) (hE : Env W) (hM : HasMax W) : Calls Tryz.prog 30 #[.string t, .int .u8 83, .int .i64 (n0 : Int)] W (Gives W #[.int .i64 (n : Int), .int .i64 0]) := by
  have hR := find_S y0 n y m k hd h9 
  rw [← ht] at hR
  exact ReadDay_S_ok t n0 y0 m0 k0 W hd0 h90 (by rw [← bts_length, ht]; exact longL_len [] y m k (by decide) h9 (by have := hd.m12; omega) (by have := day31 hd; omega)) n y m k hd h9 hR ht hE
theorem find_E (y0 n y m k : Nat) (hd : IsDate n y m k) (h9 : y ≤ 9999) (q1 : y < y0 + 50) (q2 : y0 < y + 50) : calOf (fyR y0 (num3 (shortL (k % 100) (m % 100) (y % 100)))) (num2 (shortL (k % 100) (m % 100) (y % 100))) (num1 (shortL (k % 100) (m % 100) (y % 100))) = some n := by have h12 := hd.m12; have h31 := day31 hd; obtain ⟨e1, e2, e3⟩ := short_nums (k % 100) (m % 100) (y % 100) (Nat.mod_lt _ (by decide)) (Nat.mod_lt _ (by decide)) (Nat.mod_lt _ (by decide)); rw [e1, e2, e3, fyR_of y0 y q1 q2, Nat.mod_eq_of_lt (show m < 100 by omega), Nat.mod_eq_of_lt (show k < 100 by omega)]; exact calOf_some (isCal_of hd h9)
theorem back_E (n0 y0 m0 k0 n y m k : Nat) (hd0 : IsDate n0 y0 m0 k0) (h90 : y0 ≤ 9999) (hd : IsDate n y m k) (h9 : y ≤ 9999) (q1 : y < y0 + 50) (q2 : y0 < y + 50) (t : ByteArray) (ht : bts t = shortL (k % 100) (m % 100) (y % 100)) (W : World) (hE : Env W) (hM : HasMax W) : Calls Tryz.prog 30 #[.string t, .int .u8 69, .int .i64 (n0 : Int)] W (Gives W #[.int .i64 (n : Int), .int .i64 0]) := by
  have hR := find_E y0 n y m k hd h9 q1 q2
  rw [← ht] at hR
  exact ReadDay_E_ok t n0 y0 m0 k0 W hd0 h90 (by rw [← bts_length, ht]; exact short_len _ _ _ (Nat.mod_lt _ (by decide)) (Nat.mod_lt _ (by decide)) (Nat.mod_lt _ (by decide))) n y m k hd h9 hR ht hE
theorem find_O (y0 n y m k : Nat) (hd : IsDate n y m k) (h9 : y ≤ 9999) (q1 : y < y0 + 50) (q2 : y0 < y + 50) : calOf (fyR y0 (num1 (shortL (y % 100) (m % 100) (k % 100)))) (num2 (shortL (y % 100) (m % 100) (k % 100))) (num3 (shortL (y % 100) (m % 100) (k % 100))) = some n := by have h12 := hd.m12; have h31 := day31 hd; obtain ⟨e1, e2, e3⟩ := short_nums (y % 100) (m % 100) (k % 100) (Nat.mod_lt _ (by decide)) (Nat.mod_lt _ (by decide)) (Nat.mod_lt _ (by decide)); rw [e1, e2, e3, fyR_of y0 y q1 q2, Nat.mod_eq_of_lt (show m < 100 by omega), Nat.mod_eq_of_lt (show k < 100 by omega)]; exact calOf_some (isCal_of hd h9)
theorem back_O (n0 y0 m0 k0 n y m k : Nat) (hd0 : IsDate n0 y0 m0 k0) (h90 : y0 ≤ 9999) (hd : IsDate n y m k) (h9 : y ≤ 9999) (q1 : y < y0 + 50) (q2 : y0 < y + 50) (t : ByteArray) (ht : bts t = shortL (y % 100) (m % 100) (k % 100)) (W : World) (hE : Env W) (hM : HasMax W) : Calls Tryz.prog 30 #[.string t, .int .u8 79, .int .i64 (n0 : Int)] W (Gives W #[.int .i64 (n : Int), .int .i64 0]) := by
  have hR := find_O y0 n y m k hd h9 q1 q2
  rw [← ht] at hR
  exact ReadDay_O_ok t n0 y0 m0 k0 W hd0 h90 (by rw [← bts_length, ht]; exact short_len _ _ _ (Nat.mod_lt _ (by decide)) (Nat.mod_lt _ (by decide)) (Nat.mod_lt _ (by decide))) n y m k hd h9 hR ht hE
theorem find_U (y0 n y m k : Nat) (hd : IsDate n y m k) (h9 : y ≤ 9999) (q1 : y < y0 + 50) (q2 : y0 < y + 50) : calOf (fyR y0 (num3 (shortL (m % 100) (k % 100) (y % 100)))) (num1 (shortL (m % 100) (k % 100) (y % 100))) (num2 (shortL (m % 100) (k % 100) (y % 100))) = some n := by have h12 := hd.m12; have h31 := day31 hd; obtain ⟨e1, e2, e3⟩ := short_nums (m % 100) (k % 100) (y % 100) (Nat.mod_lt _ (by decide)) (Nat.mod_lt _ (by decide)) (Nat.mod_lt _ (by decide)); rw [e1, e2, e3, fyR_of y0 y q1 q2, Nat.mod_eq_of_lt (show m < 100 by omega), Nat.mod_eq_of_lt (show k < 100 by omega)]; exact calOf_some (isCal_of hd h9)
theorem back_U (n0 y0 m0 k0 n y m k : Nat) (hd0 : IsDate n0 y0 m0 k0) (h90 : y0 ≤ 9999) (hd : IsDate n y m k) (h9 : y ≤ 9999) (q1 : y < y0 + 50) (q2 : y0 < y + 50) (t : ByteArray) (ht : bts t = shortL (m % 100) (k % 100) (y % 100)) (W : World) (hE : Env W) (hM : HasMax W) : Calls Tryz.prog 30 #[.string t, .int .u8 85, .int .i64 (n0 : Int)] W (Gives W #[.int .i64 (n : Int), .int .i64 0]) := by
  have hR := find_U y0 n y m k hd h9 q1 q2
  rw [← ht] at hR
  exact ReadDay_U_ok t n0 y0 m0 k0 W hd0 h90 (by rw [← bts_length, ht]; exact short_len _ _ _ (Nat.mod_lt _ (by decide)) (Nat.mod_lt _ (by decide)) (Nat.mod_lt _ (by decide))) n y m k hd h9 hR ht hE
theorem find_D (y0 n y m k : Nat) (hd : IsDate n y m k) (h9 : y ≤ 9999) (e : y0 = y) : dayIn ((bef (y0 - 1) : Int) - 1 + num1 (Lib.decDigits (n - bef (y - 1) + 1))) = some n := by subst e; have hn := isDate_max hd h9; have hb := days_eq hd; exact dayIn_of hn (by rw [base_num _ (by omega)]; omega)
theorem back_D (n0 y0 m0 k0 n y m k : Nat) (hd0 : IsDate n0 y0 m0 k0) (h90 : y0 ≤ 9999) (hd : IsDate n y m k) (h9 : y ≤ 9999) (e : y0 = y) (t : ByteArray) (ht : bts t = Lib.decDigits (n - bef (y - 1) + 1)) (W : World) (hE : Env W) (hM : HasMax W) : Calls Tryz.prog 30 #[.string t, .int .u8 68, .int .i64 (n0 : Int)] W (Gives W #[.int .i64 (n : Int), .int .i64 0]) := by
  have hR := find_D y0 n y m k hd h9 e
  rw [← ht] at hR
  exact ReadDay_D_ok t n0 y0 m0 k0 W hd0 h90 (by rw [← bts_length, ht]; exact dd_short _ (by have := isDate_max hd h9; omega)) n y m k hd h9 hR ht hE
/-- What ReadDay gives of a text: an error, or the day whose format it is. -/
def ReadOk (X n0 : Int) (s : ByteArray) : Prop := (∃ v g : Int, (∀ W, Env W → HasMax W → Calls Tryz.prog 30 #[.string s, .int .u8 X, .int .i64 n0] W (Gives W #[.int .i64 v, .int .i64 g])) ∧ (g == 0) = false ∧ ¬ g = 0) ∨
  (∃ v : Int, (∀ W, Env W → HasMax W → Calls Tryz.prog 30 #[.string s, .int .u8 X, .int .i64 n0] W (Gives W #[.int .i64 v, .int .i64 0])) ∧ (∀ W, Env W → Calls Tryz.prog 28 #[.int .i64 v, .int .u8 X] W (GivesSE W (bts s))))
theorem readOk_of (X n0 : Int) (s : ByteArray) (R : Option Nat) (f : Nat → Nat → Nat → Nat → List UInt8) (hR9 : ∀ n, R = some n → n ≤ 3652058)
    (K0 : R = none → ∀ W, Env W → HasMax W → Calls Tryz.prog 30 #[.string s, .int .u8 X, .int .i64 n0] W (Gives W #[.int .i64 0, .int .i64 2]))
    (K1 : ∀ n y m k, IsDate n y m k → y ≤ 9999 → R = some n → bts s = f n y m k → ∀ W, Env W → HasMax W → Calls Tryz.prog 30 #[.string s, .int .u8 X, .int .i64 n0] W (Gives W #[.int .i64 (n : Int), .int .i64 0]))
    (K2 : ∀ n y m k, IsDate n y m k → y ≤ 9999 → R = some n → ¬ bts s = f n y m k → ∀ W, Env W → HasMax W → Calls Tryz.prog 30 #[.string s, .int .u8 X, .int .i64 n0] W (Gives W #[.int .i64 0, .int .i64 2]))
    (KD : ∀ n y m k, IsDate n y m k → y ≤ 9999 → ∀ W, Env W → Calls Tryz.prog 28 #[.int .i64 (n : Int), .int .u8 X] W (GivesSE W (f n y m k))) : ReadOk X n0 s := by
  cases hR : R with
  | none => exact .inl ⟨0, 2, fun W h1 h2 => K0 hR W h1 h2, by decide, by decide⟩
  | some n =>
    obtain ⟨y, m, k, hd⟩ := isDate_ex n
    have h9 : y ≤ 9999 := hd.isYear.le (hR9 n hR)
    by_cases hf : bts s = f n y m k
    · exact .inr ⟨(n : Int), fun W h1 h2 => K1 n y m k hd h9 hR hf W h1 h2, fun W h1 => by rw [hf]; exact KD n y m k hd h9 W h1⟩
    · exact .inl ⟨0, 2, fun W h1 h2 => K2 n y m k hd h9 hR hf W h1 h2, by decide, by decide⟩
theorem readOk_B (n0 y0 m0 k0 : Nat) (s : ByteArray) (hd0 : IsDate n0 y0 m0 k0) (h90 : y0 ≤ 9999) (hs : s.size ≤ 1000000) : ReadOk 66 (n0 : Int) s :=
  readOk_of 66 (n0 : Int) s (dayIn (num1 (bts s))) (fun n y m k => Lib.decDigits n) (fun _ h => dayIn_le h) (fun h W hE hM => ReadDay_B_none s n0 y0 m0 k0 W hd0 h90 hs h) (fun n y m k hd h9 h hf W hE hM => ReadDay_B_ok s n0 y0 m0 k0 W hd0 h90 hs n y m k hd h9 h hf hE) (fun n y m k hd h9 h hf W hE hM => ReadDay_B_ne s n0 y0 m0 k0 W hd0 h90 hs n y m k hd h9 h hf hE) (fun n y m k hd h9 W hE => Date_B n y m k W hd h9 hE)
theorem readOk_D (n0 y0 m0 k0 : Nat) (s : ByteArray) (hd0 : IsDate n0 y0 m0 k0) (h90 : y0 ≤ 9999) (hs : s.size ≤ 1000000) : ReadOk 68 (n0 : Int) s :=
  readOk_of 68 (n0 : Int) s (dayIn ((bef (y0 - 1) : Int) - 1 + num1 (bts s))) (fun n y m k => Lib.decDigits (n - bef (y - 1) + 1)) (fun _ h => dayIn_le h) (fun h W hE hM => ReadDay_D_none s n0 y0 m0 k0 W hd0 h90 hs h) (fun n y m k hd h9 h hf W hE hM => ReadDay_D_ok s n0 y0 m0 k0 W hd0 h90 hs n y m k hd h9 h hf hE) (fun n y m k hd h9 h hf W hE hM => ReadDay_D_ne s n0 y0 m0 k0 W hd0 h90 hs n y m k hd h9 h hf hE) (fun n y m k hd h9 W hE => Date_D n y m k W hd h9 hE)
theorem readOk_E (n0 y0 m0 k0 : Nat) (s : ByteArray) (hd0 : IsDate n0 y0 m0 k0) (h90 : y0 ≤ 9999) (hs : s.size ≤ 1000000) : ReadOk 69 (n0 : Int) s :=
  readOk_of 69 (n0 : Int) s (calOf (fyR y0 (num3 (bts s))) (num2 (bts s)) (num1 (bts s))) (fun n y m k => shortL (k % 100) (m % 100) (y % 100)) (fun _ h => calOf_le h) (fun h W hE hM => ReadDay_E_none s n0 y0 m0 k0 W hd0 h90 hs h) (fun n y m k hd h9 h hf W hE hM => ReadDay_E_ok s n0 y0 m0 k0 W hd0 h90 hs n y m k hd h9 h hf hE) (fun n y m k hd h9 h hf W hE hM => ReadDay_E_ne s n0 y0 m0 k0 W hd0 h90 hs n y m k hd h9 h hf hE) (fun n y m k hd h9 W hE => Date_E n y m k W hd h9 hE)
theorem readOk_I (n0 y0 m0 k0 : Nat) (s : ByteArray) (hd0 : IsDate n0 y0 m0 k0) (h90 : y0 ≤ 9999) (hs : s.size ≤ 1000000) : ReadOk 73 (n0 : Int) s :=
  readOk_of 73 (n0 : Int) s (calOf (num1 (bts s)) (num2 (bts s)) (num3 (bts s))) (fun n y m k => longL [45] y m k) (fun _ h => calOf_le h) (fun h W hE hM => ReadDay_I_none s n0 y0 m0 k0 W hd0 h90 hs h) (fun n y m k hd h9 h hf W hE hM => ReadDay_I_ok s n0 y0 m0 k0 W hd0 h90 hs n y m k hd h9 h hf hE) (fun n y m k hd h9 h hf W hE hM => ReadDay_I_ne s n0 y0 m0 k0 W hd0 h90 hs n y m k hd h9 h hf hE) (fun n y m k hd h9 W hE => Date_I n y m k W hd h9 hE)
theorem readOk_N (n0 y0 m0 k0 : Nat) (s : ByteArray) (hd0 : IsDate n0 y0 m0 k0) (h90 : y0 ≤ 9999) (hs : s.size ≤ 1000000) : ReadOk 78 (n0 : Int) s :=
  readOk_of 78 (n0 : Int) s (calOf (num2 (bts s)) (1 + monV (bts s)) (num1 (bts s))) (fun n y m k => normL y m k) (fun _ h => calOf_le h) (fun h W hE hM => ReadDay_N_none s n0 y0 m0 k0 W hd0 h90 hs hE hM h) (fun n y m k hd h9 h hf W hE hM => ReadDay_N_ok s n0 y0 m0 k0 W hd0 h90 hs hE hM n y m k hd h9 h hf) (fun n y m k hd h9 h hf W hE hM => ReadDay_N_ne s n0 y0 m0 k0 W hd0 h90 hs hE hM n y m k hd h9 h hf) (fun n y m k hd h9 W hE => Date_N n y m k W hd h9 hE)
theorem readOk_O (n0 y0 m0 k0 : Nat) (s : ByteArray) (hd0 : IsDate n0 y0 m0 k0) (h90 : y0 ≤ 9999) (hs : s.size ≤ 1000000) : ReadOk 79 (n0 : Int) s :=
  readOk_of 79 (n0 : Int) s (calOf (fyR y0 (num1 (bts s))) (num2 (bts s)) (num3 (bts s))) (fun n y m k => shortL (y % 100) (m % 100) (k % 100)) (fun _ h => calOf_le h) (fun h W hE hM => ReadDay_O_none s n0 y0 m0 k0 W hd0 h90 hs h) (fun n y m k hd h9 h hf W hE hM => ReadDay_O_ok s n0 y0 m0 k0 W hd0 h90 hs n y m k hd h9 h hf hE) (fun n y m k hd h9 h hf W hE hM => ReadDay_O_ne s n0 y0 m0 k0 W hd0 h90 hs n y m k hd h9 h hf hE) (fun n y m k hd h9 W hE => Date_O n y m k W hd h9 hE)
theorem readOk_S (n0 y0 m0 k0 : Nat) (s : ByteArray) (hd0 : IsDate n0 y0 m0 k0) (h90 : y0 ≤ 9999) (hs : s.size ≤ 1000000) : ReadOk 83 (n0 : Int) s :=
  readOk_of 83 (n0 : Int) s (calOf ((num1 (bts s)).tdiv 10000) (((num1 (bts s)).tdiv 100).tmod 100) ((num1 (bts s)).tmod 100)) (fun n y m k => longL [] y m k) (fun _ h => calOf_le h) (fun h W hE hM => ReadDay_S_none s n0 y0 m0 k0 W hd0 h90 hs h) (fun n y m k hd h9 h hf W hE hM => ReadDay_S_ok s n0 y0 m0 k0 W hd0 h90 hs n y m k hd h9 h hf hE) (fun n y m k hd h9 h hf W hE hM => ReadDay_S_ne s n0 y0 m0 k0 W hd0 h90 hs n y m k hd h9 h hf hE) (fun n y m k hd h9 W hE => Date_S n y m k W hd h9 hE)
theorem readOk_U (n0 y0 m0 k0 : Nat) (s : ByteArray) (hd0 : IsDate n0 y0 m0 k0) (h90 : y0 ≤ 9999) (hs : s.size ≤ 1000000) : ReadOk 85 (n0 : Int) s :=
  readOk_of 85 (n0 : Int) s (calOf (fyR y0 (num3 (bts s))) (num1 (bts s)) (num2 (bts s))) (fun n y m k => shortL (m % 100) (k % 100) (y % 100)) (fun _ h => calOf_le h) (fun h W hE hM => ReadDay_U_none s n0 y0 m0 k0 W hd0 h90 hs h) (fun n y m k hd h9 h hf W hE hM => ReadDay_U_ok s n0 y0 m0 k0 W hd0 h90 hs n y m k hd h9 h hf hE) (fun n y m k hd h9 h hf W hE hM => ReadDay_U_ne s n0 y0 m0 k0 W hd0 h90 hs n y m k hd h9 h hf hE) (fun n y m k hd h9 W hE => Date_U n y m k W hd h9 hE)
theorem readOk_any (n0 y0 m0 k0 : Nat) (x : UInt8) (s : ByteArray) (hd0 : IsDate n0 y0 m0 k0) (h90 : y0 ≤ 9999) (hs : s.size ≤ 1000000) : ReadOk (x.toNat : Int) (n0 : Int) s := by
  by_cases hx : x = 66 ∨ x = 68 ∨ x = 69 ∨ x = 73 ∨ x = 78 ∨ x = 79 ∨ x = 83 ∨ x = 85
  · rcases hx with rfl | rfl | rfl | rfl | rfl | rfl | rfl | rfl
    · exact readOk_B n0 y0 m0 k0 s hd0 h90 hs
    · exact readOk_D n0 y0 m0 k0 s hd0 h90 hs
    · exact readOk_E n0 y0 m0 k0 s hd0 h90 hs
    · exact readOk_I n0 y0 m0 k0 s hd0 h90 hs
    · exact readOk_N n0 y0 m0 k0 s hd0 h90 hs
    · exact readOk_O n0 y0 m0 k0 s hd0 h90 hs
    · exact readOk_S n0 y0 m0 k0 s hd0 h90 hs
    · exact readOk_U n0 y0 m0 k0 s hd0 h90 hs
  · exact .inl ⟨0, 1, fun W _ _ => ReadDay_none s n0 y0 m0 k0 x W hd0 h90 (rest_none x s y0 hx), by decide, by decide⟩
end Go.Proofs.YtmjifmlibgpjiaaGreatDoor
