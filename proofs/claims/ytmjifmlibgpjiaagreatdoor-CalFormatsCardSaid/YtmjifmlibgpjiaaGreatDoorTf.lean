/- Numbers read from what was written: plain lemmas on lists. -/
import Derived.Test.YtmjifmlibgpjiaaGreatDoorGc
import Derived.Test.YtmjifmlibgpjiaaGreatDoorDh
namespace Go.Proofs.YtmjifmlibgpjiaaGreatDoor
open Go.Lib Tx
namespace Tx
theorem dgt_isDg (n : Nat) : isDg (dgt n) = true := by
  unfold dgt
  have h : n % 10 < 10 := by omega
  revert h
  generalize n % 10 = m
  intro h
  match m, h with
  | 0, _ | 1, _ | 2, _ | 3, _ | 4, _ | 5, _ | 6, _ | 7, _ | 8, _ | 9, _ => decide
theorem dgt_val (n : Nat) : digitVal (dgt n) = some (n % 10) := by
  unfold dgt
  have h : n % 10 < 10 := by omega
  revert h
  generalize n % 10 = m
  intro h
  match m, h with
  | 0, _ | 1, _ | 2, _ | 3, _ | 4, _ | 5, _ | 6, _ | 7, _ | 8, _ | 9, _ => decide
theorem decFrom_snoc (n : Nat) : ∀ (l : List UInt8) (a m : Nat), decFrom a l = some m → decFrom a (l ++ [dgt n]) = some (m * 10 + n % 10)
  | [], a, m, h => by
    rw [decFrom] at h
    cases h
    show decFrom a [dgt n] = _
    rw [decFrom, dgt_val]
    rfl
  | b :: l, a, m, h => by
    show decFrom a (b :: (l ++ [dgt n])) = _
    rw [decFrom] at h ⊢
    cases hb : digitVal b with
    | none => rw [hb] at h; cases h
    | some d => rw [hb] at h; exact decFrom_snoc n l _ m h
theorem decFrom_dd (n : Nat) : decFrom 0 (decDigits n) = some n := by
  induction n using Nat.strongRecOn with
  | ind n ih =>
    by_cases h : n < 10
    · rw [dd_small h]
      have := decFrom_snoc n [] 0 0 rfl
      rw [List.nil_append] at this
      rw [this]; congr 1; omega
    · rw [dd_big h, decFrom_snoc n _ 0 _ (ih (n / 10) (by omega))]
      congr 1; omega
theorem decFrom_zeros : ∀ (k : Nat) (l : List UInt8), decFrom 0 (List.replicate k 48 ++ l) = decFrom 0 l
  | 0, _ => rfl
  | k + 1, l => by
    show decFrom 0 (48 :: (List.replicate k 48 ++ l)) = _
    rw [decFrom, show digitVal 48 = some 0 by decide]
    exact decFrom_zeros k l
theorem decFrom_padd (n w : Nat) : decFrom 0 (padd n w) = some n := by unfold padd; rw [decFrom_zeros, decFrom_dd]
theorem dd_ne (n : Nat) : decDigits n ≠ [] := by
  by_cases h : n < 10
  · rw [dd_small h]; simp
  · rw [dd_big h]; simp
theorem dd_all (n : Nat) : ∀ c ∈ decDigits n, isDg c = true := by
  induction n using Nat.strongRecOn with
  | ind n ih =>
    by_cases h : n < 10
    · rw [dd_small h]
      intro c hc
      rw [List.mem_singleton] at hc
      rw [hc]; exact dgt_isDg n
    · rw [dd_big h]
      intro c hc
      rcases List.mem_append.1 hc with hc | hc
      · exact ih (n / 10) (by omega) c hc
      · rw [List.mem_singleton] at hc
        rw [hc]; exact dgt_isDg n
theorem padd_ne (n w : Nat) : padd n w ≠ [] := by unfold padd; simp [dd_ne]
theorem padd_all (n w : Nat) : ∀ c ∈ padd n w, isDg c = true := by
  unfold padd
  intro c hc
  rcases List.mem_append.1 hc with hc | hc
  · have := (List.mem_replicate.1 hc).2
    subst this; decide
  · exact dd_all n c hc
/-- Where no digit stands. -/
def NoDg (l : List UInt8) : Prop := l = [] ∨ ∃ c r, l = c :: r ∧ isDg c = false
theorem take_digs : ∀ (d r : List UInt8), (∀ c ∈ d, isDg c = true) → NoDg r → (d ++ r).takeWhile isDg = d ∧ (d ++ r).dropWhile isDg = r
  | [], r, _, hr => by
    rcases hr with rfl | ⟨c, t, rfl, hc⟩
    · exact ⟨rfl, rfl⟩
    · simp [hc]
  | c :: d, r, hd, hr => by
    have h1 := hd c (List.mem_cons_self ..)
    obtain ⟨i1, i2⟩ := take_digs d r (fun x hx => hd x (List.mem_cons_of_mem _ hx)) hr
    simp [h1, i1, i2]
theorem skip_pre : ∀ (p l : List UInt8), (∀ c ∈ p, isDg c = false) → nSkip (p ++ l) = nSkip l
  | [], _, _ => rfl
  | c :: p, l, h => by
    have h1 := h c (List.mem_cons_self ..)
    have ih := skip_pre p l (fun x hx => h x (List.mem_cons_of_mem _ hx))
    unfold nSkip at ih ⊢
    simp [h1, ih]
theorem skip_digs (d r : List UInt8) (hd : ∀ c ∈ d, isDg c = true) (hne : d ≠ []) : nSkip (d ++ r) = d ++ r := by
  cases d with
  | nil => exact absurd rfl hne
  | cons c d =>
    have h1 := hd c (List.mem_cons_self ..)
    unfold nSkip
    simp [h1]
/-- A number behind signs, and what follows it. -/
theorem num_at (p d r : List UInt8) (n : Nat) (hp : ∀ c ∈ p, isDg c = false) (hd : ∀ c ∈ d, isDg c = true) (hne : d ≠ []) (hr : NoDg r) (hl : d.length ≤ 11) (hv : decFrom 0 d = some n) : numV (p ++ (d ++ r)) = (n : Int) ∧ numR (p ++ (d ++ r)) = r := by
  obtain ⟨t1, t2⟩ := take_digs d r hd hr
  have h1 : nTake (p ++ (d ++ r)) = d := by unfold nTake; rw [skip_pre p _ hp, skip_digs d r hd hne, t1]
  have h2 : nRest (p ++ (d ++ r)) = r := by unfold nRest; rw [skip_pre p _ hp, skip_digs d r hd hne, t2]
  have h3 : decNat d = some n := by
    unfold decNat
    rw [show d.isEmpty = false by cases d with | nil => exact absurd rfl hne | cons _ _ => rfl]
    exact hv
  unfold numV numR
  rw [h1, h2, h3, if_neg (by omega), if_neg hne]
  exact ⟨rfl, rfl⟩
theorem num_padd (p r : List UInt8) (n w : Nat) (hp : ∀ c ∈ p, isDg c = false) (hr : NoDg r) (hl : (padd n w).length ≤ 11) : numV (p ++ (padd n w ++ r)) = (n : Int) ∧ numR (p ++ (padd n w ++ r)) = r := num_at p (padd n w) r n hp (padd_all n w) (padd_ne n w) hr hl (decFrom_padd n w)
end Tx
end Go.Proofs.YtmjifmlibgpjiaaGreatDoor
