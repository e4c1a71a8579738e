/- Digits of bytes, and bytes of digits, as lists. No program is walked here. -/
import Derived.Test.YtoilgjlbpimcpaaDoorUa
import Derived.Test.YtoilgjlbpimcpaaDoorXa
namespace Go.Proofs.YtoilgjlbpimcpaaDoor
open Go.RowKit Go.Shelf Tx
set_option linter.unusedVariables false
set_option maxRecDepth 100000

namespace Tx
/-- What is left of a byte after n digits have been taken off. -/
def vit (b x : UInt8) : Nat → UInt8
  | 0 => x
  | n + 1 => vit b x n / b
def digs (x : UInt8) (n : Nat) (b : UInt8) : List UInt8 := (List.range n).map fun q => vit b x (n - 1 - q) % b
def splitL : List UInt8 → Nat → UInt8 → List UInt8
  | [], _, _ => []
  | x :: l, n, b => digs x n b ++ splitL l n b
theorem digs_length (x : UInt8) (n : Nat) (b : UInt8) : (digs x n b).length = n := by simp [digs]
theorem splitL_length (n : Nat) (b : UInt8) : ∀ l, (splitL l n b).length = l.length * n
  | [] => by simp [splitL]
  | x :: l => by simp [splitL, splitL_length n b l, digs_length, Nat.add_mul]; omega
theorem splitL_get (n : Nat) (b : UInt8) : ∀ {l : List UInt8} {k q : Nat} {x : UInt8}, l[k]? = some x → q < n → (splitL l n b)[k * n + q]? = some (vit b x (n - 1 - q) % b)
  | [], k, q, x, h, _ => by simp at h
  | y :: l, 0, q, x, h, hq => by
    simp at h
    subst h
    unfold splitL
    rw [Nat.zero_mul, Nat.zero_add, List.getElem?_append_left (by rw [digs_length]; exact hq)]
    unfold digs
    rw [List.getElem?_map, List.getElem?_range hq]
    rfl
  | y :: l, k + 1, q, x, h, hq => by
    unfold splitL
    have e : (k + 1) * n + q - (digs y n b).length = k * n + q := by rw [digs_length, Nat.add_mul]; omega
    rw [List.getElem?_append_right (by rw [digs_length, Nat.add_mul]; omega), e]
    exact splitL_get n b (by simpa using h) hq
/-- A hexadecimal digit. -/
def hexB (c : UInt8) : UInt8 := if c.toNat < 10 then c + 48 else c + 55
theorem vit_lt {b x : UInt8} (hb : 0 < b.toNat) (n : Nat) : (vit b x n % b).toNat < b.toNat := by
  rw [UInt8.toNat_mod]; exact Nat.mod_lt _ hb
theorem splitL_lt {n : Nat} {b : UInt8} (hb : 0 < b.toNat) : ∀ {l : List UInt8} {c : UInt8}, c ∈ splitL l n b → c.toNat < b.toNat
  | [], c, h => by simp [splitL] at h
  | x :: l, c, h => by
    unfold splitL at h
    rcases List.mem_append.1 h with h | h
    · unfold digs at h
      obtain ⟨q, _, rfl⟩ := List.mem_map.1 h
      exact vit_lt hb _
    · exact splitL_lt hb h

/-- The digits with zeros at the head, so that the number of digits is a multiple of size. -/
def padD (ds : List UInt8) (size : Nat) : List UInt8 := List.replicate (size * ((ds.length + size - 1) / size) - ds.length) 0 ++ ds
def foldD (base : UInt8) (l : List UInt8) : UInt8 := l.foldl (fun a d => a * base + d) 0
theorem foldD_snoc (base : UInt8) (l : List UInt8) (d : UInt8) : foldD base (l ++ [d]) = foldD base l * base + d := by unfold foldD; rw [List.foldl_append]; rfl
theorem foldD_zero (base : UInt8) (n : Nat) : foldD base (List.replicate n 0) = 0 := by
  induction n with
  | zero => rfl
  | succ n ih => rw [List.replicate_succ', foldD_snoc, ih]; simp
def segD (P : List UInt8) (m size j : Nat) : List UInt8 := ((P.take m).drop (j * size)).take size
theorem mst_get (ds : List UInt8) {size : Nat} (hs : 1 ≤ size) (base : UInt8) : ∀ k, k ≤ ds.length → ∀ j, j < (ds.length + size - 1) / size →
    (mst ds size base k)[j]? = some (foldD base (segD (padD ds size) (size * ((ds.length + size - 1) / size) - ds.length + k) size j)) := by
  obtain ⟨n, hn⟩ : ∃ n, n = (ds.length + size - 1) / size := ⟨_, rfl⟩
  obtain ⟨lk, hlk⟩ : ∃ lk, lk = size * n - ds.length := ⟨_, rfl⟩
  have hge : ds.length ≤ size * n := by rw [hn]; exact ceil_ge hs
  intro k
  induction k with
  | zero =>
    intro _ j hj
    rw [← hn] at hj
    rw [mst, ← hn, List.getElem?_replicate, if_pos hj]
    congr 1
    unfold segD padD
    rw [← hn, ← hlk, Nat.add_zero, List.take_append_of_le_length (by simp), List.take_of_length_le (show (List.replicate lk (0 : UInt8)).length ≤ lk by simp), List.drop_replicate, List.take_replicate, foldD_zero]
  | succ k ih =>
    intro hk j hj
    have ih' := ih (by omega)
    rw [← hn] at hj ih'
    rw [← hlk] at ih'
    rw [mst, ← hn, ← hlk]
    obtain ⟨d, hd⟩ : ∃ d, ds[k]? = some d := ⟨_, List.getElem?_eq_getElem (by omega)⟩
    have hPl : (padD ds size).length = size * n := by unfold padD; rw [List.length_append, List.length_replicate, ← hn]; omega
    have hPd : (padD ds size)[lk + k]? = some d := by
      unfold padD
      rw [← hn, ← hlk, List.getElem?_append_right (by simp), List.length_replicate, show lk + k - lk = k by omega, hd]
    have hT : (padD ds size).take (lk + (k + 1)) = (padD ds size).take (lk + k) ++ [d] := by
      rw [show lk + (k + 1) = lk + k + 1 by omega, List.take_add_one, hPd]; rfl
    have hXl : ((padD ds size).take (lk + k)).length = lk + k := by rw [List.length_take, hPl]; omega
    have hpos : 0 < size := by omega
    obtain ⟨j0, hj0⟩ : ∃ j0, j0 = (k + lk) / size := ⟨_, rfl⟩
    have hj1 : j0 * size ≤ k + lk := by rw [hj0]; exact Nat.div_mul_le_self _ _
    have hj2 : k + lk < (j0 + 1) * size := by
      have := Nat.lt_mul_div_succ (k + lk) hpos
      rw [← hj0, Nat.mul_comm] at this
      exact this
    rw [← hj0]
    rw [List.getElem?_set]
    by_cases e : j0 = j
    · subst e
      rw [if_pos rfl, if_pos (by rw [mst_length, ← hn]; exact hj)]
      congr 1
      unfold segD
      rw [hT, List.drop_append_of_le_length (by rw [hXl]; omega), List.take_of_length_le (by rw [List.length_append, List.length_drop, hXl, List.length_singleton]; rw [Nat.add_mul] at hj2; omega), foldD_snoc]
      rw [List.getD_eq_getElem?_getD, ih' j0 hj, List.getD_eq_getElem?_getD, hd]
      unfold segD
      rw [List.take_of_length_le (show (((padD ds size).take (lk + k)).drop (j0 * size)).length ≤ size by rw [List.length_drop, hXl]; rw [Nat.add_mul] at hj2; omega)]
      rfl
    · rw [if_neg e, ih' j hj]
      congr 2
      unfold segD
      rw [hT]
      by_cases h : j < j0
      · have : (j + 1) * size ≤ j0 * size := Nat.mul_le_mul_right _ h
        rw [Nat.add_mul] at this
        rw [List.drop_append_of_le_length (by rw [hXl]; omega), List.take_append_of_le_length (by rw [List.length_drop, hXl]; omega)]
      · have : (j0 + 1) * size ≤ j * size := Nat.mul_le_mul_right _ (by omega)
        rw [List.drop_of_length_le (by rw [hXl]; omega), List.drop_of_length_le (by rw [List.length_append, hXl, List.length_singleton]; omega)]
theorem mergedL_get (ds : List UInt8) {size : Nat} (hs : 1 ≤ size) (base : UInt8) {j : Nat} (hj : j < (ds.length + size - 1) / size) :
    (mergedL ds size base)[j]? = some (foldD base (((padD ds size).drop (j * size)).take size)) := by
  unfold mergedL
  rw [mst_get ds hs base ds.length (Nat.le_refl _) j hj]
  congr 2
  unfold segD
  rw [List.take_of_length_le (show (padD ds size).length ≤ size * ((ds.length + size - 1) / size) - ds.length + ds.length by unfold padD; rw [List.length_append, List.length_replicate]; omega)]
theorem mergedL_length (ds : List UInt8) (size : Nat) (base : UInt8) : (mergedL ds size base).length = (ds.length + size - 1) / size := by unfold mergedL; exact mst_length _ _ _ _
/-- Groups of a list. -/
def grp (n : Nat) (f : List UInt8 → UInt8) : Nat → List UInt8 → List UInt8
  | 0, _ => []
  | m + 1, P => f (P.take n) :: grp n f m (P.drop n)
theorem grp_length (n : Nat) (f : List UInt8 → UInt8) : ∀ m P, (grp n f m P).length = m
  | 0, _ => rfl
  | m + 1, P => by simp [grp, grp_length n f m]
theorem grp_get (n : Nat) (f : List UInt8 → UInt8) : ∀ m P j, j < m → (grp n f m P)[j]? = some (f ((P.drop (j * n)).take n))
  | 0, _, j, h => by omega
  | m + 1, P, 0, _ => by simp [grp]
  | m + 1, P, j + 1, h => by
    unfold grp
    rw [List.getElem?_cons_succ, grp_get n f m (P.drop n) j (by omega), List.drop_drop]
    congr 4
    rw [Nat.add_mul]; omega
theorem mergedL_grp (ds : List UInt8) {size : Nat} (hs : 1 ≤ size) (base : UInt8) : mergedL ds size base = grp size (foldD base) ((ds.length + size - 1) / size) (padD ds size) := by
  apply List.ext_getElem?
  intro j
  by_cases hj : j < (ds.length + size - 1) / size
  · rw [mergedL_get ds hs base hj, grp_get _ _ _ _ _ hj]
  · rw [List.getElem?_eq_none (by rw [mergedL_length]; omega), List.getElem?_eq_none (by rw [grp_length]; omega)]
/-- Digits put together again are the bytes. -/
theorem grp_split (n : Nat) (b : UInt8) (h : ∀ x, foldD b (digs x n b) = x) : ∀ l : List UInt8, grp n (foldD b) l.length (splitL l n b) = l
  | [] => rfl
  | x :: l => by
    unfold splitL
    rw [List.length_cons]
    unfold grp
    rw [List.take_append_of_le_length (by rw [digs_length]; exact Nat.le_refl _), List.take_of_length_le (by rw [digs_length]; exact Nat.le_refl _), h, List.drop_append_of_le_length (by rw [digs_length]; exact Nat.le_refl _), List.drop_of_length_le (by rw [digs_length]; exact Nat.le_refl _), List.nil_append, grp_split n b h l]
theorem merged_split {n : Nat} {b : UInt8} (hn : 1 ≤ n) {l : List UInt8} (h : ∀ x ∈ l, foldD b (digs x n b) = x) : mergedL (splitL l n b) n b = l := by
  rw [mergedL_grp _ hn]
  have e : ((splitL l n b).length + n - 1) / n = l.length := by
    rw [splitL_length]
    rw [show l.length * n + n - 1 = (n - 1) + n * l.length by rw [Nat.mul_comm]; omega, Nat.add_mul_div_left _ _ (by omega), Nat.div_eq_of_lt (by omega)]; omega
  have hp : padD (splitL l n b) n = splitL l n b := by
    unfold padD
    rw [e, splitL_length, Nat.mul_comm n, Nat.sub_self]; rfl
  rw [e, hp]
  clear e hp
  induction l with
  | nil => rfl
  | cons x l ih =>
    unfold splitL
    rw [List.length_cons]
    unfold grp
    rw [List.take_append_of_le_length (by rw [digs_length]; exact Nat.le_refl _), List.take_of_length_le (by rw [digs_length]; exact Nat.le_refl _), h x (by simp), List.drop_append_of_le_length (by rw [digs_length]; exact Nat.le_refl _), List.drop_of_length_le (by rw [digs_length]; exact Nat.le_refl _), List.nil_append, ih (fun y hy => h y (by simp [hy]))]
theorem fold_digs16 : ∀ x : UInt8, foldD 16 (digs x 2 16) = x := by
  have h : ∀ n : Fin 256, foldD 16 (digs (UInt8.ofNat n.val) 2 16) = UInt8.ofNat n.val := by decide +kernel
  intro x
  have := h ⟨x.toNat, x.toNat_lt⟩
  simpa using this
theorem fold_digs2 : ∀ x : UInt8, x.toNat < 16 → foldD 2 (digs x 4 2) = x := by
  have h : ∀ n : Fin 16, foldD 2 (digs (UInt8.ofNat n.val) 4 2) = UInt8.ofNat n.val := by decide +kernel
  intro x hx
  have := h ⟨x.toNat, hx⟩
  simpa using this
def c2xR (l : List UInt8) : Res := if validL l then (if 1000 < 2 * l.length then ([], 3) else ((splitL l 2 16).map hexB, 0)) else ([], 1)
def x2bR (l : List UInt8) : Res := match digitsL l 2 16 with
  | none => ([], 1)
  | some ds => if 1000 < 4 * ds.length then ([], 3) else ((splitL ds 4 2).map hexB, 0)
def b2xR (l : List UInt8) : Res := match digitsL l 4 2 with
  | none => ([], 1)
  | some ds => ((mergedL ds 4 2).map hexB, 0)
end Tx
end Go.Proofs.YtoilgjlbpimcpaaDoor
