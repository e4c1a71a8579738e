/- What the other program answers, as lists. No program is walked here. -/
import Derived.Test.YtoilgjlbpimcpaaDoorTv
import Derived.Test.YtoilgjlbpimcpaaDoorTi
namespace Go.Proofs.YtoilgjlbpimcpaaDoor
open Go.RowKit Go.Shelf Tx
set_option linter.unusedVariables false
set_option maxRecDepth 100000

namespace Tx
def outR (l : List UInt8) : Res := if 1000 < l.length then ([], 3) else cleanR l
def rfit (l : List UInt8) (n : Nat) (p : UInt8) : List UInt8 := if n ≤ l.length then l.take n else l ++ List.replicate (min n 1001 - l.length) p
theorem rfit_eq {l : List UInt8} {n : Nat} (p : UInt8) (hn : n ≤ 1001) : rfit l n p = fitL l n p := by
  unfold rfit fitL
  split
  · rw [show n - l.length = 0 by omega]; simp
  · rw [Nat.min_eq_left hn, List.take_of_length_le (by omega)]
theorem rfit_long {l : List UInt8} {n : Nat} (p : UInt8) (hl : l.length ≤ 1000) (hn : 1000 < n) : (rfit l n p).length = 1001 := by
  unfold rfit
  rw [if_neg (by omega)]
  simp
  omega
theorem pb_toNat {x : Int} (h : padI x = true) : ((pb x).toNat : Int) = x := by
  unfold padI at h
  rw [Bool.and_eq_true, decide_eq_true_eq, decide_eq_true_eq] at h
  unfold pb
  simp [Nat.toUInt8]
  omega
theorem clean_rep {p : UInt8} (h : padI (p.toNat : Int) = true) (k : Nat) : cleanL (List.replicate k p) = true := by
  unfold cleanL
  rw [List.all_eq_true]
  intro x hx
  rw [(List.mem_replicate.1 hx).2]
  exact h
theorem clean_fit {l : List UInt8} {p : UInt8} (hl : cleanL l = true) (h : padI (p.toNat : Int) = true) (n : Nat) : cleanL (fitL l n p) = true := by
  unfold fitL
  rw [cleanL_append, cleanL_take hl, clean_rep h]; rfl
theorem cleanR_ok {l : List UInt8} (h : cleanL l = true) : cleanR l = (l, 0) := by unfold cleanR; rw [h]; rfl
theorem outR_ok {l : List UInt8} (h : cleanL l = true) (hl : l.length ≤ 1000) : outR l = (l, 0) := by
  unfold outR; rw [if_neg (by omega), cleanR_ok h]
theorem outR_long {l : List UInt8} (hl : 1000 < l.length) : outR l = ([], 3) := by unfold outR; rw [if_pos hl]
theorem outR_fit {l : List UInt8} {p : UInt8} (hc : cleanL l = true) (hl : l.length ≤ 1000) (hp : padI (p.toNat : Int) = true) (n : Nat) : outR (rfit l n p) = if 1000 < n then ([], 3) else (fitL l n p, 0) := by
  by_cases h : 1000 < n
  · rw [if_pos h, outR_long (by rw [rfit_long p hl h]; omega)]
  · rw [if_neg h, rfit_eq p (by omega), outR_ok (clean_fit hc hp n) (by rw [fitL_length]; omega)]
def rinsB (p l : List UInt8) (n m : Nat) (x : UInt8) : Res :=
  if 1000 < n ∨ 1000 < m then ([], 3) else outR (rfit l n x ++ rfit p m x ++ l.drop n)
theorem rinsB_eq {p l : List UInt8} {x : UInt8} (hp : cleanL p = true) (hl : cleanL l = true) (hx : padI (x.toNat : Int) = true) (n m : Nat) : rinsB p l n m x = insertB p l n m x := by
  unfold rinsB insertB
  by_cases h : 1000 < n ∨ 1000 < m
  · rw [if_pos h, if_pos (by omega)]
  · rw [if_neg h, rfit_eq x (by omega), rfit_eq x (by omega)]
    have hlen : (fitL l n x ++ fitL p m x ++ l.drop n).length = max n l.length + m := by
      rw [List.length_append, List.length_append, fitL_length, fitL_length, List.length_drop]; omega
    have hc : cleanL (fitL l n x ++ fitL p m x ++ l.drop n) = true := by
      rw [cleanL_append, cleanL_append, clean_fit hl hx, clean_fit hp hx, cleanL_drop hl]; rfl
    by_cases h2 : 1000 < max n l.length + m
    · rw [if_pos h2, outR_long (by rw [hlen]; exact h2)]
    · rw [if_neg h2, outR_ok hc (by rw [hlen]; omega)]
def rovB (p l : List UInt8) (n m : Nat) (x : UInt8) : Res :=
  if 1000 < n ∨ 1000 < m then ([], 3) else outR (rfit l n x ++ rfit p m x ++ l.drop (n + m))
theorem rovB_eq {p l : List UInt8} {x : UInt8} (hp : cleanL p = true) (hl : cleanL l = true) (hll : l.length ≤ 1000) (hx : padI (x.toNat : Int) = true) (n m : Nat) : rovB p l n m x = overlayB p l n m x := by
  unfold rovB overlayB
  by_cases h : 1000 < n ∨ 1000 < m
  · rw [if_pos h, if_pos (by omega)]
  · rw [if_neg h, rfit_eq x (by omega), rfit_eq x (by omega)]
    have hlen : (fitL l n x ++ fitL p m x ++ l.drop (n + m)).length = max (n + m) l.length := by
      rw [List.length_append, List.length_append, fitL_length, fitL_length, List.length_drop]; omega
    have hc : cleanL (fitL l n x ++ fitL p m x ++ l.drop (n + m)) = true := by
      rw [cleanL_append, cleanL_append, clean_fit hl hx, clean_fit hp hx, cleanL_drop hl]; rfl
    by_cases h2 : 1000 < n + m
    · rw [if_pos h2, outR_long (by rw [hlen]; omega)]
    · rw [if_neg h2, outR_ok hc (by rw [hlen]; omega)]
end Tx
end Go.Proofs.YtoilgjlbpimcpaaDoor
