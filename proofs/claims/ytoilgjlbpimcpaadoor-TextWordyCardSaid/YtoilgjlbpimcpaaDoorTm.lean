/- Plain words and lemmas on strings as lists of bytes. No program is imported here. -/
namespace Go.Proofs.YtoilgjlbpimcpaaDoor
namespace Tx

/-- The bytes of a string. -/
def bts (s : ByteArray) : List UInt8 := s.data.toList
/-- A byte from 32 to 126. -/
def padI (x : Int) : Bool := decide (32 ≤ x) && decide (x ≤ 126)
/-- Such bytes alone. -/
def cleanL (l : List UInt8) : Bool := l.all fun c => padI (c.toNat : Int)
/-- A valid string. -/
def validL (l : List UInt8) : Bool := decide (l.length ≤ 1000) && cleanL l
/-- A byte that came as a number. -/
def pb (p : Int) : UInt8 := p.toNat.toUInt8

theorem bts_length (s : ByteArray) : (bts s).length = s.size := by simp [bts]
theorem bts_get (s : ByteArray) {k : Nat} (h : k < s.size) : (bts s)[k]? = some s[k] := by
  unfold bts
  rw [List.getElem?_eq_getElem (by simpa using h)]
  rfl
theorem bts_mk (l : List UInt8) : bts ⟨l.toArray⟩ = l := by simp [bts]
theorem bts_empty : bts ⟨#[]⟩ = [] := rfl
theorem bts_append (a b : ByteArray) : bts (a ++ b) = bts a ++ bts b := by
  unfold bts; rw [ByteArray.data_append, Array.toList_append]
theorem bts_extract (s : ByteArray) (a b : Nat) : bts (s.extract a b) = ((bts s).drop a).take (b - a) := by
  unfold bts
  simp only [ByteArray.extract, ByteArray.copySlice]
  simp [List.take_drop]
  try omega
theorem bts_inj {s t : ByteArray} (h : bts s = bts t) : s = t := by
  cases s with
  | mk a =>
    cases t with
    | mk b =>
      unfold bts at h
      have : a = b := by simpa using h
      rw [this]

theorem take_snoc (l : List UInt8) (k : Nat) (c : UInt8) (h : l[k]? = some c) : l.take (k + 1) = l.take k ++ [c] := by
  rw [List.take_add_one, h]; rfl
theorem cleanL_snoc (l : List UInt8) (c : UInt8) : cleanL (l ++ [c]) = (cleanL l && padI (c.toNat : Int)) := by
  simp [cleanL, List.all_append]
theorem cleanL_append (l m : List UInt8) : cleanL (l ++ m) = (cleanL l && cleanL m) := by
  simp [cleanL, List.all_append]
theorem cleanL_at {l : List UInt8} {k : Nat} {c : UInt8} (h : l[k]? = some c) (hc : padI (c.toNat : Int) = false) : cleanL l = false := by
  cases e : cleanL l with
  | false => rfl
  | true =>
    have := (List.all_eq_true.1 e) c (List.mem_of_getElem? h)
    rw [hc] at this; cases this
theorem cleanL_take {l : List UInt8} (h : cleanL l = true) (k : Nat) : cleanL (l.take k) = true := by
  unfold cleanL at *
  rw [List.all_eq_true] at *
  intro x hx
  exact h x (List.mem_of_mem_take hx)
theorem cleanL_drop {l : List UInt8} (h : cleanL l = true) (k : Nat) : cleanL (l.drop k) = true := by
  unfold cleanL at *
  rw [List.all_eq_true] at *
  intro x hx
  exact h x (List.mem_of_mem_drop hx)

/-- A list fitted to a length. -/
def fitL (l : List UInt8) (n : Nat) (p : UInt8) : List UInt8 := l.take n ++ List.replicate (n - l.length) p
/-- Pads added, or bytes removed; of those at the beginning there are f of them. -/
def resL (f : Nat → Nat) (l : List UInt8) (n : Nat) (p : UInt8) : List UInt8 :=
  if n < l.length then (l.drop (f (l.length - n))).take n
  else List.replicate (f (n - l.length)) p ++ l ++ List.replicate (n - l.length - f (n - l.length)) p
/-- What a function answers: a string and an error. -/
abbrev Res := List UInt8 × Int
def resR (f : Nat → Nat) (l : List UInt8) (n : Int) (p : Int) : Res :=
  if validL l && padI p && decide (0 ≤ n) then (if 1000 < n then ([], 3) else (resL f l n.toNat (pb p), 0)) else ([], 1)
def reverseR (l : List UInt8) : Res := if validL l then (l.reverse, 0) else ([], 1)
end Tx
end Go.Proofs.YtoilgjlbpimcpaaDoor
