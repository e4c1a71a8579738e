/- X2C, BitXor. -/
import Derived.Test.YtoilgjlbpimcpaaDoorTy
import Derived.Test.YtoilgjlbpimcpaaDoorTo
namespace Go.Proofs.YtoilgjlbpimcpaaDoor
open Go.RowKit Go.Shelf Tx
set_option linter.unusedVariables false
set_option maxRecDepth 100000

namespace Tx
def x2cR (l : List UInt8) : Res := match digitsL l 2 16 with
  | none => ([], 1)
  | some ds => cleanR (mergedL ds 2 16)
theorem digitsL_le {l : List UInt8} {size base : Nat} {ds : List UInt8} (hv : l.length ≤ 1000) (h : digitsL l size base = some ds) : ds.length ≤ 1001000 := by
  unfold digitsL at h
  split at h
  · injection h with h
    rw [← h]
    have h1 := wordsV_le l (spans l)
    have h2 := spans_length l
    exact Nat.le_trans h1 (Nat.le_trans (Nat.mul_le_mul (show (spans l).length ≤ 1001 by omega) hv) (by omega))
  · cases h
theorem digitsL_valid {l : List UInt8} {size base : Nat} {ds : List UInt8} (h : digitsL l size base = some ds) : validL l = true := by
  unfold digitsL at h
  split at h
  · rename_i h'
    simp only [Bool.and_eq_true] at h'
    exact h'.1.1
  · cases h
theorem mergedL_le (ds : List UInt8) {size : Nat} (h : 1 ≤ size) (base : UInt8) : (mergedL ds size base).length ≤ ds.length := by
  unfold mergedL; rw [mst_length]; exact ceil_le _ _ h
end Tx

set_option maxHeartbeats 1000000 in
theorem X2C_any (s : ByteArray) (w : World) (hs : s.size ≤ maxLen) :
    Calls Tryd.prog 85 #[.string s] w (GivesS w (x2cR (bts s))) := by
  have KD := fun W => digitValues_any s 2 16 W hs (by omega) (by omega) (by omega) (by omega)
  cases hd : digitsL (bts s) 2 16 with
  | none =>
    have HR := Lib.hid (show x2cR (bts s) = ([], 1) by unfold x2cR; rw [hd])
    rw [hd] at KD
    have HKD := Lib.hid KD
    clear hd KD
    go_enter Tryd.func85, Tryd.ntmps85
    go_wp2_with (go_at_call 150; refine Calls.mono (HKD.out _) ?_; rintro e w1 ⟨v, b, rfl, hb1, rfl, rfl⟩)
    go_ret2
    exact givesS HR.out rfl hb1
  | some ds =>
    have HR := Lib.hid (show x2cR (bts s) = cleanR (mergedL ds 2 16) by unfold x2cR; rw [hd])
    have hv := digitsL_valid hd
    have hlen := valid_le hv
    have hdl := digitsL_le (by rw [bts_length]; exact hlen) hd
    have hml := mergedL_le ds (size := 2) (by omega) 16
    rw [hd] at KD
    have HKD := Lib.hid KD
    clear hd KD hv
    go_enter Tryd.func85, Tryd.ntmps85
    go_wp2_with (first
      | (go_at_call 150; refine Calls.mono (HKD.out _) ?_; rintro e w1 ⟨v, b, rfl, hb1, rfl, hrow⟩; have KM := Lib.hid (merged_any ds 2 16 w.heap.size v w1 hrow (by omega) (by omega) (by omega)); clear hrow)
      | (go_at_call 152; refine Calls.mono KM.out ?_; rintro e w2 ⟨v2, rfl, hrow2, hb2⟩; obtain ⟨t, hconv, ht⟩ := conv_row hrow2; have hts := size_of_bts ht; have HT := Lib.hid ht; have KC := Lib.hid (clean_any t w2 (by unfold maxLen; omega)); clear hrow2 ht)
      | (go_at_call 151; refine Calls.mono KC.out ?_; rintro e w3 ⟨t3, rfl, ht3, hb3⟩))
    go_ret2
    refine ⟨t3, by rw [HR.out, ← HT.out]; rfl, by rw [HR.out, ← HT.out]; exact ht3, ?_⟩
    exact Bl.step (Bl.step hb1 hb2) hb3
set_option maxHeartbeats 1000000 in
theorem BitXor_any (u v : ByteArray) (p : Int) (w : World) (hsu : u.size ≤ maxLen) (hsv : v.size ≤ maxLen) (hp2 : p ≤ 9223372036854775807) :
    Calls Tryd.prog 82 #[.string u, .string v, .int .i64 p] w (GivesS w (bitsR opXor (bts u) (bts v) p)) := by
  have KC := Lib.hid (combinedXor_any u v p w hsu hsv hp2)
  clear hp2
  go_enter Tryd.func82, Tryd.ntmps82
  go_wp2_with (go_at_call 144; refine Calls.mono KC.out ?_; rintro e w3 ⟨t3, rfl, ht3, hb3⟩)
  go_ret2
  exact ⟨t3, rfl, ht3, hb3⟩
end Go.Proofs.YtoilgjlbpimcpaaDoor
