/- shuffled: two strings have the same bytes, each once. -/
import Derived.Test.YtoilgjlbpimcpaaDoorVs
import Derived.Test.YtoilgjlbpimcpaaDoorTt
import Derived.Maps.Views
import Derived.Maps.OwnOps
import Derived.Maps.Own
namespace Go.Proofs.YtoilgjlbpimcpaaDoor
open Go.RowKit Go.Shelf Tx Go.Maps
set_option linter.unusedVariables false
set_option maxRecDepth 100000

namespace Tx
def cnt (l : List UInt8) (x : UInt8) : Nat := l.count x
/-- Each byte of b, in its turn, has been counted once. -/
def shufL (a b : List UInt8) : Bool := (List.range b.length).all (fun j => cnt a (b.getD j 0) + cnt (b.take j) (b.getD j 0) == 1) && a.length == b.length
theorem cnt_snoc (l : List UInt8) (x y : UInt8) : cnt (l ++ [x]) y = if y = x then cnt l x + 1 else cnt l y := by
  unfold cnt
  rw [List.count_append, List.count_singleton]
  by_cases h : y = x
  · subst h; simp
  · rw [if_neg h]
    have : (x == y) = false := by simpa using fun e => h e.symm
    rw [this]; rfl
end Tx
/-- The map counts so. -/
def CntM (D : DataW Unit) (f : UInt8 → Nat) : Prop := IsMap D ∧ ∀ x : UInt8, D.atKey (.int .u8 (x.toNat : Int)) (.lit (.int .i64 0)) = .lit (.int .i64 (f x : Int))
theorem CntM.empty : CntM (.map []) (cnt []) := ⟨isMap_empty, fun x => rfl⟩
theorem CntM.at {D : DataW Unit} {f : UInt8 → Nat} {x : UInt8} {c : Int} (h : CntM D f) (hat : D.atKey (.int .u8 (x.toNat : Int)) (.lit (.int .i64 0)) = .lit (.int .i64 c)) : c = (f x : Int) := by
  rw [h.2 x] at hat
  injection hat with hat
  injection hat with _ hat
  exact hat.symm
theorem CntM.put {D : DataW Unit} {f g : UInt8 → Nat} {x : UInt8} (h : CntM D f) (hg : ∀ y, g y = if y = x then f x + 1 else f y) : CntM (D.put (.int .u8 (x.toNat : Int)) (.lit (.int .i64 ((f x : Int) + 1)))) g := by
  refine ⟨h.1.put _ _, fun y => ?_⟩
  by_cases e : y = x
  · subst e
    rw [atKey_put_same h.1 (by trivial), hg, if_pos rfl]
    congr 2
  · rw [atKey_put_other (by intro q; injection q with _ q; exact e (UInt8.toNat_inj.1 (by omega))), h.2, hg, if_neg e]
theorem lawU8 : Keyed Tryd.prog 5 := int_keyed Tryd.underlying5
theorem zeroI (w : World) : (zeroValue 3).run Tryd.prog w = .ok (.int .i64 0) w := by kernel_rfl
theorem u8_wf (x : UInt8) : (Lit.int .u8 (x.toNat : Int)).wf = true := WalkArith.wf_u8 (by have := x.toNat_lt; omega)
set_option maxHeartbeats 4000000 in
theorem shuffled_any (a b : ByteArray) (w : World) (ha : a.size ≤ 1000000) (hb : b.size ≤ 1000000) :
    Calls Tryd.prog 94 #[.string a, .string b] w fun e w' => e = .returned (.bool (shufL (bts a) (bts b))) ∧ Below w.heap.size w w' := by
  have hmm := @run_makeMap Tryd.prog
  go_enter Tryd.func94, Tryd.ntmps94
  go_wp2
  go_loopw [6] (fun i wr => ∃ (k : Nat) (D : DataW Unit), i = .int .i64 k ∧ k ≤ a.size ∧ Hid (CntM D (cnt ((bts a).take k))) ∧ Hid (wr.ownsMap Tryd.prog 5 (plainElem Tryd.prog 3) w.heap.size k D) ∧ Hid (Below w.heap.size w wr)) (fun i _ => a.size - (intOf i).toNat)
  case atStart => exact ⟨0, .map [], rfl, Nat.zero_le _, Lib.hid CntM.empty, Lib.hid (World.ownsMap_made _ _ _ _), Lib.hid ((Below.refl _ _).alloc (Nat.le_refl _) _)⟩
  case round =>
    obtain ⟨k, D, rfl, hk, hD, ho, hbl⟩ := hrel
    by_cases hlt : k < a.size
    · have HG := Lib.hid (bts_get a hlt)
      obtain ⟨x, hx⟩ : ∃ x, x = a[k] := ⟨_, rfl⟩
      have hxx : a[k] = x := hx.symm
      rw [← hx] at HG
      have HY := Lib.hid (take_snoc (bts a) k x HG.out)
      have hkey : keyOf Tryd.prog 5 (.int .u8 (x.toNat : Int)) = some (.int .u8 (x.toNat : Int)) := keyOf_int_mk Tryd.underlying5 (u8_wf x)
      obtain ⟨m, hm⟩ : ∃ m, m = cnt ((bts a).take k) x := ⟨_, rfl⟩
      have HM := Lib.hid hm
      have hml : m ≤ 1000000 := by rw [hm]; unfold cnt; exact Nat.le_trans List.count_le_length (by rw [List.length_take, bts_length]; omega)
      have hwm : IntKind.i64.wrap ((m : Int) + 1) = (m : Int) + 1 := IntWalk.i64_in _ (by omega)
      clear hx hm
      go_wp2_with (first
        | (at_lookup; refine wpList_lookup_own_int _ rfl _ _ 153 rfl 5 3 .i64 lawU8 Tryd.underlying153 Tryd.underlying3 (zeroI _) w.heap.size k D rfl ho.out _ _ rfl hkey ?_; intro c hat hwc; obtain rfl : c = (m : Int) := (by rw [HM.out]; exact hD.out.at hat); clear hat hwc)
        | (at_mapUpdate; refine wpList_mapUpdate_own _ rfl _ _ _ 153 rfl 5 3 lawU8 Tryd.underlying153 _ w.heap.size k D rfl ho.out (by unfold maxLen; omega) _ _ _ rfl rfl hkey _ [] (plainElem_int Tryd.underlying3 (WalkArith.wf_i64 (by omega))) ?_; intro w1 hown1 hgrow1; have HO := Lib.hid hown1; have HB := Lib.hid (hbl.out.grown hgrow1 hbl.out.size (fun j hj => by cases hj; exact Nat.le_refl _)); clear hown1 hgrow1))
      go_roundw
      case rel => exact ⟨k + 1, _, by go_num, by omega, Lib.hid (by rw [HM.out]; exact hD.out.put (fun y => by rw [HY.out, cnt_snoc])), HO, HB⟩
      case measure => simp [intOf]; omega
    · obtain rfl : k = a.size := by omega
      have hD2 := Lib.hid (show CntM D (cnt (bts a)) by have := hD.out; rwa [List.take_of_length_le (by rw [bts_length]; exact Nat.le_refl _)] at this)
      clear hD
      go_wp2
      go_loopw [7] (fun i wr => ∃ (k : Nat) (D : DataW Unit), i = .int .i64 k ∧ k ≤ b.size ∧ Hid (CntM D (fun x => cnt (bts a) x + cnt ((bts b).take k) x)) ∧ Hid (∀ j, j < k → (cnt (bts a) ((bts b).getD j 0) + cnt ((bts b).take j) ((bts b).getD j 0) == 1) = true) ∧ Hid (wr.ownsMap Tryd.prog 5 (plainElem Tryd.prog 3) w.heap.size (a.size + k) D) ∧ Hid (Below w.heap.size w wr)) (fun i _ => b.size - (intOf i).toNat)
      case atStart => exact ⟨0, D, rfl, Nat.zero_le _, Lib.hid (by rw [List.take_zero]; exact ⟨hD2.out.1, fun x => by rw [hD2.out.2 x]; rfl⟩), Lib.hid (fun j h => by omega), ho, hbl⟩
      case round =>
        obtain ⟨k, D, rfl, hk, hD, hall, ho, hbl⟩ := hrel
        by_cases hlt : k < b.size
        · have HG := Lib.hid (bts_get b hlt)
          obtain ⟨x, hx⟩ : ∃ x, x = b[k] := ⟨_, rfl⟩
          have hxx : b[k] = x := hx.symm
          rw [← hx] at HG
          have HY := Lib.hid (take_snoc (bts b) k x HG.out)
          have HGD := Lib.hid (show (bts b).getD k 0 = x by rw [List.getD_eq_getElem?_getD, HG.out]; rfl)
          have hkey : keyOf Tryd.prog 5 (.int .u8 (x.toNat : Int)) = some (.int .u8 (x.toNat : Int)) := keyOf_int_mk Tryd.underlying5 (u8_wf x)
          obtain ⟨m, hm⟩ : ∃ m, m = cnt (bts a) x + cnt ((bts b).take k) x := ⟨_, rfl⟩
          have HM := Lib.hid hm
          have hml : m ≤ 2000000 := by
            have h1 : cnt (bts a) x ≤ 1000000 := by unfold cnt; exact Nat.le_trans List.count_le_length (by rw [bts_length]; omega)
            have h2 : cnt ((bts b).take k) x ≤ 1000000 := by unfold cnt; exact Nat.le_trans List.count_le_length (by rw [List.length_take, bts_length]; omega)
            omega
          have hwm : IntKind.i64.wrap ((m : Int) + 1) = (m : Int) + 1 := IntWalk.i64_in _ (by omega)
          clear hx hm
          by_cases hm1 : m = 1
          · subst hm1
            go_wp2_with (first
              | (at_lookup; refine wpList_lookup_own_int _ rfl _ _ 153 rfl 5 3 .i64 lawU8 Tryd.underlying153 Tryd.underlying3 (zeroI _) w.heap.size (a.size + k) D rfl ho.out _ _ rfl hkey ?_; intro c hat hwc; obtain rfl : c = 1 := (by have := hD.out.at hat; rw [← HM.out] at this; exact this); clear hat hwc)
              | (at_mapUpdate; refine wpList_mapUpdate_own _ rfl _ _ _ 153 rfl 5 3 lawU8 Tryd.underlying153 _ w.heap.size (a.size + k) D rfl ho.out (by unfold maxLen; omega) _ _ _ rfl rfl hkey _ [] (plainElem_int Tryd.underlying3 (by decide)) ?_; intro w1 hown1 hgrow1; have HO := Lib.hid hown1; have HB := Lib.hid (hbl.out.grown hgrow1 hbl.out.size (fun j hj => by cases hj; exact Nat.le_refl _)); clear hown1 hgrow1))
            go_roundw
            case rel =>
              refine ⟨k + 1, _, by go_num, by omega, Lib.hid ?_, Lib.hid (fun j hj => ?_), HO, HB⟩
              · have := hD.out.put (x := x) (g := fun y => cnt (bts a) y + cnt ((bts b).take (k + 1)) y) (fun y => by
                  rw [HY.out, cnt_snoc]
                  by_cases e : y = x
                  · subst e; rw [if_pos rfl, if_pos rfl]; omega
                  · rw [if_neg e, if_neg e])
                rw [← HM.out] at this
                exact this
              · by_cases e : j = k
                · subst e; rw [HGD.out, ← HM.out]; rfl
                · exact hall.out j (by omega)
            case measure => simp [intOf]; omega
          · have HF := Lib.hid (show shufL (bts a) (bts b) = false by
              unfold shufL
              rw [Bool.and_eq_false_iff]
              left
              rw [List.all_eq_false]
              exact ⟨k, List.mem_range.2 (by rw [bts_length]; exact hlt), by rw [HGD.out, ← HM.out]; simpa using hm1⟩)
            have hm1' : ((m : Int) != 1) = true := by simp; omega
            go_wp2_with (at_lookup; refine wpList_lookup_own_int _ rfl _ _ 153 rfl 5 3 .i64 lawU8 Tryd.underlying153 Tryd.underlying3 (zeroI _) w.heap.size (a.size + k) D rfl ho.out _ _ rfl hkey ?_; intro c hat hwc; obtain rfl : c = (m : Int) := (by rw [HM.out]; exact hD.out.at hat); clear hat hwc)
            go_ret
            exact ⟨ret_b HF.out.symm, hbl.out⟩
        · obtain rfl : k = b.size := by omega
          have HF := Lib.hid (show shufL (bts a) (bts b) = (a.size == b.size) by
            unfold shufL
            rw [show (List.range (bts b).length).all (fun j => cnt (bts a) ((bts b).getD j 0) + cnt ((bts b).take j) ((bts b).getD j 0) == 1) = true by
              rw [List.all_eq_true]
              intro j hj
              rw [List.mem_range, bts_length] at hj
              exact hall.out j hj]
            rw [bts_length, bts_length]; rfl)
          by_cases hab : a.size = b.size
          · have hab2 : (a.size : Int) = (b.size : Int) := by omega
            have HF2 := Lib.hid (show shufL (bts a) (bts b) = true by rw [HF.out]; simp [hab])
            go_wp2
            go_ret
            exact ⟨by rw [HF2.out]; rfl, hbl.out⟩
          · have hab2 : ¬ (a.size : Int) = (b.size : Int) := by omega
            have HF2 := Lib.hid (show shufL (bts a) (bts b) = false by rw [HF.out]; simp [hab])
            go_wp2
            go_ret
            exact ⟨by rw [HF2.out]; first | rfl | (simp [hab2]; done) | (simp; omega), hbl.out⟩
end Go.Proofs.YtoilgjlbpimcpaaDoor
