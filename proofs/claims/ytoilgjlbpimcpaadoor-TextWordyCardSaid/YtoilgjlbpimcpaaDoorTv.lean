/- Bitwise operations. -/
import Derived.Test.YtoilgjlbpimcpaaDoorTu
import Derived.Laws.BytesArg
namespace Go.Proofs.YtoilgjlbpimcpaaDoor
open Go.RowKit Go.Shelf Tx
set_option linter.unusedVariables false
set_option maxRecDepth 100000
attribute [local go_sem] Oper.semAt_some

namespace Tx
def cleanR (l : List UInt8) : Res := if cleanL l then (l, 0) else ([], 8)
/-- A bitwise operation on two strings. -/
def bitsB (f : UInt8 → UInt8 → UInt8) (l m : List UInt8) (p : Int) : Res :=
  if p = -1 then cleanR (zipP f (l.take (min l.length m.length)) (m.take (min l.length m.length)) 255 ++ (l.drop (min l.length m.length) ++ m.drop (min l.length m.length)))
  else cleanR (zipP f l m (pb p) ++ [])
def bitsR (f : UInt8 → UInt8 → UInt8) (l m : List UInt8) (p : Int) : Res :=
  guardR (validL l && validL m && (decide (p = -1) || decide (32 ≤ p)) && decide (p ≤ 126)) (bitsB f l m p)
end Tx
set_option maxHeartbeats 400000 in
theorem clean_any (s : ByteArray) (w : World) (hs : s.size ≤ maxLen) : Calls Tryd.prog 151 #[.string s] w (GivesS w (cleanR (bts s))) := by
  have KC := fun W => Lib.hid (isClean_any s W hs)
  clear hs
  cases hc : cleanL (bts s) with
  | true =>
    rw [hc] at KC
    have HR := Lib.hid (show cleanR (bts s) = (bts s, 0) by unfold cleanR; rw [hc]; rfl)
    clear hc
    go_enter Tryd.func151, Tryd.ntmps151
    go_wp2_with (go_at_call 111; refine Calls.mono (KC _).out ?_; rintro e w1 ⟨rfl, hb⟩)
    go_ret2
    exact givesS HR.out rfl hb
  | false =>
    rw [hc] at KC
    have HR := Lib.hid (show cleanR (bts s) = ([], 8) by unfold cleanR; rw [hc]; rfl)
    clear hc
    go_enter Tryd.func151, Tryd.ntmps151
    go_wp2_with (go_at_call 111; refine Calls.mono (KC _).out ?_; rintro e w1 ⟨rfl, hb⟩)
    go_ret2
    exact givesS HR.out rfl hb
set_option maxHeartbeats 400000 in
theorem pairs_any (u v : ByteArray) (x : Int) (fv : Value) (w : World) (hfv : ∃ k, fv = .func (.func k) #[] #[]) :
    Calls Tryd.prog 170 #[.string u, .string v, .int .u8 x, fv] w fun e w' =>
      e = .returned (.func (.func 184) #[] #[.pointer (some ⟨w.heap.size, 0, none⟩), .pointer (some ⟨w.heap.size + 1, 0, none⟩), .pointer (some ⟨w.heap.size + 1 + 1, 0, none⟩), .pointer (some ⟨w.heap.size + 1 + 1 + 1, 0, none⟩)]) ∧
      (((w.alloc (.cells #[.string u] 9)).alloc (.cells #[.string v] 9)).alloc (.cells #[.int .u8 x] 5)).alloc (.cells #[fv] 146) = w' := by
  obtain ⟨k, rfl⟩ := hfv
  go_enter Tryd.func170, Tryd.ntmps170
  go_wp2
  go_ret
  exact ⟨rfl, rfl⟩
theorem only_below {a w : World} (h : Below a.heap.size a w) : a.grownBy w none := ⟨h.os, h.tape, h.output, h.size, fun i hi _ => h.block i hi⟩
/-- Between two rounds: the bytes that have come. -/
structure CollAt (w : World) (D : Nat) (fv : Value) (pre : List (Nat × UInt8)) (W : World) : Prop where
  f : Boxed W (D + 1 + 1 + 1 + 1) 146 fv
  v : ∃ v, Boxed W D 89 v ∧ W.ownsRow w.heap.size 5 1 v pre.length (pre.map (fun x => u8v x.2)) ∧ True
  b : Below w.heap.size w W
theorem CollAt.own (w : World) (D : Nat) (fv : Value) (B : Nat) (hB : w.heap.size ≤ B) : OwnFrom B (CollAt w D fv) := by
  rintro pre X Y row ⟨h0, h1, h2⟩ hg hrow
  exact ⟨h0.kept hg (boxed_not_row (fun r e => (hrow r e).2) h0), holdsRow_own w.heap.size D 89 5 1 (fun p : List (Nat × UInt8) => p.length) (fun p => p.map (fun x => u8v x.2)) (fun _ _ => True) pre X Y row h1 hg (fun r e => (hrow r e).2), h2.grown hg h2.size (fun k e => Nat.le_trans hB (hrow k e).1)⟩
theorem conv_row {w : World} {B : Nat} {v : Value} {l : List UInt8} (h : w.ownsRow B 5 1 v l.length (l.map u8v)) : ∃ t, (convert 89 9 v).run Tryd.prog w = .ok (.string t) w ∧ bts t = l := by
  obtain ⟨hl, ⟨rfl, h0⟩ | ⟨g, cap, cur, rfl, hB, hg, hc, hm, hs, ht⟩⟩ := h
  · have : l = [] := List.eq_nil_of_length_eq_zero h0
    subst this
    exact ⟨_, run_convert_bytes_nil w 89 5 Tryd.underlying89 Tryd.underlying5 0 0 9 Tryd.underlying9, rfl⟩
  · refine ⟨_, conv_str (fun i c hi => ?_), bts_mk l⟩
    have hlt := (List.getElem?_eq_some_iff.1 hi).1
    have h1 : (cur.toList.take (l.length * 1))[i]? = some (u8v c) := by rw [ht, List.getElem?_map, hi]; rfl
    rw [List.getElem?_take, if_pos (by omega), Array.getElem?_toList] at h1
    simp only [World.cell?, hg, Nat.zero_add]
    simpa using h1
theorem four_new (w : World) (u v : ByteArray) (x : Int) (fv : Value) (t1 t2 t3 t4 : TypeId) : Four ((((w.alloc (.cells #[.string u] t1)).alloc (.cells #[.string v] t2)).alloc (.cells #[.int .u8 x] t3)).alloc (.cells #[fv] t4)) w.heap.size (w.heap.size + 1) (w.heap.size + 1 + 1) (w.heap.size + 1 + 1 + 1) u v x fv :=
  ⟨cellUp (cellUp (cellUp (cellAt rfl) (by simp)) (by first | omega | (simp; done) | (simp; omega))) (by first | omega | (simp; done) | (simp; omega)), cellUp (cellUp (cellAt (by simp)) (by simp)) (by first | omega | (simp; done) | (simp; omega)), cellUp (cellAt (by simp)) (by simp), cellAt (by simp)⟩
theorem pairsXor_stops (b1 b2 b3 b4 : Nat) (u v : ByteArray) (x : Int) (w : World) (hu : u.size ≤ 1000) (hv : v.size ≤ 1000) (hx0 : 0 ≤ x) (hx1 : x < 256)
    (hF : Four w b1 b2 b3 b4 u v x (.func (.func 147) #[] #[])) (h1 : b1 < w.heap.size) (h2 : b2 < w.heap.size) (h3 : b3 < w.heap.size) (h4 : b4 < w.heap.size) (w' : World) (hw' : Below w.heap.size w w') :
    SeqStopsK Fence.wide 2 Tryd.prog 184 #[.pointer (some ⟨b1, 0, none⟩), .pointer (some ⟨b2, 0, none⟩), .pointer (some ⟨b3, 0, none⟩), .pointer (some ⟨b4, 0, none⟩)] (fun y : Nat × UInt8 => #[.int .i64 (y.1 : Int), .int .u8 (y.2.toNat : Int)]) (fun A B => B.cell? ⟨b4, 0, none⟩ = A.cell? ⟨b4, 0, none⟩)
      (fun xs => xs = idx (zipP opXor (bts u) (bts v) (pb x))) (fun pre => ∃ r, pre ++ r = idx (zipP opXor (bts u) (bts v) (pb x))) 1000 w' := by
  intro l J Jx W hW hJ hJx hY hJ0
  have hz := hw'.size
  refine (pairsXor_in l b1 b2 b3 b4 w.heap.size u v x hu hv hx0 hx1 J Jx hY (fun pre A B hA hAB => hJ pre A B none hA (only_below hAB) (fun r e => by cases e)) W ?_ h1 h2 h3 h4 (Nat.le_trans hz hW.size) hJ0).mono ?_
  · exact (hF.below hw' h1 h2 h3 h4).below hW (Nat.lt_of_lt_of_le h1 hz) (Nat.lt_of_lt_of_le h2 hz) (Nat.lt_of_lt_of_le h3 hz) (Nat.lt_of_lt_of_le h4 hz)
  · intro e W' h; exact h

set_option maxHeartbeats 8000000 in
theorem combinedXor_any (u v : ByteArray) (p : Int) (w : World) (hsu : u.size ≤ maxLen) (hsv : v.size ≤ maxLen) (hp2 : p ≤ 9223372036854775807) :
    Calls Tryd.prog 144 #[.string u, .string v, .int .i64 p, .func (.func 147) #[] #[]] w (GivesS w (bitsR opXor (bts u) (bts v) p)) := by
  have KVuv := fun (W : World) (pp : Nat) (hp : pp < W.heap.size) (hc : At W pp [.string u, .string v]) => Lib.hid (areValid2 pp u v W hsu hsv hp hc)
  have KMp := fun (W : World) => Lib.hid (isMissingOr_any 32 p W)
  cases hv0 : validL (bts u) && validL (bts v) with
  | false =>
    rw [hv0] at KVuv
    have HR := Lib.hid (show bitsR opXor (bts u) (bts v) p = ([], 1) by unfold bitsR guardR; simp only [hv0, Bool.and_false, Bool.false_and, Bool.true_and, Bool.and_true]; rfl)
    clear hv0
    rw [← callsIn_wide (n := 3)]
    refine callsIn_of_wp_marks Tryd.func144 rfl trivial ?_ rfl
    simp only [Tryd.ntmps144, List.size_toArray, List.length_cons, List.length_nil, Nat.reduceAdd, Nat.reduceSub, Array.replicate_succ, Array.replicate_zero, List.push_toArray, List.append_toArray, List.nil_append, List.cons_append]
    gi_wp2_with (first
      | (refine ⟨trivial, ?_⟩; gi_at_call 99; refine CallsIn.mono (callsIn_wide.2 (KVuv _ _ (by simp) (At.new2 _ _ _ _)).out) ?_; rintro e w1 ⟨rfl, hb1⟩; have B1 : Below w.heap.size w w1 := Bl.step (by repeat (first | assumption | exact Below.refl _ _ | refine Bl.alloc ?_ _ | refine Bl.drew ?_)) hb1)
      | (refine ⟨trivial, ?_⟩; rename_i hKK; refine hKK _ _ ?_))
    gi_wp2
    exact ⟨_, results_tmp2 rfl _ _ _, givesS HR.out rfl (by repeat (first | assumption | exact Below.refl _ _ | refine Bl.alloc ?_ _ | refine Bl.drew ?_))⟩
  | true =>
    rw [hv0] at KVuv
    cases hv1 : (decide (p = -1) || decide (32 ≤ p)) with
    | false =>
      rw [hv1] at KMp
      have HR := Lib.hid (show bitsR opXor (bts u) (bts v) p = ([], 1) by unfold bitsR guardR; simp only [hv0, hv1, Bool.and_false, Bool.false_and, Bool.true_and, Bool.and_true]; rfl)
      clear hv0 hv1
      rw [← callsIn_wide (n := 3)]
      refine callsIn_of_wp_marks Tryd.func144 rfl trivial ?_ rfl
      simp only [Tryd.ntmps144, List.size_toArray, List.length_cons, List.length_nil, Nat.reduceAdd, Nat.reduceSub, Array.replicate_succ, Array.replicate_zero, List.push_toArray, List.append_toArray, List.nil_append, List.cons_append]
      gi_wp2_with (first
        | (refine ⟨trivial, ?_⟩; gi_at_call 99; refine CallsIn.mono (callsIn_wide.2 (KVuv _ _ (by simp) (At.new2 _ _ _ _)).out) ?_; rintro e w1 ⟨rfl, hb1⟩; have B1 : Below w.heap.size w w1 := Bl.step (by repeat (first | assumption | exact Below.refl _ _ | refine Bl.alloc ?_ _ | refine Bl.drew ?_)) hb1)
        | (refine ⟨trivial, ?_⟩; gi_at_call 112; refine CallsIn.mono (callsIn_wide.2 (KMp _).out) ?_; rintro e w3 ⟨rfl, hb3⟩; have B3 : Below w.heap.size w w3 := Bl.step (by repeat (first | assumption | exact Below.refl _ _ | refine Bl.alloc ?_ _ | refine Bl.drew ?_)) hb3)
        | (refine ⟨trivial, ?_⟩; rename_i hKK; refine hKK _ _ ?_))
      gi_wp2
      exact ⟨_, results_tmp2 rfl _ _ _, givesS HR.out rfl (by repeat (first | assumption | exact Below.refl _ _ | refine Bl.alloc ?_ _ | refine Bl.drew ?_))⟩
    | true =>
      rw [hv1] at KMp
      have hlen := valid_le (Bool.and_eq_true_iff.1 hv0).1
      have hlen2 := valid_le (Bool.and_eq_true_iff.1 hv0).2
      by_cases hp126 : p ≤ 126
      · have hpd : decide (126 < p) = false := decide_eq_false (by omega)
        by_cases hm : p = -1
        · subst hm
          have hwp : IntKind.u8.wrap (-1) = 255 := by decide
          have HR := Lib.hid (show bitsR opXor (bts u) (bts v) (-1) = cleanR (zipP opXor ((bts u).take (min u.size v.size)) ((bts v).take (min u.size v.size)) (pb 255) ++ ((bts u).drop (min u.size v.size) ++ (bts v).drop (min u.size v.size))) by unfold bitsR guardR bitsB; rw [hv0, hv1, bts_length, bts_length]; rfl)
          have HMN : ((min u.size v.size : Nat) : Int) = min (u.size : Int) (v.size : Int) := by omega
          have KAU := fun W => Lib.hid (after_any u (min u.size v.size) W hsu)
          have KAV := fun W => Lib.hid (after_any v (min u.size v.size) W hsv)
          have KBU := fun W => Lib.hid (before_any u (min u.size v.size) W hsu)
          have KBV := fun W => Lib.hid (before_any v (min u.size v.size) W hsv)
          rw [HMN] at KAU KAV KBU KBV
          clear hv0 hv1 HMN
          rw [← callsIn_wide (n := 3)]
          refine callsIn_of_wp_marks Tryd.func144 rfl trivial ?_ rfl
          simp only [Tryd.ntmps144, List.size_toArray, List.length_cons, List.length_nil, Nat.reduceAdd, Nat.reduceSub, Array.replicate_succ, Array.replicate_zero, List.push_toArray, List.append_toArray, List.nil_append, List.cons_append]
          gi_wp2_with (first
            | (refine ⟨trivial, ?_⟩; gi_at_call 99; refine CallsIn.mono (callsIn_wide.2 (KVuv _ _ (by simp) (At.new2 _ _ _ _)).out) ?_; rintro e w1 ⟨rfl, hb1⟩; have B1 : Below w.heap.size w w1 := Bl.step (by repeat (first | assumption | exact Below.refl _ _ | refine Bl.alloc ?_ _ | refine Bl.drew ?_)) hb1)
            | (refine ⟨trivial, ?_⟩; gi_at_call 112; refine CallsIn.mono (callsIn_wide.2 (KMp _).out) ?_; rintro e w3 ⟨rfl, hb3⟩; have B3 : Below w.heap.size w w3 := Bl.step (by repeat (first | assumption | exact Below.refl _ _ | refine Bl.alloc ?_ _ | refine Bl.drew ?_)) hb3)
            | (refine ⟨trivial, ?_⟩; gi_at_call 113; (with_reducible refine CallsIn.mono (callsIn_wide.2 (KAU _).out) ?_); rintro e w4 ⟨a1, rfl, ha1, rfl⟩; have hsa1 : a1.size ≤ 1000 := (by have := size_of_bts ha1.out; rw [List.length_drop, bts_length] at this; omega))
            | (refine ⟨trivial, ?_⟩; gi_at_call 113; (with_reducible refine CallsIn.mono (callsIn_wide.2 (KAV _).out) ?_); rintro e w4 ⟨a2, rfl, ha2, rfl⟩; have hsa2 : a2.size ≤ 1000 := (by have := size_of_bts ha2.out; rw [List.length_drop, bts_length] at this; omega))
            | (refine ⟨trivial, ?_⟩; gi_at_call 115; (with_reducible refine CallsIn.mono (callsIn_wide.2 (KBU _).out) ?_); rintro e w4 ⟨su, rfl, hsu, rfl⟩; have hssu : su.size ≤ 1000 := (by have := size_of_bts hsu.out; rw [List.length_take, bts_length] at this; omega))
            | (refine ⟨trivial, ?_⟩; gi_at_call 115; (with_reducible refine CallsIn.mono (callsIn_wide.2 (KBV _).out) ?_); rintro e w4 ⟨sv, rfl, hsv, rfl⟩; have hssv : sv.size ≤ 1000 := (by have := size_of_bts hsv.out; rw [List.length_take, bts_length] at this; omega))
            | (refine ⟨trivial, ?_⟩; gi_at_call 170; refine CallsIn.mono (callsIn_wide.2 (pairs_any _ _ _ _ _ ⟨_, rfl⟩)) ?_; rintro e w5 ⟨rfl, rfl⟩)
            | (refine ⟨trivial, ?_⟩; rename_i hKK; refine hKK _ _ ?_))
          obtain ⟨rs, hrs⟩ : ∃ rs, rs = a1 ++ a2 := ⟨_, rfl⟩
          have hrss : rs.size ≤ 2000 := by rw [hrs, ByteArray.size_append]; omega
          have HR := Lib.hid (show bitsR opXor (bts u) (bts v) (-1) = cleanR (zipP opXor (bts su) (bts sv) (pb 255) ++ bts rs) by rw [HR.out, hrs, bts_append, ha1.out, ha2.out, hsu.out, hsv.out])
          rw [← hrs]
          clear hrs
          obtain ⟨D, hD⟩ : ∃ D, D = w3.heap.size := ⟨_, rfl⟩
          have bD := ((((Boxed.new w3 89 (.slice none 0 0)).alloc (.cells #[.string su] 9)).alloc (.cells #[.string sv] 9)).alloc (.cells #[.int .u8 255] 5)).alloc (.cells #[.func (.func 147) #[] #[]] 146)
          have bF := Boxed.new ((((w3.alloc (.cells #[.slice none 0 0] 89)).alloc (.cells #[.string su] 9)).alloc (.cells #[.string sv] 9)).alloc (.cells #[.int .u8 255] 5)) 146 (.func (.func 147) #[] #[])
          have h4 := four_new (w3.alloc (.cells #[.slice none 0 0] 89)) su sv 255 (.func (.func 147) #[] #[]) 9 9 5 146
          obtain ⟨W4, hW4⟩ : ∃ W4, W4 = ((((w3.alloc (.cells #[.slice none 0 0] 89)).alloc (.cells #[.string su] 9)).alloc (.cells #[.string sv] 9)).alloc (.cells #[.int .u8 255] 5)).alloc (.cells #[.func (.func 147) #[] #[]] 146) := ⟨_, rfl⟩
          have hz4 : W4.heap.size = w3.heap.size + 1 + 1 + 1 + 1 + 1 := by rw [hW4]; simp
          have hB4 : Below w.heap.size w W4 := by rw [hW4]; exact Bl.alloc (Bl.alloc (Bl.alloc (Bl.alloc (Bl.alloc B3 _) _) _) _) _
          simp only [World.size_alloc] at bD bF h4
          rw [← hW4] at bD bF h4 ⊢
          rw [← hD] at bD bF h4 hz4 ⊢
          have hwD : w.heap.size ≤ D := by rw [hD]; exact B3.size
          have hST := fun W' hW' => pairsXor_stops (D + 1) (D + 1 + 1) (D + 1 + 1 + 1) (D + 1 + 1 + 1 + 1) su sv 255 W4 (by omega) (by omega) (by omega) (by omega) h4 (by omega) (by omega) (by omega) (by omega) W' hW'
          obtain ⟨P, hP⟩ : ∃ P, P = zipP opXor (bts su) (bts sv) (pb 255) := ⟨_, rfl⟩
          rw [← hP] at hST HR
          have HST := Lib.hid hST
          have HPE := Lib.hid hP
          clear hD hW4 h4 hST hP
          refine wpIn_rangeFunc_ownG rfl (by omega) (gf := 184) (lb := #[.pointer (some ⟨D + 1, 0, none⟩), .pointer (some ⟨D + 1 + 1, 0, none⟩), .pointer (some ⟨D + 1 + 1 + 1, 0, none⟩), .pointer (some ⟨D + 1 + 1 + 1 + 1, 0, none⟩)]) rfl trivial (enters_of Tryd.func184 (by kernel_rfl) rfl) (HST.out _ (Below.refl _ _)) (fun h k => k.trans h) (fun W l o o' hl _ _ _ => World.cell?_of_block (World.putObj_heap_other (by simp; omega))) (Below.refl _ _) (fun _ => rfl)
            (CollAt w D (.func (.func 147) #[] #[])) (fun _ _ _ => False) (CollAt.own w D _ _ (by omega)) (fun _ _ _ _ _ hs _ _ => hs)
            ⟨bF, ⟨_, bD, World.ownsRow_nil _ _ _ _, trivial⟩, hB4⟩
            (fun y => { tmps := #[.string su, .string sv, .int .i64 (-1), .func (.func 147) #[] #[], undef, undef, undef, undef, .string ⟨#[]⟩, .int .i64 0, .string rs, .int .i64 (min (u.size : Int) (v.size : Int)), .pointer (some ⟨D, 0, none⟩), undef, .int .u8 (y.2.toNat : Int), .string u, .string v, .slice (some ⟨w.heap.size, 0, none⟩) 2 2, .bool true, .bool false, .bool false, .int .i64 (-1), .bool true, .bool false, .bool false, .bool false, .int .i64 (-1), .bool false, .bool false, .int .i64 (-1), .bool true, .string u, .int .i64 (u.size : Int), .string v, .int .i64 (v.size : Int), .int .i64 (min (u.size : Int) (v.size : Int)), .string u, .int .i64 (min (u.size : Int) (v.size : Int)), .string a1, .string v, .int .i64 (min (u.size : Int) (v.size : Int)), .string a2, .string rs, .string u, .int .i64 (min (u.size : Int) (v.size : Int)), .string su, .string v, .int .i64 (min (u.size : Int) (v.size : Int)), .string sv, .string su, .string sv, .int .i64 (-1), .int .u8 255, .func (.func 147) #[] #[], .func (.func 184) #[] #[.pointer (some ⟨D + 1, 0, none⟩), .pointer (some ⟨D + 1 + 1, 0, none⟩), .pointer (some ⟨D + 1 + 1 + 1, 0, none⟩), .pointer (some ⟨D + 1 + 1 + 1 + 1, 0, none⟩)], .int .i64 (y.1 : Int), .int .u8 (y.2.toNat : Int), undef, undef, undef, undef, undef, undef, undef, undef, undef, undef, undef], defers := [] }) ?assign ?body ?done ?stop
          case assign =>
            intro l y W K hK
            gi_wp2
            exact hK
          case body =>
            rintro l pre y W ⟨hF, ⟨v0, bv, hv, _⟩, hB1⟩ hlt
            obtain ⟨yi, yb⟩ := y
            have c1 := bv.cell
            have c2 := bv.frozen
            obtain ⟨i5, hi, hz0, hz1, hz2⟩ := info_parts info5
            have HV := Lib.hid hv
            have HBV := Lib.hid bv
            have HFX := Lib.hid hF
            have hsz := hB1.size
            have HB1 := Lib.hid hB1
            obtain ⟨pl, hpl⟩ : ∃ pl, pl = pre.length := ⟨_, rfl⟩
            have hpl' : pl ≤ 2000000 := by omega
            have HPL := Lib.hid hpl
            rw [← hpl] at HV
            clear hv bv hB1 hpl hlt hF
            gi_wp2_with (gi_at_builtin; refine wpListIn_append_own _ rfl _ _ 89 rfl w.heap.size 5 i5 (.int .u8 0) 1 1 Tryd.underlying89 hi hz0 hz1 hz2 rfl (by decide) _ _ _ rfl (HV.out.alloc _) ⟨W.heap.size, 0, none⟩ 1 1 [.int .u8 (yb.toNat : Int)] rfl rfl ?c1 ?c2 (by unfold maxLen; omega) (by omega) (by simp; omega) ?_)
            case c1 =>
              intro j u hj
              match j, hj with
              | 0, hj => simp at hj; subst hj; simp [Addr.add]
            case c2 =>
              intro u hu
              simp at hu
              rw [hu]; rfl
            intro v' w4 hown' hgrow hnil
            obtain ⟨g', cap', rfl⟩ := ownsRow_succ hown'
            obtain ⟨hb3, hb4, hr4, hk4, hbl4⟩ := Boxed.appended HBV.out (by decide) HV.out hsz (by omega) hown' hgrow
            have e3 := hb3.cell
            have e4 := hb3.frozen
            have hF4 := ((HFX.out.alloc (.cells #[.int .u8 (yb.toNat : Int)] 5)).kept hgrow (HFX.out.not_row (by decide) HV.out)).kept (grownBy_setCell' w4 D (.slice (some ⟨g', 0, none⟩) (pl + 1) cap')) (by simp; omega)
            have HF4 := Lib.hid hF4
            clear hF4
            gi_wp2
            refine ⟨hk4.from _, ?_, HF4.out, ⟨_, hb4, ?_, trivial⟩, HB1.out.trans hbl4⟩
            · show World.cell? _ _ = World.cell? _ _
              rw [HF4.out.cell, HFX.out.cell]
            · rw [List.map_append, List.length_append, ← HPL.out]
              exact hr4
          case done =>
            rintro DD ys W hDD hys ⟨hF, ⟨v0, bv, hv, _⟩, hB1⟩ hK
            have c1 := bv.cell
            have hl2 : ys.map (fun x => u8v x.2) = P.map u8v := by
              rw [hys]
              have := idx_snd P
              rw [show (fun x : Nat × UInt8 => u8v x.2) = u8v ∘ (fun x => x.2) from rfl, ← List.map_map, this]
            have hl3 : ys.length = P.length := by rw [hys, idx_length]
            rw [hl2, hl3] at hv
            have hPl : P.length ≤ 1000 := by rw [HPE.out, zipP_length, bts_length, bts_length]; omega
            obtain ⟨t, hconv, ht⟩ := conv_row hv
            have hts := size_of_bts ht
            have hts' : t.size ≤ 1000 := by omega
            have HT := Lib.hid ht
            have HB1 := Lib.hid hB1
            have HK := Lib.hid hK
            have HDD := Lib.hid hDD
            have HV := Lib.hid hv
            obtain ⟨va, vn, vc, hva⟩ : ∃ va vn vc, v0 = .slice va vn vc := by
              obtain ⟨_, ⟨e, _⟩ | ⟨g, cap, cur, e, _⟩⟩ := hv
              · exact ⟨_, _, _, e⟩
              · exact ⟨_, _, _, e⟩
            subst hva
            have hRS : rs.size ≤ 2000 := by first | omega | decide
            have KCL := fun W => Lib.hid (clean_any (t ++ rs) W (by unfold maxLen; rw [ByteArray.size_append]; omega))
            obtain ⟨r, hr⟩ : ∃ r, r = cleanR (bts (t ++ rs)) := ⟨_, rfl⟩
            have HR2 := Lib.hid (show bitsR opXor (bts u) (bts v) (-1) = r by rw [HR.out, hr, bts_append, HT.out])
            rw [← hr] at KCL
            clear hys hl2 hl3 hF bv hv hB1 hK ht hr hDD hts
            gi_wp2_with (refine ⟨trivial, ?_⟩; gi_at_call 151; refine CallsIn.mono (callsIn_wide.2 (KCL _).out) ?_; rintro e w6 ⟨t6, rfl, ht6, hb6⟩)
            have hDW := (Array.getElem?_eq_some_iff.1 HK.out).1
            have hK6 : w6.heap[DD]? = some (.deferred (some [])) := (hb6.block DD hDW).trans HK.out
            refine ⟨by simp, .inl ⟨_, _, rfl, run_takeDeferred hK6, ?_⟩⟩
            refine ⟨_, results_tmp2 rfl _ _ _, ?_⟩
            refine ⟨t6, by rw [HR2.out]; rfl, by rw [HR2.out]; exact ht6, ?_⟩
            have hDDw : w.heap.size ≤ DD := Nat.le_trans hB4.size HDD.out
            exact (Bl.step HB1.out hb6).trans (belowK_b (w := w) (Nat.le_refl _) w6 DD _ _ hDDw hK6 rfl rfl)
          case stop =>
            rintro DD c pre W _ _ h _
            exact h.elim
        · have hp32 : 32 ≤ p := by
            rw [decide_eq_false hm, Bool.false_or] at hv1
            exact of_decide_eq_true hv1
          have hmb : (p == -1) = false := by simpa using hm
          have hwp : IntKind.u8.wrap p = p := by rw [IntKind.wrap_u8]; omega
          have HR := Lib.hid (show bitsR opXor (bts u) (bts v) p = cleanR (zipP opXor (bts u) (bts v) (pb p) ++ []) by unfold bitsR guardR bitsB; rw [hv0, hv1]; simp [hp126, hm])
          clear hv0 hv1 hm
          rw [← callsIn_wide (n := 3)]
          refine callsIn_of_wp_marks Tryd.func144 rfl trivial ?_ rfl
          simp only [Tryd.ntmps144, List.size_toArray, List.length_cons, List.length_nil, Nat.reduceAdd, Nat.reduceSub, Array.replicate_succ, Array.replicate_zero, List.push_toArray, List.append_toArray, List.nil_append, List.cons_append]
          gi_wp2_with (first
            | (refine ⟨trivial, ?_⟩; gi_at_call 99; refine CallsIn.mono (callsIn_wide.2 (KVuv _ _ (by simp) (At.new2 _ _ _ _)).out) ?_; rintro e w1 ⟨rfl, hb1⟩; have B1 : Below w.heap.size w w1 := Bl.step (by repeat (first | assumption | exact Below.refl _ _ | refine Bl.alloc ?_ _ | refine Bl.drew ?_)) hb1)
            | (refine ⟨trivial, ?_⟩; gi_at_call 112; refine CallsIn.mono (callsIn_wide.2 (KMp _).out) ?_; rintro e w3 ⟨rfl, hb3⟩; have B3 : Below w.heap.size w w3 := Bl.step (by repeat (first | assumption | exact Below.refl _ _ | refine Bl.alloc ?_ _ | refine Bl.drew ?_)) hb3)
            | (refine ⟨trivial, ?_⟩; gi_at_call 170; refine CallsIn.mono (callsIn_wide.2 (pairs_any _ _ _ _ _ ⟨_, rfl⟩)) ?_; rintro e w5 ⟨rfl, rfl⟩)
            | (refine ⟨trivial, ?_⟩; rename_i hKK; refine hKK _ _ ?_))
          obtain ⟨D, hD⟩ : ∃ D, D = w3.heap.size := ⟨_, rfl⟩
          have bD := ((((Boxed.new w3 89 (.slice none 0 0)).alloc (.cells #[.string u] 9)).alloc (.cells #[.string v] 9)).alloc (.cells #[.int .u8 p] 5)).alloc (.cells #[.func (.func 147) #[] #[]] 146)
          have bF := Boxed.new ((((w3.alloc (.cells #[.slice none 0 0] 89)).alloc (.cells #[.string u] 9)).alloc (.cells #[.string v] 9)).alloc (.cells #[.int .u8 p] 5)) 146 (.func (.func 147) #[] #[])
          have h4 := four_new (w3.alloc (.cells #[.slice none 0 0] 89)) u v p (.func (.func 147) #[] #[]) 9 9 5 146
          obtain ⟨W4, hW4⟩ : ∃ W4, W4 = ((((w3.alloc (.cells #[.slice none 0 0] 89)).alloc (.cells #[.string u] 9)).alloc (.cells #[.string v] 9)).alloc (.cells #[.int .u8 p] 5)).alloc (.cells #[.func (.func 147) #[] #[]] 146) := ⟨_, rfl⟩
          have hz4 : W4.heap.size = w3.heap.size + 1 + 1 + 1 + 1 + 1 := by rw [hW4]; simp
          have hB4 : Below w.heap.size w W4 := by rw [hW4]; exact Bl.alloc (Bl.alloc (Bl.alloc (Bl.alloc (Bl.alloc B3 _) _) _) _) _
          simp only [World.size_alloc] at bD bF h4
          rw [← hW4] at bD bF h4 ⊢
          rw [← hD] at bD bF h4 hz4 ⊢
          have hwD : w.heap.size ≤ D := by rw [hD]; exact B3.size
          have hST := fun W' hW' => pairsXor_stops (D + 1) (D + 1 + 1) (D + 1 + 1 + 1) (D + 1 + 1 + 1 + 1) u v p W4 (by omega) (by omega) (by omega) (by omega) h4 (by omega) (by omega) (by omega) (by omega) W' hW'
          obtain ⟨P, hP⟩ : ∃ P, P = zipP opXor (bts u) (bts v) (pb p) := ⟨_, rfl⟩
          rw [← hP] at hST HR
          have HST := Lib.hid hST
          have HPE := Lib.hid hP
          clear hD hW4 h4 hST hP
          refine wpIn_rangeFunc_ownG rfl (by omega) (gf := 184) (lb := #[.pointer (some ⟨D + 1, 0, none⟩), .pointer (some ⟨D + 1 + 1, 0, none⟩), .pointer (some ⟨D + 1 + 1 + 1, 0, none⟩), .pointer (some ⟨D + 1 + 1 + 1 + 1, 0, none⟩)]) rfl trivial (enters_of Tryd.func184 (by kernel_rfl) rfl) (HST.out _ (Below.refl _ _)) (fun h k => k.trans h) (fun W l o o' hl _ _ _ => World.cell?_of_block (World.putObj_heap_other (by simp; omega))) (Below.refl _ _) (fun _ => rfl)
            (CollAt w D (.func (.func 147) #[] #[])) (fun _ _ _ => False) (CollAt.own w D _ _ (by omega)) (fun _ _ _ _ _ hs _ _ => hs)
            ⟨bF, ⟨_, bD, World.ownsRow_nil _ _ _ _, trivial⟩, hB4⟩
            (fun y => { tmps := #[.string u, .string v, .int .i64 p, .func (.func 147) #[] #[], undef, undef, undef, undef, .string ⟨#[]⟩, .int .i64 0, .string ⟨#[]⟩, undef, .pointer (some ⟨D, 0, none⟩), undef, .int .u8 (y.2.toNat : Int), .string u, .string v, .slice (some ⟨w.heap.size, 0, none⟩) 2 2, .bool true, .bool false, .bool false, .int .i64 p, .bool true, .bool false, .bool false, .bool false, .int .i64 p, .bool false, .bool false, .int .i64 p, .bool false, undef, undef, undef, undef, undef, undef, undef, undef, undef, undef, undef, undef, undef, undef, undef, undef, undef, undef, .string u, .string v, .int .i64 p, .int .u8 p, .func (.func 147) #[] #[], .func (.func 184) #[] #[.pointer (some ⟨D + 1, 0, none⟩), .pointer (some ⟨D + 1 + 1, 0, none⟩), .pointer (some ⟨D + 1 + 1 + 1, 0, none⟩), .pointer (some ⟨D + 1 + 1 + 1 + 1, 0, none⟩)], .int .i64 (y.1 : Int), .int .u8 (y.2.toNat : Int), undef, undef, undef, undef, undef, undef, undef, undef, undef, undef, undef], defers := [] }) ?assign ?body ?done ?stop
          case assign =>
            intro l y W K hK
            gi_wp2
            exact hK
          case body =>
            rintro l pre y W ⟨hF, ⟨v0, bv, hv, _⟩, hB1⟩ hlt
            obtain ⟨yi, yb⟩ := y
            have c1 := bv.cell
            have c2 := bv.frozen
            obtain ⟨i5, hi, hz0, hz1, hz2⟩ := info_parts info5
            have HV := Lib.hid hv
            have HBV := Lib.hid bv
            have HFX := Lib.hid hF
            have hsz := hB1.size
            have HB1 := Lib.hid hB1
            obtain ⟨pl, hpl⟩ : ∃ pl, pl = pre.length := ⟨_, rfl⟩
            have hpl' : pl ≤ 2000000 := by omega
            have HPL := Lib.hid hpl
            rw [← hpl] at HV
            clear hv bv hB1 hpl hlt hF
            gi_wp2_with (gi_at_builtin; refine wpListIn_append_own _ rfl _ _ 89 rfl w.heap.size 5 i5 (.int .u8 0) 1 1 Tryd.underlying89 hi hz0 hz1 hz2 rfl (by decide) _ _ _ rfl (HV.out.alloc _) ⟨W.heap.size, 0, none⟩ 1 1 [.int .u8 (yb.toNat : Int)] rfl rfl ?c1 ?c2 (by unfold maxLen; omega) (by omega) (by simp; omega) ?_)
            case c1 =>
              intro j u hj
              match j, hj with
              | 0, hj => simp at hj; subst hj; simp [Addr.add]
            case c2 =>
              intro u hu
              simp at hu
              rw [hu]; rfl
            intro v' w4 hown' hgrow hnil
            obtain ⟨g', cap', rfl⟩ := ownsRow_succ hown'
            obtain ⟨hb3, hb4, hr4, hk4, hbl4⟩ := Boxed.appended HBV.out (by decide) HV.out hsz (by omega) hown' hgrow
            have e3 := hb3.cell
            have e4 := hb3.frozen
            have hF4 := ((HFX.out.alloc (.cells #[.int .u8 (yb.toNat : Int)] 5)).kept hgrow (HFX.out.not_row (by decide) HV.out)).kept (grownBy_setCell' w4 D (.slice (some ⟨g', 0, none⟩) (pl + 1) cap')) (by simp; omega)
            have HF4 := Lib.hid hF4
            clear hF4
            gi_wp2
            refine ⟨hk4.from _, ?_, HF4.out, ⟨_, hb4, ?_, trivial⟩, HB1.out.trans hbl4⟩
            · show World.cell? _ _ = World.cell? _ _
              rw [HF4.out.cell, HFX.out.cell]
            · rw [List.map_append, List.length_append, ← HPL.out]
              exact hr4
          case done =>
            rintro DD ys W hDD hys ⟨hF, ⟨v0, bv, hv, _⟩, hB1⟩ hK
            have c1 := bv.cell
            have hl2 : ys.map (fun x => u8v x.2) = P.map u8v := by
              rw [hys]
              have := idx_snd P
              rw [show (fun x : Nat × UInt8 => u8v x.2) = u8v ∘ (fun x => x.2) from rfl, ← List.map_map, this]
            have hl3 : ys.length = P.length := by rw [hys, idx_length]
            rw [hl2, hl3] at hv
            have hPl : P.length ≤ 1000 := by rw [HPE.out, zipP_length, bts_length, bts_length]; omega
            obtain ⟨t, hconv, ht⟩ := conv_row hv
            have hts := size_of_bts ht
            have hts' : t.size ≤ 1000 := by omega
            have HT := Lib.hid ht
            have HB1 := Lib.hid hB1
            have HK := Lib.hid hK
            have HDD := Lib.hid hDD
            have HV := Lib.hid hv
            obtain ⟨va, vn, vc, hva⟩ : ∃ va vn vc, v0 = .slice va vn vc := by
              obtain ⟨_, ⟨e, _⟩ | ⟨g, cap, cur, e, _⟩⟩ := hv
              · exact ⟨_, _, _, e⟩
              · exact ⟨_, _, _, e⟩
            subst hva
            have hRS : (⟨#[]⟩ : ByteArray).size ≤ 2000 := by first | omega | decide
            have KCL := fun W => Lib.hid (clean_any (t ++ (⟨#[]⟩ : ByteArray)) W (by unfold maxLen; rw [ByteArray.size_append]; omega))
            obtain ⟨r, hr⟩ : ∃ r, r = cleanR (bts (t ++ (⟨#[]⟩ : ByteArray))) := ⟨_, rfl⟩
            have HR2 := Lib.hid (show bitsR opXor (bts u) (bts v) p = r by rw [HR.out, hr, bts_append, HT.out]; rfl)
            rw [← hr] at KCL
            clear hys hl2 hl3 hF bv hv hB1 hK ht hr hDD hts
            gi_wp2_with (refine ⟨trivial, ?_⟩; gi_at_call 151; refine CallsIn.mono (callsIn_wide.2 (KCL _).out) ?_; rintro e w6 ⟨t6, rfl, ht6, hb6⟩)
            have hDW := (Array.getElem?_eq_some_iff.1 HK.out).1
            have hK6 : w6.heap[DD]? = some (.deferred (some [])) := (hb6.block DD hDW).trans HK.out
            refine ⟨by simp, .inl ⟨_, _, rfl, run_takeDeferred hK6, ?_⟩⟩
            refine ⟨_, results_tmp2 rfl _ _ _, ?_⟩
            refine ⟨t6, by rw [HR2.out]; rfl, by rw [HR2.out]; exact ht6, ?_⟩
            have hDDw : w.heap.size ≤ DD := Nat.le_trans hB4.size HDD.out
            exact (Bl.step HB1.out hb6).trans (belowK_b (w := w) (Nat.le_refl _) w6 DD _ _ hDDw hK6 rfl rfl)
          case stop =>
            rintro DD c pre W _ _ h _
            exact h.elim
      · have HR := Lib.hid (show bitsR opXor (bts u) (bts v) p = ([], 1) by unfold bitsR guardR; simp [hp126])
        clear hv0 hv1
        rw [← callsIn_wide (n := 3)]
        refine callsIn_of_wp_marks Tryd.func144 rfl trivial ?_ rfl
        simp only [Tryd.ntmps144, List.size_toArray, List.length_cons, List.length_nil, Nat.reduceAdd, Nat.reduceSub, Array.replicate_succ, Array.replicate_zero, List.push_toArray, List.append_toArray, List.nil_append, List.cons_append]
        gi_wp2_with (first
          | (refine ⟨trivial, ?_⟩; gi_at_call 99; refine CallsIn.mono (callsIn_wide.2 (KVuv _ _ (by simp) (At.new2 _ _ _ _)).out) ?_; rintro e w1 ⟨rfl, hb1⟩; have B1 : Below w.heap.size w w1 := Bl.step (by repeat (first | assumption | exact Below.refl _ _ | refine Bl.alloc ?_ _ | refine Bl.drew ?_)) hb1)
          | (refine ⟨trivial, ?_⟩; gi_at_call 112; refine CallsIn.mono (callsIn_wide.2 (KMp _).out) ?_; rintro e w3 ⟨rfl, hb3⟩; have B3 : Below w.heap.size w w3 := Bl.step (by repeat (first | assumption | exact Below.refl _ _ | refine Bl.alloc ?_ _ | refine Bl.drew ?_)) hb3)
          | (refine ⟨trivial, ?_⟩; rename_i hKK; refine hKK _ _ ?_))
        gi_wp2
        exact ⟨_, results_tmp2 rfl _ _ _, givesS HR.out rfl (by repeat (first | assumption | exact Below.refl _ _ | refine Bl.alloc ?_ _ | refine Bl.drew ?_))⟩
end Go.Proofs.YtoilgjlbpimcpaaDoor
