/- Verify. -/
import Derived.Test.YtoilgjlbpimcpaaDoorZv
import Derived.Maps.Views
import Derived.Maps.OwnOps
import Derived.Maps.Own
namespace Go.Proofs.YtoilgjlbpimcpaaDoor
open Go.RowKit Go.Shelf Tx Go.Maps
set_option linter.unusedVariables false
set_option maxRecDepth 100000

theorem plainElem_bool_inv {P : Program} {e : TypeId} (he : P.underlying e = some .bool) {v : Value} {z : DataW Unit × List MemPlace} (h : plainElem P e v = some z) : ∃ b, v = .bool b ∧ z = (.lit (.bool b), []) := by
  unfold plainElem at h
  rw [he] at h
  cases v <;> simp at h
  subst h
  exact ⟨_, rfl, rfl⟩
theorem wpList_lookup_own_bool {P : Program} (w : World) {ops : Array Oper} {rest : List Oper} {o : Oper} {a : Act} {Q : Exit → Act → World → Prop}
    (hg : o.guard = none) (m x : Operand) (t : TypeId) (hop : o.op = Op.lookup t m x false)
    (k e : TypeId) (K : Keyed P k) (ht : P.underlying t = some (.map k e)) (he : P.underlying e = some .bool) (hz : (zeroValue e).run P w = .ok (.bool false) w) (b n : Nat) (D : DataW Unit)
    (hm : a.eval m = .map (some b)) (hown : w.ownsMap P k (plainElem P e) b n D) (key : Value) (kl : Lit) (hx : a.eval x = key) (hkey : keyOf P k key = some kl)
    (hK : ∀ c : Bool, D.atKey kl (.lit (.bool false)) = .lit (.bool c) → wpList P ops Q rest (a.put o.dst (.bool c)) w) :
    wpList P ops Q (o :: rest) a w := by
  refine wpList_plain hg fun K' hK' => ?_
  obtain ⟨v, ps, hrun, hv⟩ := hown.lookup K ht hz (plainElem_bool he false) hkey
  obtain ⟨c, rfl, hc⟩ := plainElem_bool_inv he hv
  simp only [Prod.mk.injEq] at hc
  unfold Oper.wp
  simp [execOp, hop, hm, hx, hrun, Result.andThen]
  exact hK' _ _ (hK c hc.1)
/-- The map holds the bytes of a list. -/
def SetM (D : DataW Unit) (l : List UInt8) : Prop := IsMap D ∧ ∀ x : UInt8, D.atKey (.int .u8 (x.toNat : Int)) (.lit (.bool false)) = .lit (.bool (decide (x ∈ l)))
theorem SetM.empty : SetM (.map []) [] := ⟨isMap_empty, fun x => rfl⟩
theorem SetM.at {D : DataW Unit} {l : List UInt8} {x : UInt8} {c : Bool} (h : SetM D l) (hat : D.atKey (.int .u8 (x.toNat : Int)) (.lit (.bool false)) = .lit (.bool c)) : c = decide (x ∈ l) := by
  rw [h.2 x] at hat
  injection hat with hat
  injection hat with hat
  exact hat.symm
theorem SetM.put {D : DataW Unit} {l : List UInt8} {x : UInt8} (h : SetM D l) : SetM (D.put (.int .u8 (x.toNat : Int)) (.lit (.bool true))) (l ++ [x]) := by
  refine ⟨h.1.put _ _, fun y => ?_⟩
  by_cases e : y = x
  · subst e
    rw [atKey_put_same h.1 (by trivial)]
    simp
  · rw [atKey_put_other (by intro q; injection q with _ q; exact e (UInt8.toNat_inj.1 (by omega))), h.2]
    simp [e]
theorem lawU8' : Keyed Tryd.prog 5 := int_keyed Tryd.underlying5
theorem zeroB (w : World) : (zeroValue 4).run Tryd.prog w = .ok (.bool false) w := by kernel_rfl
theorem u8_wf' (x : UInt8) : (Lit.int .u8 (x.toNat : Int)).wf = true := WalkArith.wf_u8 (by have := x.toNat_lt; omega)
set_option maxHeartbeats 4000000 in
theorem byteSet_any (u : ByteArray) (w : World) (hu : u.size ≤ 1000000) :
    Calls Tryd.prog 128 #[.string u] w fun e w' => ∃ (b n : Nat) (D : DataW Unit), e = .returned (.map (some b)) ∧ w'.ownsMap Tryd.prog 5 (plainElem Tryd.prog 4) b n D ∧ SetM D (bts u) ∧ Below w.heap.size w w' := by
  have hmm := @run_makeMap Tryd.prog
  go_enter Tryd.func128, Tryd.ntmps128
  go_wp2
  go_loopw [8] (fun i wr => ∃ (k : Nat) (D : DataW Unit), i = .int .i64 k ∧ k ≤ u.size ∧ Hid (SetM D ((bts u).take k)) ∧ Hid (wr.ownsMap Tryd.prog 5 (plainElem Tryd.prog 4) w.heap.size k D) ∧ Hid (Below w.heap.size w wr)) (fun i _ => u.size - (intOf i).toNat)
  case atStart => exact ⟨0, .map [], rfl, Nat.zero_le _, Lib.hid SetM.empty, Lib.hid (World.ownsMap_made _ _ _ _), Lib.hid ((Below.refl _ _).alloc (Nat.le_refl _) _)⟩
  case round =>
    obtain ⟨k, D, rfl, hk, hD, ho, hbl⟩ := hrel
    by_cases hlt : k < u.size
    · have HG := Lib.hid (bts_get u hlt)
      obtain ⟨x, hx⟩ : ∃ x, x = u[k] := ⟨_, rfl⟩
      have hxx : u[k] = x := hx.symm
      rw [← hx] at HG
      have HY := Lib.hid (take_snoc (bts u) k x HG.out)
      have hkey : keyOf Tryd.prog 5 (.int .u8 (x.toNat : Int)) = some (.int .u8 (x.toNat : Int)) := keyOf_int_mk Tryd.underlying5 (u8_wf' x)
      clear hx
      go_wp2_with (first
        | (at_mapUpdate; refine wpList_mapUpdate_own _ rfl _ _ _ 118 rfl 5 4 lawU8' Tryd.underlying118 _ w.heap.size k D rfl ho.out (by unfold maxLen; omega) _ _ _ rfl rfl hkey _ [] (plainElem_bool Tryd.underlying4 true) ?_; intro w1 hown1 hgrow1; have HO := Lib.hid hown1; have HB := Lib.hid (hbl.out.grown hgrow1 hbl.out.size (fun j hj => by cases hj; exact Nat.le_refl _)); clear hown1 hgrow1))
      go_roundw
      case rel => exact ⟨k + 1, _, by go_num, by omega, Lib.hid (by rw [HY.out]; exact hD.out.put), HO, HB⟩
      case measure => simp [intOf]; omega
    · obtain rfl : k = u.size := by omega
      go_wp2
      go_ret
      exact ⟨_, _, _, rfl, ho.out, by have := hD.out; rwa [List.take_of_length_le (by rw [bts_length]; exact Nat.le_refl _)] at this, hbl.out⟩
set_option maxHeartbeats 4000000 in
theorem Verify_any (s u : ByteArray) (b : Bool) (n : Int) (w : World) (hss : s.size ≤ maxLen) (hsu : u.size ≤ maxLen) (hn : n ≤ 9223372036854775807) :
    Calls Tryd.prog 52 #[.string s, .string u, .bool b, .int .i64 n] w (GivesN w (verifyR (bts s) (bts u) b n)) := by
  have KVsu := fun (W : World) (pp : Nat) (hp : pp < W.heap.size) (hc : At W pp [.string s, .string u]) => Lib.hid (areValid2 pp s u W hss hsu hp hc)
  have KAn := fun (W : World) (pp : Nat) (hc : W.cell? ⟨pp, 0, none⟩ = some (.int .i64 n)) => Lib.hid (areAtLeast1 pp 1 n W hc)
  cases hv0 : validL (bts s) && validL (bts u) with
  | false =>
    rw [hv0] at KVsu
    have HR := Lib.hid (show verifyR (bts s) (bts u) b n = (0, 1) by unfold verifyR guardN; simp only [hv0, Bool.and_false, Bool.false_and, Bool.true_and, Bool.and_true]; rfl)
    clear hv0
    go_enter Tryd.func52, Tryd.ntmps52
    go_wp2_with (first
      | (go_at_call 99; refine Calls.mono (KVsu _ _ (by simp) (At.new2 _ _ _ _)).out ?_; rintro e w1 ⟨rfl, hb1⟩; have B1 : Below w.heap.size w w1 := Bl.step (by repeat (first | assumption | exact Below.refl _ _ | refine Bl.alloc ?_ _ | refine Bl.drew ?_)) hb1))
    go_ret2
    exact givesN HR.out (by repeat (first | assumption | exact Below.refl _ _ | refine Bl.alloc ?_ _ | refine Bl.drew ?_))
  | true =>
    rw [hv0] at KVsu
    cases hv1 : decide (1 ≤ n) with
    | false =>
      rw [hv1] at KAn
      have HR := Lib.hid (show verifyR (bts s) (bts u) b n = (0, 1) by unfold verifyR guardN; simp only [hv0, hv1, Bool.and_false, Bool.false_and, Bool.true_and, Bool.and_true]; rfl)
      clear hv0 hv1
      go_enter Tryd.func52, Tryd.ntmps52
      go_wp2_with (first
        | (go_at_call 99; refine Calls.mono (KVsu _ _ (by simp) (At.new2 _ _ _ _)).out ?_; rintro e w1 ⟨rfl, hb1⟩; have B1 : Below w.heap.size w w1 := Bl.step (by repeat (first | assumption | exact Below.refl _ _ | refine Bl.alloc ?_ _ | refine Bl.drew ?_)) hb1)
        | (go_at_call 100; refine Calls.mono (KAn _ _ (cellAt (by simp))).out ?_; rintro e w2 ⟨rfl, rfl⟩))
      go_ret2
      exact givesN HR.out (by repeat (first | assumption | exact Below.refl _ _ | refine Bl.alloc ?_ _ | refine Bl.drew ?_))
    | true =>
      rw [hv1] at KAn
      have hlen := valid_le (Bool.and_eq_true_iff.1 hv0).1
      have hlen2 := valid_le (Bool.and_eq_true_iff.1 hv0).2
      have hn1 := of_decide_eq_true hv1
      obtain ⟨a, ha⟩ : ∃ a : Nat, n = (a : Int) + 1 := ⟨(n - 1).toNat, by omega⟩
      subst ha
      have HR0 := Lib.hid (show verifyR (bts s) (bts u) b ((a : Int) + 1) = (verF (bts s) (bts u) b (s.size - a) a, 0) by unfold verifyR guardN; rw [hv0, hv1, show (a : Int) + 1 - 1 = (a : Int) by omega, Int.toNat_natCast, bts_length]; rfl)
      have hwa3 : IntKind.i64.wrap ((a : Int) + 1 - 1) = (a : Int) := by rw [show (a : Int) + 1 - 1 = (a : Int) by omega]; exact IntWalk.i64_in _ (by omega)
      have hwa2 : IntKind.i64.wrap (a : Int) = (a : Int) := IntWalk.i64_in _ (by omega)
      have KS := fun W => Lib.hid (byteSet_any u W (by omega))
      clear hv0 hv1 hn hn1
      go_enter Tryd.func52, Tryd.ntmps52
      go_wp2_with (first
        | (go_at_call 99; refine Calls.mono (KVsu _ _ (by simp) (At.new2 _ _ _ _)).out ?_; rintro e w1 ⟨rfl, hb1⟩; have B1 : Below w.heap.size w w1 := Bl.step (by repeat (first | assumption | exact Below.refl _ _ | refine Bl.alloc ?_ _ | refine Bl.drew ?_)) hb1)
        | (go_at_call 100; refine Calls.mono (KAn _ _ (cellAt (by simp))).out ?_; rintro e w2 ⟨rfl, rfl⟩)
        | (go_at_call 128; (with_reducible refine Calls.mono (KS _).out ?_); rintro e w5 ⟨mb, mn, D, rfl, ho, hD, hb5⟩; have B5 : Below w.heap.size w w5 := Bl.step (by repeat (first | assumption | exact Below.refl _ _ | refine Bl.alloc ?_ _ | refine Bl.drew ?_)) hb5; have HO := Lib.hid ho; have HD := Lib.hid hD; clear ho hD hb5))
      go_loopw [11] (fun x wr => ∃ i : Nat, x = .int .i64 i ∧ a ≤ i ∧ Hid (verF (bts s) (bts u) b (s.size - a) a = verF (bts s) (bts u) b (s.size - i) i) ∧ Hid (wr = w5) ∧ Hid (i ≤ s.size ∨ i = a)) (fun x _ => s.size - (intOf x).toNat)
      case atStart => refine ⟨a, by first | rfl | go_num, Nat.le_refl _, Lib.hid ?_, Lib.hid ?_, Lib.hid ?_⟩ <;> first | trivial | rfl | exact .inr rfl
      case round =>
        obtain ⟨i, rfl, hai, hq, hw, hi⟩ := hrel
        obtain rfl := hw.out
        by_cases hlt : i < s.size
        · have HG := Lib.hid (bts_get s hlt)
          obtain ⟨x, hx⟩ : ∃ x, x = s[i] := ⟨_, rfl⟩
          have hxx : s[i] = x := hx.symm
          rw [← hx] at HG
          have HST := Lib.hid (verF_some (m := bts u) (b := b) (k := s.size - (i + 1)) HG.out)
          have HK := Lib.hid (show s.size - i = s.size - (i + 1) + 1 by omega)
          have hwi : IntKind.i64.wrap ((i : Int) + 1) = (i : Int) + 1 := IntWalk.i64_in _ (by omega)
          have hkey : keyOf Tryd.prog 5 (.int .u8 (x.toNat : Int)) = some (.int .u8 (x.toNat : Int)) := keyOf_int_mk Tryd.underlying5 (u8_wf' x)
          obtain ⟨h, hh⟩ : ∃ h, h = decide (x ∈ bts u) := ⟨_, rfl⟩
          have HH := Lib.hid hh
          clear hx hh
          by_cases hhb : h = b
          · have HR := Lib.hid (show verifyR (bts s) (bts u) b ((a : Int) + 1) = ((i : Int) + 1, 0) by rw [HR0.out, hq.out, HK.out, HST.out, ← HH.out, hhb]; simp)
            subst hhb
            go_wp2_with (first
              | (at_lookup; refine wpList_lookup_own_bool _ rfl _ _ 118 rfl 5 4 lawU8' Tryd.underlying118 Tryd.underlying4 (zeroB _) mb mn D rfl HO.out _ _ rfl hkey ?_; intro c hat; obtain rfl : c = h := (by rw [HH.out]; exact HD.out.at hat); clear hat))
            go_ret2
            exact givesN HR.out B5
          · have HN := Lib.hid (show verF (bts s) (bts u) b (s.size - a) a = verF (bts s) (bts u) b (s.size - (i + 1)) (i + 1) by
              rw [hq.out, HK.out, HST.out, ← HH.out]
              cases h <;> cases b <;> simp at hhb ⊢)
            have hbe : (h == b) = false := by simpa using hhb
            go_wp2_with (first
              | (at_lookup; refine wpList_lookup_own_bool _ rfl _ _ 118 rfl 5 4 lawU8' Tryd.underlying118 Tryd.underlying4 (zeroB _) mb mn D rfl HO.out _ _ rfl hkey ?_; intro c hat; obtain rfl : c = h := (by rw [HH.out]; exact HD.out.at hat); clear hat))
            go_roundw
            case rel => refine ⟨i + 1, by go_num, by omega, HN, Lib.hid ?_, Lib.hid (.inl (by omega))⟩; first | trivial | rfl
            case measure => simp [intOf]; omega
        · have HR := Lib.hid (show verifyR (bts s) (bts u) b ((a : Int) + 1) = (0, 0) by rw [HR0.out, hq.out, show s.size - i = 0 by omega]; rfl)
          go_wp2
          go_ret2
          exact givesN HR.out B5
end Go.Proofs.YtoilgjlbpimcpaaDoor
