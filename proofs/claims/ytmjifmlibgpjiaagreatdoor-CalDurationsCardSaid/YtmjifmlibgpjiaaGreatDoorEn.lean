/- CalDurations, as a call: the walks. -/
import Derived.Test.YtmjifmlibgpjiaaGreatDoorDt
import Derived.Test.YtmjifmlibgpjiaaGreatDoorEg
import Derived.Test.YtmjifmlibgpjiaaGreatDoorEk
import Derived.Lib.SlBytesConst
namespace Go.Proofs.YtmjifmlibgpjiaaGreatDoor
open Go.RowKit Go.Shelf Tx Go.Maps
set_option linter.unusedVariables false
set_option maxRecDepth 100000

theorem neq_moment (a b x y : Int) (w : World) : (binOp .neq 55 (.agg #[.int .i64 a, .int .i64 b]) (.agg #[.int .i64 x, .int .i64 y])).run Tryz.prog w = .ok (.bool (!(a == x && b == y))) w := by
  have h := eql_moment a b x y w
  rw [run_eql_struct] at h
  rw [run_neq_struct]
  cases hr : (Op.equalIn 10000 55 (.agg #[.int .i64 a, .int .i64 b]) (.agg #[.int .i64 x, .int .i64 y])).run Tryz.prog w with
  | ok v w1 =>
    rw [hr] at h
    simp only [Result.andThen_ok] at h ⊢
    injection h with h1 h2
    injection h1 with h1
    subst h2
    rw [h1]
  | _ => rw [hr] at h; simp [Result.andThen] at h
/-- The bytes over which the law ranges. -/
def RowSI (W : World) (B : Nat) : Prop := W.heap[B]? = some (.cells #[.int .u8 83, .int .u8 73] 5 (2, 3))
theorem RowSI.lt {W : World} {B : Nat} (h : RowSI W B) : B < W.heap.size := (Array.getElem?_eq_some_iff.1 h).1
theorem RowSI.c0 {W : World} {B : Nat} (h : RowSI W B) : W.cell? ⟨B, 0, none⟩ = some (.int .u8 83) := by simp [World.cell?, show W.heap[B]? = _ from h]
theorem RowSI.c1 {W : World} {B : Nat} (h : RowSI W B) : W.cell? ⟨B, 1, none⟩ = some (.int .u8 73) := by simp [World.cell?, show W.heap[B]? = _ from h]
theorem RowSI.new (W : World) : RowSI (W.alloc (.cells #[.int .u8 83, .int .u8 73] 5 (2, 3))) W.heap.size := World.alloc_heap_new W _
theorem RowSI.stayed {W W' : World} {B : Nat} (h : RowSI W B) (hb : Below W.heap.size W W') : RowSI W' B := (hb.block B h.lt).trans h
set_option maxHeartbeats 8000000 in
theorem cdu_A0B0 (D U E V n m t X Y e0 : Int) (w : World) (hE : Env w)
    (he : (e0 == 0) = false) (he2 : ¬ e0 = 0) (K1 : ∀ W, Calls Tryz.prog 38 #[.agg #[.int .i64 D, .int .i64 U], .int .i64 n, .int .i64 t] W (GivesQ W X Y e0)) (KF : ∀ W, Calls Tryz.prog 40 #[.agg #[.int .i64 D, .int .i64 U], .agg #[.int .i64 E, .int .i64 V]] W (Gives W #[.int .i64 0, .int .i64 0, .int .i64 1])) (KG : ∀ W, Calls Tryz.prog 40 #[.agg #[.int .i64 E, .int .i64 V], .agg #[.int .i64 D, .int .i64 U]] W (Gives W #[.int .i64 0, .int .i64 0, .int .i64 1])) :
    Calls Tryz.prog 12 #[.agg #[.int .i64 D, .int .i64 U], .agg #[.int .i64 E, .int .i64 V], .int .i64 n, .int .i64 m, .int .i64 t] w fun e w' => e = .returned (.bool true) ∧ Below w.heap.size w w' := by
  have K1' := fun W => Lib.hid (K1 W)
  have KF' := fun W => Lib.hid (KF W)
  have KG' := fun W => Lib.hid (KG W)
  have KZ := fun W (hW : Env W) => Lib.hid (sane_any W hW)
  have HE := Lib.hid hE
  clear hE K1 KF KG
  have xa := (BoxC.new w 55 #[.int .i64 D, .int .i64 U]).alloc (.cells #[.int .i64 E, .int .i64 V] 55)
  have x0 := xa.cell (i := 0) rfl
  have x1 := xa.cell (i := 1) rfl
  clear xa
  go_enter Tryz.func12, Tryz.ntmps12
  go_wp2_with (first
    | (go_at_call 38; refine Calls.mono (K1' _).out ?_; rintro e w1 ⟨rfl, hb⟩; clear K1'; have B1 := Lib.hid (Bl.step (Bl.alloc (Bl.alloc (Below.refl _ w) _) _) hb); have A1 := Lib.hid (((BoxC.new w 55 #[.int .i64 D, .int .i64 U]).alloc _).stayed hb); have C1 := Lib.hid ((BoxC.newAt (W := w.alloc (.cells #[.int .i64 D, .int .i64 U] 55)) (t := 55) (cs := #[.int .i64 E, .int .i64 V]) (n := w.heap.size + 1) (by simp)).stayed hb); have qA := A1.out.alloc (.cells #[.int .i64 X, .int .i64 Y] 55); have a1c0 := qA.cell (i := 0) rfl; have a1c1 := qA.cell (i := 1) rfl; clear qA; have qC := C1.out.alloc (.cells #[.int .i64 X, .int .i64 Y] 55); have c1c0 := qC.cell (i := 0) rfl; have c1c1 := qC.cell (i := 1) rfl; clear qC; have qn := BoxC.new w1 55 #[.int .i64 X, .int .i64 Y]; have nn1c0 := qn.cell (i := 0) rfl; have nn1c1 := qn.cell (i := 1) rfl; clear qn; clear hb)
    | (go_at_call 40; refine Calls.mono (KF' _).out ?_; rintro e w2 ⟨rfl, hb⟩; clear KF'; have B2 := Lib.hid (Bl.step (Bl.alloc B1.out _) hb); have A2 := Lib.hid ((A1.out.alloc _).stayed hb); have C2 := Lib.hid ((C1.out.alloc _).stayed hb); have M2 := Lib.hid ((BoxC.new w1 55 #[.int .i64 X, .int .i64 Y]).stayed hb); have a2c0 := A2.out.cell (i := 0) rfl; have a2c1 := A2.out.cell (i := 1) rfl; have c2c0 := C2.out.cell (i := 0) rfl; have c2c1 := C2.out.cell (i := 1) rfl; have m2c0 := M2.out.cell (i := 0) rfl; have m2c1 := M2.out.cell (i := 1) rfl; clear hb)
    | (go_at_call 40; refine Calls.mono (KG' _).out ?_; rintro e w3 ⟨rfl, hb⟩; clear KG'; have B3 := Lib.hid (Bl.step (B2.out) hb); have A3 := Lib.hid ((A2.out).stayed hb); have C3 := Lib.hid ((C2.out).stayed hb); have M3 := Lib.hid ((M2.out).stayed hb); have a3c0 := A3.out.cell (i := 0) rfl; have a3c1 := A3.out.cell (i := 1) rfl; have c3c0 := C3.out.cell (i := 0) rfl; have c3c1 := C3.out.cell (i := 1) rfl; have m3c0 := M3.out.cell (i := 0) rfl; have m3c1 := M3.out.cell (i := 1) rfl; clear hb)
    | (go_at_call 23; refine Calls.mono (KZ _ (HE.out.below B3.out)).out ?_; rintro e wz ⟨rfl, hb⟩; have BZ := Lib.hid (Bl.step B3.out hb); clear hb))
  go_ret
  exact ⟨by first | rfl | simp, BZ.out⟩
set_option maxHeartbeats 8000000 in
theorem cdu_A0B1 (D U E V n m t X Y e0 d2 u2 p q r s s2 : Int) (lSa lSb lIa lIb : List UInt8) (w : World) (hE : Env w)
    (he : (e0 == 0) = false) (he2 : ¬ e0 = 0) (K1 : ∀ W, Calls Tryz.prog 38 #[.agg #[.int .i64 D, .int .i64 U], .int .i64 n, .int .i64 t] W (GivesQ W X Y e0)) (KF : ∀ W, Calls Tryz.prog 40 #[.agg #[.int .i64 D, .int .i64 U], .agg #[.int .i64 E, .int .i64 V]] W (Gives W #[.int .i64 d2, .int .i64 u2, .int .i64 0])) (KG : ∀ W, Calls Tryz.prog 40 #[.agg #[.int .i64 E, .int .i64 V], .agg #[.int .i64 D, .int .i64 U]] W (Gives W #[.int .i64 p, .int .i64 q, .int .i64 0])) (g1 : IntKind.i64.wrap (d2 + p) = r) (g2 : wrap64 (d2 + p) = r) (g3 : IntKind.i64.wrap (r * 86400000000) = s) (g4 : wrap64 (r * 86400000000) = s) (g5 : IntKind.i64.wrap (s + u2) = s2) (g6 : wrap64 (s + u2) = s2) (g7 : IntKind.i64.wrap (s2 + q) = 0) (g8 : wrap64 (s2 + q) = 0) (u0 : ¬ u2 < 0) (u9 : ¬ 86400000000 ≤ u2) (hd : D < E) (KSa : ∀ W, Env W → Calls Tryz.prog 28 #[.int .i64 D, .int .u8 83] W (GivesSE W lSa)) (KSb : ∀ W, Env W → Calls Tryz.prog 28 #[.int .i64 E, .int .u8 83] W (GivesSE W lSb)) (hlS : Op.bytesLess lSa lSb = true) (KIa : ∀ W, Env W → Calls Tryz.prog 28 #[.int .i64 D, .int .u8 73] W (GivesSE W lIa)) (KIb : ∀ W, Env W → Calls Tryz.prog 28 #[.int .i64 E, .int .u8 73] W (GivesSE W lIb)) (hlI : Op.bytesLess lIa lIb = true) :
    Calls Tryz.prog 12 #[.agg #[.int .i64 D, .int .i64 U], .agg #[.int .i64 E, .int .i64 V], .int .i64 n, .int .i64 m, .int .i64 t] w fun e w' => e = .returned (.bool true) ∧ Below w.heap.size w w' := by
  have K1' := fun W => Lib.hid (K1 W)
  have KF' := fun W => Lib.hid (KF W)
  have KG' := fun W => Lib.hid (KG W)
  have KSa' := fun W (hW : Env W) => Lib.hid (KSa W hW)
  have KSb' := fun W (hW : Env W) => Lib.hid (KSb W hW)
  have KIa' := fun W (hW : Env W) => Lib.hid (KIa W hW)
  have KIb' := fun W (hW : Env W) => Lib.hid (KIb W hW)
  have KZ := fun W (hW : Env W) => Lib.hid (sane_any W hW)
  have HE := Lib.hid hE
  have hcv := fun (W : World) => Lib.run_convert_bytes_const (P := Tryz.prog) W 64 5 #[.int .u8 83, .int .u8 73] 2 2 Tryz.underlying64 Tryz.underlying5
  have HS := Lib.hid hlS
  have HI := Lib.hid hlI
  clear hE K1 KF KG KSa KSb KIa KIb hlS hlI
  have xa := (BoxC.new w 55 #[.int .i64 D, .int .i64 U]).alloc (.cells #[.int .i64 E, .int .i64 V] 55)
  have x0 := xa.cell (i := 0) rfl
  have x1 := xa.cell (i := 1) rfl
  clear xa
  go_enter Tryz.func12, Tryz.ntmps12
  go_wp2_with (first
    | (go_at_call 38; refine Calls.mono (K1' _).out ?_; rintro e w1 ⟨rfl, hb⟩; clear K1'; have B1 := Lib.hid (Bl.step (Bl.alloc (Bl.alloc (Below.refl _ w) _) _) hb); have A1 := Lib.hid (((BoxC.new w 55 #[.int .i64 D, .int .i64 U]).alloc _).stayed hb); have C1 := Lib.hid ((BoxC.newAt (W := w.alloc (.cells #[.int .i64 D, .int .i64 U] 55)) (t := 55) (cs := #[.int .i64 E, .int .i64 V]) (n := w.heap.size + 1) (by simp)).stayed hb); have qA := A1.out.alloc (.cells #[.int .i64 X, .int .i64 Y] 55); have a1c0 := qA.cell (i := 0) rfl; have a1c1 := qA.cell (i := 1) rfl; clear qA; have qC := C1.out.alloc (.cells #[.int .i64 X, .int .i64 Y] 55); have c1c0 := qC.cell (i := 0) rfl; have c1c1 := qC.cell (i := 1) rfl; clear qC; have qn := BoxC.new w1 55 #[.int .i64 X, .int .i64 Y]; have nn1c0 := qn.cell (i := 0) rfl; have nn1c1 := qn.cell (i := 1) rfl; clear qn; clear hb)
    | (go_at_call 40; refine Calls.mono (KF' _).out ?_; rintro e w2 ⟨rfl, hb⟩; clear KF'; have B2 := Lib.hid (Bl.step (Bl.alloc B1.out _) hb); have A2 := Lib.hid ((A1.out.alloc _).stayed hb); have C2 := Lib.hid ((C1.out.alloc _).stayed hb); have M2 := Lib.hid ((BoxC.new w1 55 #[.int .i64 X, .int .i64 Y]).stayed hb); have a2c0 := A2.out.cell (i := 0) rfl; have a2c1 := A2.out.cell (i := 1) rfl; have c2c0 := C2.out.cell (i := 0) rfl; have c2c1 := C2.out.cell (i := 1) rfl; have m2c0 := M2.out.cell (i := 0) rfl; have m2c1 := M2.out.cell (i := 1) rfl; clear hb)
    | (go_at_call 40; refine Calls.mono (KG' _).out ?_; rintro e w3 ⟨rfl, hb⟩; clear KG'; have B3 := Lib.hid (Bl.step (B2.out) hb); have A3 := Lib.hid ((A2.out).stayed hb); have C3 := Lib.hid ((C2.out).stayed hb); have M3 := Lib.hid ((M2.out).stayed hb); have a3c0 := A3.out.cell (i := 0) rfl; have a3c1 := A3.out.cell (i := 1) rfl; have c3c0 := C3.out.cell (i := 0) rfl; have c3c1 := C3.out.cell (i := 1) rfl; have m3c0 := M3.out.cell (i := 0) rfl; have m3c1 := M3.out.cell (i := 1) rfl; clear hb))
  go_loopw [144] (fun v wr => ∃ k : Int, v = .int .i64 k ∧ (k = 0 ∨ k = 1 ∨ k = 2) ∧ Hid (BoxC wr w.heap.size 55 #[.int .i64 D, .int .i64 U]) ∧ Hid (BoxC wr (w.heap.size + 1) 55 #[.int .i64 E, .int .i64 V]) ∧ Hid (RowSI wr w3.heap.size) ∧ Hid (Below w.heap.size w wr)) (fun v _ => (2 - intOf v).toNat)
  case atStart => exact ⟨0, rfl, Or.inl rfl, Lib.hid (A3.out.alloc _), Lib.hid (C3.out.alloc _), Lib.hid (RowSI.new _), Lib.hid (Bl.alloc B3.out _)⟩
  case round =>
    obtain ⟨k, rfl, hk, ha, hc, hr, hbl⟩ := hrel
    have ra0 := ha.out.cell (i := 0) rfl
    have rc0 := hc.out.cell (i := 0) rfl
    have rr0 := hr.out.c0
    have rr1 := hr.out.c1
    rcases hk with rfl | rfl | rfl
    · go_wp2_with (first
        | (go_at_call 28; refine Calls.mono (KSa' _ (HE.out.below hbl.out)).out ?_; rintro e y1 ⟨t1, rfl, ht1, hb⟩; clear KSa'; have Y1 := Lib.hid (Bl.step hbl.out hb); have YA := Lib.hid (ha.out.stayed hb); have YC := Lib.hid (hc.out.stayed hb); have YR := Lib.hid (hr.out.stayed hb); have ya := YA.out.cell (i := 0) rfl; have yc := YC.out.cell (i := 0) rfl; clear hb)
        | (go_at_call 28; refine Calls.mono (KSb' _ (HE.out.below Y1.out)).out ?_; rintro e y2 ⟨t2, rfl, ht2, hb⟩; clear KSb'; have Y2 := Lib.hid (Bl.step Y1.out hb); have ZA := Lib.hid (YA.out.stayed hb); have ZC := Lib.hid (YC.out.stayed hb); have ZR := Lib.hid (YR.out.stayed hb); have za := ZA.out.cell (i := 0) rfl; have zc := ZC.out.cell (i := 0) rfl; have hbl2 : Op.bytesLess t1.toList t2.toList = true := (by rw [toList_bts, toList_bts, ht1.out, ht2.out]; exact HS.out); clear hb))
      go_roundw
      case rel => exact ⟨1, by first | rfl | go_num | simp, by omega, ZA, ZC, ZR, Y2⟩
      case measure => simp [intOf]
    · go_wp2_with (first
        | (go_at_call 28; refine Calls.mono (KIa' _ (HE.out.below hbl.out)).out ?_; rintro e y1 ⟨t1, rfl, ht1, hb⟩; clear KIa'; have Y1 := Lib.hid (Bl.step hbl.out hb); have YA := Lib.hid (ha.out.stayed hb); have YC := Lib.hid (hc.out.stayed hb); have YR := Lib.hid (hr.out.stayed hb); have ya := YA.out.cell (i := 0) rfl; have yc := YC.out.cell (i := 0) rfl; clear hb)
        | (go_at_call 28; refine Calls.mono (KIb' _ (HE.out.below Y1.out)).out ?_; rintro e y2 ⟨t2, rfl, ht2, hb⟩; clear KIb'; have Y2 := Lib.hid (Bl.step Y1.out hb); have ZA := Lib.hid (YA.out.stayed hb); have ZC := Lib.hid (YC.out.stayed hb); have ZR := Lib.hid (YR.out.stayed hb); have za := ZA.out.cell (i := 0) rfl; have zc := ZC.out.cell (i := 0) rfl; have hbl2 : Op.bytesLess t1.toList t2.toList = true := (by rw [toList_bts, toList_bts, ht1.out, ht2.out]; exact HI.out); clear hb))
      go_roundw
      case rel => exact ⟨2, by first | rfl | go_num | simp, by omega, ZA, ZC, ZR, Y2⟩
      case measure => simp [intOf]
    · go_wp2_with (go_at_call 23; refine Calls.mono (KZ _ (HE.out.below hbl.out)).out ?_; rintro e wz ⟨rfl, hb⟩; have BZ := Lib.hid (Bl.step hbl.out hb); clear hb)
      go_ret
      exact ⟨by first | rfl | simp, BZ.out⟩
set_option maxHeartbeats 8000000 in
theorem cdu_A0B2 (D U E V n m t X Y e0 d2 u2 p q r s s2 : Int) (lSa lSb lIa lIb : List UInt8) (w : World) (hE : Env w)
    (he : (e0 == 0) = false) (he2 : ¬ e0 = 0) (K1 : ∀ W, Calls Tryz.prog 38 #[.agg #[.int .i64 D, .int .i64 U], .int .i64 n, .int .i64 t] W (GivesQ W X Y e0)) (KF : ∀ W, Calls Tryz.prog 40 #[.agg #[.int .i64 D, .int .i64 U], .agg #[.int .i64 E, .int .i64 V]] W (Gives W #[.int .i64 d2, .int .i64 u2, .int .i64 0])) (KG : ∀ W, Calls Tryz.prog 40 #[.agg #[.int .i64 E, .int .i64 V], .agg #[.int .i64 D, .int .i64 U]] W (Gives W #[.int .i64 p, .int .i64 q, .int .i64 0])) (g1 : IntKind.i64.wrap (d2 + p) = r) (g2 : wrap64 (d2 + p) = r) (g3 : IntKind.i64.wrap (r * 86400000000) = s) (g4 : wrap64 (r * 86400000000) = s) (g5 : IntKind.i64.wrap (s + u2) = s2) (g6 : wrap64 (s + u2) = s2) (g7 : IntKind.i64.wrap (s2 + q) = 0) (g8 : wrap64 (s2 + q) = 0) (u0 : ¬ u2 < 0) (u9 : ¬ 86400000000 ≤ u2) (hd : ¬ D < E) (KSa : ∀ W, Env W → Calls Tryz.prog 28 #[.int .i64 D, .int .u8 83] W (GivesSE W lSa)) (KSb : ∀ W, Env W → Calls Tryz.prog 28 #[.int .i64 E, .int .u8 83] W (GivesSE W lSb)) (hlS : Op.bytesLess lSa lSb = false) (KIa : ∀ W, Env W → Calls Tryz.prog 28 #[.int .i64 D, .int .u8 73] W (GivesSE W lIa)) (KIb : ∀ W, Env W → Calls Tryz.prog 28 #[.int .i64 E, .int .u8 73] W (GivesSE W lIb)) (hlI : Op.bytesLess lIa lIb = false) :
    Calls Tryz.prog 12 #[.agg #[.int .i64 D, .int .i64 U], .agg #[.int .i64 E, .int .i64 V], .int .i64 n, .int .i64 m, .int .i64 t] w fun e w' => e = .returned (.bool true) ∧ Below w.heap.size w w' := by
  have K1' := fun W => Lib.hid (K1 W)
  have KF' := fun W => Lib.hid (KF W)
  have KG' := fun W => Lib.hid (KG W)
  have KSa' := fun W (hW : Env W) => Lib.hid (KSa W hW)
  have KSb' := fun W (hW : Env W) => Lib.hid (KSb W hW)
  have KIa' := fun W (hW : Env W) => Lib.hid (KIa W hW)
  have KIb' := fun W (hW : Env W) => Lib.hid (KIb W hW)
  have KZ := fun W (hW : Env W) => Lib.hid (sane_any W hW)
  have HE := Lib.hid hE
  have hcv := fun (W : World) => Lib.run_convert_bytes_const (P := Tryz.prog) W 64 5 #[.int .u8 83, .int .u8 73] 2 2 Tryz.underlying64 Tryz.underlying5
  have HS := Lib.hid hlS
  have HI := Lib.hid hlI
  clear hE K1 KF KG KSa KSb KIa KIb hlS hlI
  have xa := (BoxC.new w 55 #[.int .i64 D, .int .i64 U]).alloc (.cells #[.int .i64 E, .int .i64 V] 55)
  have x0 := xa.cell (i := 0) rfl
  have x1 := xa.cell (i := 1) rfl
  clear xa
  go_enter Tryz.func12, Tryz.ntmps12
  go_wp2_with (first
    | (go_at_call 38; refine Calls.mono (K1' _).out ?_; rintro e w1 ⟨rfl, hb⟩; clear K1'; have B1 := Lib.hid (Bl.step (Bl.alloc (Bl.alloc (Below.refl _ w) _) _) hb); have A1 := Lib.hid (((BoxC.new w 55 #[.int .i64 D, .int .i64 U]).alloc _).stayed hb); have C1 := Lib.hid ((BoxC.newAt (W := w.alloc (.cells #[.int .i64 D, .int .i64 U] 55)) (t := 55) (cs := #[.int .i64 E, .int .i64 V]) (n := w.heap.size + 1) (by simp)).stayed hb); have qA := A1.out.alloc (.cells #[.int .i64 X, .int .i64 Y] 55); have a1c0 := qA.cell (i := 0) rfl; have a1c1 := qA.cell (i := 1) rfl; clear qA; have qC := C1.out.alloc (.cells #[.int .i64 X, .int .i64 Y] 55); have c1c0 := qC.cell (i := 0) rfl; have c1c1 := qC.cell (i := 1) rfl; clear qC; have qn := BoxC.new w1 55 #[.int .i64 X, .int .i64 Y]; have nn1c0 := qn.cell (i := 0) rfl; have nn1c1 := qn.cell (i := 1) rfl; clear qn; clear hb)
    | (go_at_call 40; refine Calls.mono (KF' _).out ?_; rintro e w2 ⟨rfl, hb⟩; clear KF'; have B2 := Lib.hid (Bl.step (Bl.alloc B1.out _) hb); have A2 := Lib.hid ((A1.out.alloc _).stayed hb); have C2 := Lib.hid ((C1.out.alloc _).stayed hb); have M2 := Lib.hid ((BoxC.new w1 55 #[.int .i64 X, .int .i64 Y]).stayed hb); have a2c0 := A2.out.cell (i := 0) rfl; have a2c1 := A2.out.cell (i := 1) rfl; have c2c0 := C2.out.cell (i := 0) rfl; have c2c1 := C2.out.cell (i := 1) rfl; have m2c0 := M2.out.cell (i := 0) rfl; have m2c1 := M2.out.cell (i := 1) rfl; clear hb)
    | (go_at_call 40; refine Calls.mono (KG' _).out ?_; rintro e w3 ⟨rfl, hb⟩; clear KG'; have B3 := Lib.hid (Bl.step (B2.out) hb); have A3 := Lib.hid ((A2.out).stayed hb); have C3 := Lib.hid ((C2.out).stayed hb); have M3 := Lib.hid ((M2.out).stayed hb); have a3c0 := A3.out.cell (i := 0) rfl; have a3c1 := A3.out.cell (i := 1) rfl; have c3c0 := C3.out.cell (i := 0) rfl; have c3c1 := C3.out.cell (i := 1) rfl; have m3c0 := M3.out.cell (i := 0) rfl; have m3c1 := M3.out.cell (i := 1) rfl; clear hb))
  go_loopw [144] (fun v wr => ∃ k : Int, v = .int .i64 k ∧ (k = 0 ∨ k = 1 ∨ k = 2) ∧ Hid (BoxC wr w.heap.size 55 #[.int .i64 D, .int .i64 U]) ∧ Hid (BoxC wr (w.heap.size + 1) 55 #[.int .i64 E, .int .i64 V]) ∧ Hid (RowSI wr w3.heap.size) ∧ Hid (Below w.heap.size w wr)) (fun v _ => (2 - intOf v).toNat)
  case atStart => exact ⟨0, rfl, Or.inl rfl, Lib.hid (A3.out.alloc _), Lib.hid (C3.out.alloc _), Lib.hid (RowSI.new _), Lib.hid (Bl.alloc B3.out _)⟩
  case round =>
    obtain ⟨k, rfl, hk, ha, hc, hr, hbl⟩ := hrel
    have ra0 := ha.out.cell (i := 0) rfl
    have rc0 := hc.out.cell (i := 0) rfl
    have rr0 := hr.out.c0
    have rr1 := hr.out.c1
    rcases hk with rfl | rfl | rfl
    · go_wp2_with (first
        | (go_at_call 28; refine Calls.mono (KSa' _ (HE.out.below hbl.out)).out ?_; rintro e y1 ⟨t1, rfl, ht1, hb⟩; clear KSa'; have Y1 := Lib.hid (Bl.step hbl.out hb); have YA := Lib.hid (ha.out.stayed hb); have YC := Lib.hid (hc.out.stayed hb); have YR := Lib.hid (hr.out.stayed hb); have ya := YA.out.cell (i := 0) rfl; have yc := YC.out.cell (i := 0) rfl; clear hb)
        | (go_at_call 28; refine Calls.mono (KSb' _ (HE.out.below Y1.out)).out ?_; rintro e y2 ⟨t2, rfl, ht2, hb⟩; clear KSb'; have Y2 := Lib.hid (Bl.step Y1.out hb); have ZA := Lib.hid (YA.out.stayed hb); have ZC := Lib.hid (YC.out.stayed hb); have ZR := Lib.hid (YR.out.stayed hb); have za := ZA.out.cell (i := 0) rfl; have zc := ZC.out.cell (i := 0) rfl; have hbl2 : Op.bytesLess t1.toList t2.toList = false := (by rw [toList_bts, toList_bts, ht1.out, ht2.out]; exact HS.out); clear hb))
      go_roundw
      case rel => exact ⟨1, by first | rfl | go_num | simp, by omega, ZA, ZC, ZR, Y2⟩
      case measure => simp [intOf]
    · go_wp2_with (first
        | (go_at_call 28; refine Calls.mono (KIa' _ (HE.out.below hbl.out)).out ?_; rintro e y1 ⟨t1, rfl, ht1, hb⟩; clear KIa'; have Y1 := Lib.hid (Bl.step hbl.out hb); have YA := Lib.hid (ha.out.stayed hb); have YC := Lib.hid (hc.out.stayed hb); have YR := Lib.hid (hr.out.stayed hb); have ya := YA.out.cell (i := 0) rfl; have yc := YC.out.cell (i := 0) rfl; clear hb)
        | (go_at_call 28; refine Calls.mono (KIb' _ (HE.out.below Y1.out)).out ?_; rintro e y2 ⟨t2, rfl, ht2, hb⟩; clear KIb'; have Y2 := Lib.hid (Bl.step Y1.out hb); have ZA := Lib.hid (YA.out.stayed hb); have ZC := Lib.hid (YC.out.stayed hb); have ZR := Lib.hid (YR.out.stayed hb); have za := ZA.out.cell (i := 0) rfl; have zc := ZC.out.cell (i := 0) rfl; have hbl2 : Op.bytesLess t1.toList t2.toList = false := (by rw [toList_bts, toList_bts, ht1.out, ht2.out]; exact HI.out); clear hb))
      go_roundw
      case rel => exact ⟨2, by first | rfl | go_num | simp, by omega, ZA, ZC, ZR, Y2⟩
      case measure => simp [intOf]
    · go_wp2_with (go_at_call 23; refine Calls.mono (KZ _ (HE.out.below hbl.out)).out ?_; rintro e wz ⟨rfl, hb⟩; have BZ := Lib.hid (Bl.step hbl.out hb); clear hb)
      go_ret
      exact ⟨by first | rfl | simp, BZ.out⟩
set_option maxHeartbeats 8000000 in
theorem cdu_A1B0 (D U E V n m t X Y d u g h : Int) (w : World) (hE : Env w)
    (K1 : ∀ W, Calls Tryz.prog 38 #[.agg #[.int .i64 D, .int .i64 U], .int .i64 n, .int .i64 t] W (GivesQ W X Y 0)) (d0 : ¬ d < 0) (f1 : IntKind.i64.wrap (d * 86400000000) = g) (f2 : wrap64 (d * 86400000000) = g) (f3 : IntKind.i64.wrap (g + u) = h) (f4 : wrap64 (g + u) = h) (f5 : IntKind.i64.wrap (n * t) = h) (f6 : wrap64 (n * t) = h) (KB : ∀ W, Calls Tryz.prog 40 #[.agg #[.int .i64 D, .int .i64 U], .agg #[.int .i64 X, .int .i64 Y]] W (Gives W #[.int .i64 d, .int .i64 u, .int .i64 0])) (m0 : ¬ 0 ≤ m) (KF : ∀ W, Calls Tryz.prog 40 #[.agg #[.int .i64 D, .int .i64 U], .agg #[.int .i64 E, .int .i64 V]] W (Gives W #[.int .i64 0, .int .i64 0, .int .i64 1])) (KG : ∀ W, Calls Tryz.prog 40 #[.agg #[.int .i64 E, .int .i64 V], .agg #[.int .i64 D, .int .i64 U]] W (Gives W #[.int .i64 0, .int .i64 0, .int .i64 1])) :
    Calls Tryz.prog 12 #[.agg #[.int .i64 D, .int .i64 U], .agg #[.int .i64 E, .int .i64 V], .int .i64 n, .int .i64 m, .int .i64 t] w fun e w' => e = .returned (.bool true) ∧ Below w.heap.size w w' := by
  have K1' := fun W => Lib.hid (K1 W)
  have KB' := fun W => Lib.hid (KB W)
  have KF' := fun W => Lib.hid (KF W)
  have KG' := fun W => Lib.hid (KG W)
  have KZ := fun W (hW : Env W) => Lib.hid (sane_any W hW)
  have HE := Lib.hid hE
  clear hE K1 KB KF KG
  have xa := (BoxC.new w 55 #[.int .i64 D, .int .i64 U]).alloc (.cells #[.int .i64 E, .int .i64 V] 55)
  have x0 := xa.cell (i := 0) rfl
  have x1 := xa.cell (i := 1) rfl
  clear xa
  go_enter Tryz.func12, Tryz.ntmps12
  go_wp2_with (first
    | (go_at_call 38; refine Calls.mono (K1' _).out ?_; rintro e w1 ⟨rfl, hb⟩; clear K1'; have B1 := Lib.hid (Bl.step (Bl.alloc (Bl.alloc (Below.refl _ w) _) _) hb); have A1 := Lib.hid (((BoxC.new w 55 #[.int .i64 D, .int .i64 U]).alloc _).stayed hb); have C1 := Lib.hid ((BoxC.newAt (W := w.alloc (.cells #[.int .i64 D, .int .i64 U] 55)) (t := 55) (cs := #[.int .i64 E, .int .i64 V]) (n := w.heap.size + 1) (by simp)).stayed hb); have qA := A1.out.alloc (.cells #[.int .i64 X, .int .i64 Y] 55); have a1c0 := qA.cell (i := 0) rfl; have a1c1 := qA.cell (i := 1) rfl; clear qA; have qC := C1.out.alloc (.cells #[.int .i64 X, .int .i64 Y] 55); have c1c0 := qC.cell (i := 0) rfl; have c1c1 := qC.cell (i := 1) rfl; clear qC; have qn := BoxC.new w1 55 #[.int .i64 X, .int .i64 Y]; have nn1c0 := qn.cell (i := 0) rfl; have nn1c1 := qn.cell (i := 1) rfl; clear qn; clear hb)
    | (go_at_call 40; refine Calls.mono (KB' _).out ?_; rintro e w2 ⟨rfl, hb⟩; clear KB'; have B2 := Lib.hid (Bl.step (Bl.alloc B1.out _) hb); have A2 := Lib.hid ((A1.out.alloc _).stayed hb); have C2 := Lib.hid ((C1.out.alloc _).stayed hb); have M2 := Lib.hid ((BoxC.new w1 55 #[.int .i64 X, .int .i64 Y]).stayed hb); have a2c0 := A2.out.cell (i := 0) rfl; have a2c1 := A2.out.cell (i := 1) rfl; have c2c0 := C2.out.cell (i := 0) rfl; have c2c1 := C2.out.cell (i := 1) rfl; have m2c0 := M2.out.cell (i := 0) rfl; have m2c1 := M2.out.cell (i := 1) rfl; clear hb)
    | (go_at_call 40; refine Calls.mono (KF' _).out ?_; rintro e w3 ⟨rfl, hb⟩; clear KF'; have B3 := Lib.hid (Bl.step (B2.out) hb); have A3 := Lib.hid ((A2.out).stayed hb); have C3 := Lib.hid ((C2.out).stayed hb); have M3 := Lib.hid ((M2.out).stayed hb); have a3c0 := A3.out.cell (i := 0) rfl; have a3c1 := A3.out.cell (i := 1) rfl; have c3c0 := C3.out.cell (i := 0) rfl; have c3c1 := C3.out.cell (i := 1) rfl; have m3c0 := M3.out.cell (i := 0) rfl; have m3c1 := M3.out.cell (i := 1) rfl; clear hb)
    | (go_at_call 40; refine Calls.mono (KG' _).out ?_; rintro e w4 ⟨rfl, hb⟩; clear KG'; have B4 := Lib.hid (Bl.step (B3.out) hb); have A4 := Lib.hid ((A3.out).stayed hb); have C4 := Lib.hid ((C3.out).stayed hb); have M4 := Lib.hid ((M3.out).stayed hb); have a4c0 := A4.out.cell (i := 0) rfl; have a4c1 := A4.out.cell (i := 1) rfl; have c4c0 := C4.out.cell (i := 0) rfl; have c4c1 := C4.out.cell (i := 1) rfl; have m4c0 := M4.out.cell (i := 0) rfl; have m4c1 := M4.out.cell (i := 1) rfl; clear hb)
    | (go_at_call 23; refine Calls.mono (KZ _ (HE.out.below B4.out)).out ?_; rintro e wz ⟨rfl, hb⟩; have BZ := Lib.hid (Bl.step B4.out hb); clear hb))
  go_ret
  exact ⟨by first | rfl | simp, BZ.out⟩
set_option maxHeartbeats 8000000 in
theorem cdu_A1B1 (D U E V n m t X Y d u g h d2 u2 p q r s s2 : Int) (lSa lSb lIa lIb : List UInt8) (w : World) (hE : Env w)
    (K1 : ∀ W, Calls Tryz.prog 38 #[.agg #[.int .i64 D, .int .i64 U], .int .i64 n, .int .i64 t] W (GivesQ W X Y 0)) (d0 : ¬ d < 0) (f1 : IntKind.i64.wrap (d * 86400000000) = g) (f2 : wrap64 (d * 86400000000) = g) (f3 : IntKind.i64.wrap (g + u) = h) (f4 : wrap64 (g + u) = h) (f5 : IntKind.i64.wrap (n * t) = h) (f6 : wrap64 (n * t) = h) (KB : ∀ W, Calls Tryz.prog 40 #[.agg #[.int .i64 D, .int .i64 U], .agg #[.int .i64 X, .int .i64 Y]] W (Gives W #[.int .i64 d, .int .i64 u, .int .i64 0])) (m0 : ¬ 0 ≤ m) (KF : ∀ W, Calls Tryz.prog 40 #[.agg #[.int .i64 D, .int .i64 U], .agg #[.int .i64 E, .int .i64 V]] W (Gives W #[.int .i64 d2, .int .i64 u2, .int .i64 0])) (KG : ∀ W, Calls Tryz.prog 40 #[.agg #[.int .i64 E, .int .i64 V], .agg #[.int .i64 D, .int .i64 U]] W (Gives W #[.int .i64 p, .int .i64 q, .int .i64 0])) (g1 : IntKind.i64.wrap (d2 + p) = r) (g2 : wrap64 (d2 + p) = r) (g3 : IntKind.i64.wrap (r * 86400000000) = s) (g4 : wrap64 (r * 86400000000) = s) (g5 : IntKind.i64.wrap (s + u2) = s2) (g6 : wrap64 (s + u2) = s2) (g7 : IntKind.i64.wrap (s2 + q) = 0) (g8 : wrap64 (s2 + q) = 0) (u0 : ¬ u2 < 0) (u9 : ¬ 86400000000 ≤ u2) (hd : D < E) (KSa : ∀ W, Env W → Calls Tryz.prog 28 #[.int .i64 D, .int .u8 83] W (GivesSE W lSa)) (KSb : ∀ W, Env W → Calls Tryz.prog 28 #[.int .i64 E, .int .u8 83] W (GivesSE W lSb)) (hlS : Op.bytesLess lSa lSb = true) (KIa : ∀ W, Env W → Calls Tryz.prog 28 #[.int .i64 D, .int .u8 73] W (GivesSE W lIa)) (KIb : ∀ W, Env W → Calls Tryz.prog 28 #[.int .i64 E, .int .u8 73] W (GivesSE W lIb)) (hlI : Op.bytesLess lIa lIb = true) :
    Calls Tryz.prog 12 #[.agg #[.int .i64 D, .int .i64 U], .agg #[.int .i64 E, .int .i64 V], .int .i64 n, .int .i64 m, .int .i64 t] w fun e w' => e = .returned (.bool true) ∧ Below w.heap.size w w' := by
  have K1' := fun W => Lib.hid (K1 W)
  have KB' := fun W => Lib.hid (KB W)
  have KF' := fun W => Lib.hid (KF W)
  have KG' := fun W => Lib.hid (KG W)
  have KSa' := fun W (hW : Env W) => Lib.hid (KSa W hW)
  have KSb' := fun W (hW : Env W) => Lib.hid (KSb W hW)
  have KIa' := fun W (hW : Env W) => Lib.hid (KIa W hW)
  have KIb' := fun W (hW : Env W) => Lib.hid (KIb W hW)
  have KZ := fun W (hW : Env W) => Lib.hid (sane_any W hW)
  have HE := Lib.hid hE
  have hcv := fun (W : World) => Lib.run_convert_bytes_const (P := Tryz.prog) W 64 5 #[.int .u8 83, .int .u8 73] 2 2 Tryz.underlying64 Tryz.underlying5
  have HS := Lib.hid hlS
  have HI := Lib.hid hlI
  clear hE K1 KB KF KG KSa KSb KIa KIb hlS hlI
  have xa := (BoxC.new w 55 #[.int .i64 D, .int .i64 U]).alloc (.cells #[.int .i64 E, .int .i64 V] 55)
  have x0 := xa.cell (i := 0) rfl
  have x1 := xa.cell (i := 1) rfl
  clear xa
  go_enter Tryz.func12, Tryz.ntmps12
  go_wp2_with (first
    | (go_at_call 38; refine Calls.mono (K1' _).out ?_; rintro e w1 ⟨rfl, hb⟩; clear K1'; have B1 := Lib.hid (Bl.step (Bl.alloc (Bl.alloc (Below.refl _ w) _) _) hb); have A1 := Lib.hid (((BoxC.new w 55 #[.int .i64 D, .int .i64 U]).alloc _).stayed hb); have C1 := Lib.hid ((BoxC.newAt (W := w.alloc (.cells #[.int .i64 D, .int .i64 U] 55)) (t := 55) (cs := #[.int .i64 E, .int .i64 V]) (n := w.heap.size + 1) (by simp)).stayed hb); have qA := A1.out.alloc (.cells #[.int .i64 X, .int .i64 Y] 55); have a1c0 := qA.cell (i := 0) rfl; have a1c1 := qA.cell (i := 1) rfl; clear qA; have qC := C1.out.alloc (.cells #[.int .i64 X, .int .i64 Y] 55); have c1c0 := qC.cell (i := 0) rfl; have c1c1 := qC.cell (i := 1) rfl; clear qC; have qn := BoxC.new w1 55 #[.int .i64 X, .int .i64 Y]; have nn1c0 := qn.cell (i := 0) rfl; have nn1c1 := qn.cell (i := 1) rfl; clear qn; clear hb)
    | (go_at_call 40; refine Calls.mono (KB' _).out ?_; rintro e w2 ⟨rfl, hb⟩; clear KB'; have B2 := Lib.hid (Bl.step (Bl.alloc B1.out _) hb); have A2 := Lib.hid ((A1.out.alloc _).stayed hb); have C2 := Lib.hid ((C1.out.alloc _).stayed hb); have M2 := Lib.hid ((BoxC.new w1 55 #[.int .i64 X, .int .i64 Y]).stayed hb); have a2c0 := A2.out.cell (i := 0) rfl; have a2c1 := A2.out.cell (i := 1) rfl; have c2c0 := C2.out.cell (i := 0) rfl; have c2c1 := C2.out.cell (i := 1) rfl; have m2c0 := M2.out.cell (i := 0) rfl; have m2c1 := M2.out.cell (i := 1) rfl; clear hb)
    | (go_at_call 40; refine Calls.mono (KF' _).out ?_; rintro e w3 ⟨rfl, hb⟩; clear KF'; have B3 := Lib.hid (Bl.step (B2.out) hb); have A3 := Lib.hid ((A2.out).stayed hb); have C3 := Lib.hid ((C2.out).stayed hb); have M3 := Lib.hid ((M2.out).stayed hb); have a3c0 := A3.out.cell (i := 0) rfl; have a3c1 := A3.out.cell (i := 1) rfl; have c3c0 := C3.out.cell (i := 0) rfl; have c3c1 := C3.out.cell (i := 1) rfl; have m3c0 := M3.out.cell (i := 0) rfl; have m3c1 := M3.out.cell (i := 1) rfl; clear hb)
    | (go_at_call 40; refine Calls.mono (KG' _).out ?_; rintro e w4 ⟨rfl, hb⟩; clear KG'; have B4 := Lib.hid (Bl.step (B3.out) hb); have A4 := Lib.hid ((A3.out).stayed hb); have C4 := Lib.hid ((C3.out).stayed hb); have M4 := Lib.hid ((M3.out).stayed hb); have a4c0 := A4.out.cell (i := 0) rfl; have a4c1 := A4.out.cell (i := 1) rfl; have c4c0 := C4.out.cell (i := 0) rfl; have c4c1 := C4.out.cell (i := 1) rfl; have m4c0 := M4.out.cell (i := 0) rfl; have m4c1 := M4.out.cell (i := 1) rfl; clear hb))
  go_loopw [144] (fun v wr => ∃ k : Int, v = .int .i64 k ∧ (k = 0 ∨ k = 1 ∨ k = 2) ∧ Hid (BoxC wr w.heap.size 55 #[.int .i64 D, .int .i64 U]) ∧ Hid (BoxC wr (w.heap.size + 1) 55 #[.int .i64 E, .int .i64 V]) ∧ Hid (RowSI wr w4.heap.size) ∧ Hid (Below w.heap.size w wr)) (fun v _ => (2 - intOf v).toNat)
  case atStart => exact ⟨0, rfl, Or.inl rfl, Lib.hid (A4.out.alloc _), Lib.hid (C4.out.alloc _), Lib.hid (RowSI.new _), Lib.hid (Bl.alloc B4.out _)⟩
  case round =>
    obtain ⟨k, rfl, hk, ha, hc, hr, hbl⟩ := hrel
    have ra0 := ha.out.cell (i := 0) rfl
    have rc0 := hc.out.cell (i := 0) rfl
    have rr0 := hr.out.c0
    have rr1 := hr.out.c1
    rcases hk with rfl | rfl | rfl
    · go_wp2_with (first
        | (go_at_call 28; refine Calls.mono (KSa' _ (HE.out.below hbl.out)).out ?_; rintro e y1 ⟨t1, rfl, ht1, hb⟩; clear KSa'; have Y1 := Lib.hid (Bl.step hbl.out hb); have YA := Lib.hid (ha.out.stayed hb); have YC := Lib.hid (hc.out.stayed hb); have YR := Lib.hid (hr.out.stayed hb); have ya := YA.out.cell (i := 0) rfl; have yc := YC.out.cell (i := 0) rfl; clear hb)
        | (go_at_call 28; refine Calls.mono (KSb' _ (HE.out.below Y1.out)).out ?_; rintro e y2 ⟨t2, rfl, ht2, hb⟩; clear KSb'; have Y2 := Lib.hid (Bl.step Y1.out hb); have ZA := Lib.hid (YA.out.stayed hb); have ZC := Lib.hid (YC.out.stayed hb); have ZR := Lib.hid (YR.out.stayed hb); have za := ZA.out.cell (i := 0) rfl; have zc := ZC.out.cell (i := 0) rfl; have hbl2 : Op.bytesLess t1.toList t2.toList = true := (by rw [toList_bts, toList_bts, ht1.out, ht2.out]; exact HS.out); clear hb))
      go_roundw
      case rel => exact ⟨1, by first | rfl | go_num | simp, by omega, ZA, ZC, ZR, Y2⟩
      case measure => simp [intOf]
    · go_wp2_with (first
        | (go_at_call 28; refine Calls.mono (KIa' _ (HE.out.below hbl.out)).out ?_; rintro e y1 ⟨t1, rfl, ht1, hb⟩; clear KIa'; have Y1 := Lib.hid (Bl.step hbl.out hb); have YA := Lib.hid (ha.out.stayed hb); have YC := Lib.hid (hc.out.stayed hb); have YR := Lib.hid (hr.out.stayed hb); have ya := YA.out.cell (i := 0) rfl; have yc := YC.out.cell (i := 0) rfl; clear hb)
        | (go_at_call 28; refine Calls.mono (KIb' _ (HE.out.below Y1.out)).out ?_; rintro e y2 ⟨t2, rfl, ht2, hb⟩; clear KIb'; have Y2 := Lib.hid (Bl.step Y1.out hb); have ZA := Lib.hid (YA.out.stayed hb); have ZC := Lib.hid (YC.out.stayed hb); have ZR := Lib.hid (YR.out.stayed hb); have za := ZA.out.cell (i := 0) rfl; have zc := ZC.out.cell (i := 0) rfl; have hbl2 : Op.bytesLess t1.toList t2.toList = true := (by rw [toList_bts, toList_bts, ht1.out, ht2.out]; exact HI.out); clear hb))
      go_roundw
      case rel => exact ⟨2, by first | rfl | go_num | simp, by omega, ZA, ZC, ZR, Y2⟩
      case measure => simp [intOf]
    · go_wp2_with (go_at_call 23; refine Calls.mono (KZ _ (HE.out.below hbl.out)).out ?_; rintro e wz ⟨rfl, hb⟩; have BZ := Lib.hid (Bl.step hbl.out hb); clear hb)
      go_ret
      exact ⟨by first | rfl | simp, BZ.out⟩
set_option maxHeartbeats 8000000 in
theorem cdu_A1B2 (D U E V n m t X Y d u g h d2 u2 p q r s s2 : Int) (lSa lSb lIa lIb : List UInt8) (w : World) (hE : Env w)
    (K1 : ∀ W, Calls Tryz.prog 38 #[.agg #[.int .i64 D, .int .i64 U], .int .i64 n, .int .i64 t] W (GivesQ W X Y 0)) (d0 : ¬ d < 0) (f1 : IntKind.i64.wrap (d * 86400000000) = g) (f2 : wrap64 (d * 86400000000) = g) (f3 : IntKind.i64.wrap (g + u) = h) (f4 : wrap64 (g + u) = h) (f5 : IntKind.i64.wrap (n * t) = h) (f6 : wrap64 (n * t) = h) (KB : ∀ W, Calls Tryz.prog 40 #[.agg #[.int .i64 D, .int .i64 U], .agg #[.int .i64 X, .int .i64 Y]] W (Gives W #[.int .i64 d, .int .i64 u, .int .i64 0])) (m0 : ¬ 0 ≤ m) (KF : ∀ W, Calls Tryz.prog 40 #[.agg #[.int .i64 D, .int .i64 U], .agg #[.int .i64 E, .int .i64 V]] W (Gives W #[.int .i64 d2, .int .i64 u2, .int .i64 0])) (KG : ∀ W, Calls Tryz.prog 40 #[.agg #[.int .i64 E, .int .i64 V], .agg #[.int .i64 D, .int .i64 U]] W (Gives W #[.int .i64 p, .int .i64 q, .int .i64 0])) (g1 : IntKind.i64.wrap (d2 + p) = r) (g2 : wrap64 (d2 + p) = r) (g3 : IntKind.i64.wrap (r * 86400000000) = s) (g4 : wrap64 (r * 86400000000) = s) (g5 : IntKind.i64.wrap (s + u2) = s2) (g6 : wrap64 (s + u2) = s2) (g7 : IntKind.i64.wrap (s2 + q) = 0) (g8 : wrap64 (s2 + q) = 0) (u0 : ¬ u2 < 0) (u9 : ¬ 86400000000 ≤ u2) (hd : ¬ D < E) (KSa : ∀ W, Env W → Calls Tryz.prog 28 #[.int .i64 D, .int .u8 83] W (GivesSE W lSa)) (KSb : ∀ W, Env W → Calls Tryz.prog 28 #[.int .i64 E, .int .u8 83] W (GivesSE W lSb)) (hlS : Op.bytesLess lSa lSb = false) (KIa : ∀ W, Env W → Calls Tryz.prog 28 #[.int .i64 D, .int .u8 73] W (GivesSE W lIa)) (KIb : ∀ W, Env W → Calls Tryz.prog 28 #[.int .i64 E, .int .u8 73] W (GivesSE W lIb)) (hlI : Op.bytesLess lIa lIb = false) :
    Calls Tryz.prog 12 #[.agg #[.int .i64 D, .int .i64 U], .agg #[.int .i64 E, .int .i64 V], .int .i64 n, .int .i64 m, .int .i64 t] w fun e w' => e = .returned (.bool true) ∧ Below w.heap.size w w' := by
  have K1' := fun W => Lib.hid (K1 W)
  have KB' := fun W => Lib.hid (KB W)
  have KF' := fun W => Lib.hid (KF W)
  have KG' := fun W => Lib.hid (KG W)
  have KSa' := fun W (hW : Env W) => Lib.hid (KSa W hW)
  have KSb' := fun W (hW : Env W) => Lib.hid (KSb W hW)
  have KIa' := fun W (hW : Env W) => Lib.hid (KIa W hW)
  have KIb' := fun W (hW : Env W) => Lib.hid (KIb W hW)
  have KZ := fun W (hW : Env W) => Lib.hid (sane_any W hW)
  have HE := Lib.hid hE
  have hcv := fun (W : World) => Lib.run_convert_bytes_const (P := Tryz.prog) W 64 5 #[.int .u8 83, .int .u8 73] 2 2 Tryz.underlying64 Tryz.underlying5
  have HS := Lib.hid hlS
  have HI := Lib.hid hlI
  clear hE K1 KB KF KG KSa KSb KIa KIb hlS hlI
  have xa := (BoxC.new w 55 #[.int .i64 D, .int .i64 U]).alloc (.cells #[.int .i64 E, .int .i64 V] 55)
  have x0 := xa.cell (i := 0) rfl
  have x1 := xa.cell (i := 1) rfl
  clear xa
  go_enter Tryz.func12, Tryz.ntmps12
  go_wp2_with (first
    | (go_at_call 38; refine Calls.mono (K1' _).out ?_; rintro e w1 ⟨rfl, hb⟩; clear K1'; have B1 := Lib.hid (Bl.step (Bl.alloc (Bl.alloc (Below.refl _ w) _) _) hb); have A1 := Lib.hid (((BoxC.new w 55 #[.int .i64 D, .int .i64 U]).alloc _).stayed hb); have C1 := Lib.hid ((BoxC.newAt (W := w.alloc (.cells #[.int .i64 D, .int .i64 U] 55)) (t := 55) (cs := #[.int .i64 E, .int .i64 V]) (n := w.heap.size + 1) (by simp)).stayed hb); have qA := A1.out.alloc (.cells #[.int .i64 X, .int .i64 Y] 55); have a1c0 := qA.cell (i := 0) rfl; have a1c1 := qA.cell (i := 1) rfl; clear qA; have qC := C1.out.alloc (.cells #[.int .i64 X, .int .i64 Y] 55); have c1c0 := qC.cell (i := 0) rfl; have c1c1 := qC.cell (i := 1) rfl; clear qC; have qn := BoxC.new w1 55 #[.int .i64 X, .int .i64 Y]; have nn1c0 := qn.cell (i := 0) rfl; have nn1c1 := qn.cell (i := 1) rfl; clear qn; clear hb)
    | (go_at_call 40; refine Calls.mono (KB' _).out ?_; rintro e w2 ⟨rfl, hb⟩; clear KB'; have B2 := Lib.hid (Bl.step (Bl.alloc B1.out _) hb); have A2 := Lib.hid ((A1.out.alloc _).stayed hb); have C2 := Lib.hid ((C1.out.alloc _).stayed hb); have M2 := Lib.hid ((BoxC.new w1 55 #[.int .i64 X, .int .i64 Y]).stayed hb); have a2c0 := A2.out.cell (i := 0) rfl; have a2c1 := A2.out.cell (i := 1) rfl; have c2c0 := C2.out.cell (i := 0) rfl; have c2c1 := C2.out.cell (i := 1) rfl; have m2c0 := M2.out.cell (i := 0) rfl; have m2c1 := M2.out.cell (i := 1) rfl; clear hb)
    | (go_at_call 40; refine Calls.mono (KF' _).out ?_; rintro e w3 ⟨rfl, hb⟩; clear KF'; have B3 := Lib.hid (Bl.step (B2.out) hb); have A3 := Lib.hid ((A2.out).stayed hb); have C3 := Lib.hid ((C2.out).stayed hb); have M3 := Lib.hid ((M2.out).stayed hb); have a3c0 := A3.out.cell (i := 0) rfl; have a3c1 := A3.out.cell (i := 1) rfl; have c3c0 := C3.out.cell (i := 0) rfl; have c3c1 := C3.out.cell (i := 1) rfl; have m3c0 := M3.out.cell (i := 0) rfl; have m3c1 := M3.out.cell (i := 1) rfl; clear hb)
    | (go_at_call 40; refine Calls.mono (KG' _).out ?_; rintro e w4 ⟨rfl, hb⟩; clear KG'; have B4 := Lib.hid (Bl.step (B3.out) hb); have A4 := Lib.hid ((A3.out).stayed hb); have C4 := Lib.hid ((C3.out).stayed hb); have M4 := Lib.hid ((M3.out).stayed hb); have a4c0 := A4.out.cell (i := 0) rfl; have a4c1 := A4.out.cell (i := 1) rfl; have c4c0 := C4.out.cell (i := 0) rfl; have c4c1 := C4.out.cell (i := 1) rfl; have m4c0 := M4.out.cell (i := 0) rfl; have m4c1 := M4.out.cell (i := 1) rfl; clear hb))
  go_loopw [144] (fun v wr => ∃ k : Int, v = .int .i64 k ∧ (k = 0 ∨ k = 1 ∨ k = 2) ∧ Hid (BoxC wr w.heap.size 55 #[.int .i64 D, .int .i64 U]) ∧ Hid (BoxC wr (w.heap.size + 1) 55 #[.int .i64 E, .int .i64 V]) ∧ Hid (RowSI wr w4.heap.size) ∧ Hid (Below w.heap.size w wr)) (fun v _ => (2 - intOf v).toNat)
  case atStart => exact ⟨0, rfl, Or.inl rfl, Lib.hid (A4.out.alloc _), Lib.hid (C4.out.alloc _), Lib.hid (RowSI.new _), Lib.hid (Bl.alloc B4.out _)⟩
  case round =>
    obtain ⟨k, rfl, hk, ha, hc, hr, hbl⟩ := hrel
    have ra0 := ha.out.cell (i := 0) rfl
    have rc0 := hc.out.cell (i := 0) rfl
    have rr0 := hr.out.c0
    have rr1 := hr.out.c1
    rcases hk with rfl | rfl | rfl
    · go_wp2_with (first
        | (go_at_call 28; refine Calls.mono (KSa' _ (HE.out.below hbl.out)).out ?_; rintro e y1 ⟨t1, rfl, ht1, hb⟩; clear KSa'; have Y1 := Lib.hid (Bl.step hbl.out hb); have YA := Lib.hid (ha.out.stayed hb); have YC := Lib.hid (hc.out.stayed hb); have YR := Lib.hid (hr.out.stayed hb); have ya := YA.out.cell (i := 0) rfl; have yc := YC.out.cell (i := 0) rfl; clear hb)
        | (go_at_call 28; refine Calls.mono (KSb' _ (HE.out.below Y1.out)).out ?_; rintro e y2 ⟨t2, rfl, ht2, hb⟩; clear KSb'; have Y2 := Lib.hid (Bl.step Y1.out hb); have ZA := Lib.hid (YA.out.stayed hb); have ZC := Lib.hid (YC.out.stayed hb); have ZR := Lib.hid (YR.out.stayed hb); have za := ZA.out.cell (i := 0) rfl; have zc := ZC.out.cell (i := 0) rfl; have hbl2 : Op.bytesLess t1.toList t2.toList = false := (by rw [toList_bts, toList_bts, ht1.out, ht2.out]; exact HS.out); clear hb))
      go_roundw
      case rel => exact ⟨1, by first | rfl | go_num | simp, by omega, ZA, ZC, ZR, Y2⟩
      case measure => simp [intOf]
    · go_wp2_with (first
        | (go_at_call 28; refine Calls.mono (KIa' _ (HE.out.below hbl.out)).out ?_; rintro e y1 ⟨t1, rfl, ht1, hb⟩; clear KIa'; have Y1 := Lib.hid (Bl.step hbl.out hb); have YA := Lib.hid (ha.out.stayed hb); have YC := Lib.hid (hc.out.stayed hb); have YR := Lib.hid (hr.out.stayed hb); have ya := YA.out.cell (i := 0) rfl; have yc := YC.out.cell (i := 0) rfl; clear hb)
        | (go_at_call 28; refine Calls.mono (KIb' _ (HE.out.below Y1.out)).out ?_; rintro e y2 ⟨t2, rfl, ht2, hb⟩; clear KIb'; have Y2 := Lib.hid (Bl.step Y1.out hb); have ZA := Lib.hid (YA.out.stayed hb); have ZC := Lib.hid (YC.out.stayed hb); have ZR := Lib.hid (YR.out.stayed hb); have za := ZA.out.cell (i := 0) rfl; have zc := ZC.out.cell (i := 0) rfl; have hbl2 : Op.bytesLess t1.toList t2.toList = false := (by rw [toList_bts, toList_bts, ht1.out, ht2.out]; exact HI.out); clear hb))
      go_roundw
      case rel => exact ⟨2, by first | rfl | go_num | simp, by omega, ZA, ZC, ZR, Y2⟩
      case measure => simp [intOf]
    · go_wp2_with (go_at_call 23; refine Calls.mono (KZ _ (HE.out.below hbl.out)).out ?_; rintro e wz ⟨rfl, hb⟩; have BZ := Lib.hid (Bl.step hbl.out hb); clear hb)
      go_ret
      exact ⟨by first | rfl | simp, BZ.out⟩
set_option maxHeartbeats 8000000 in
theorem cdu_A2B0 (D U E V n m t X Y d u g h : Int) (w : World) (hE : Env w)
    (K1 : ∀ W, Calls Tryz.prog 38 #[.agg #[.int .i64 D, .int .i64 U], .int .i64 n, .int .i64 t] W (GivesQ W X Y 0)) (d0 : ¬ d < 0) (f1 : IntKind.i64.wrap (d * 86400000000) = g) (f2 : wrap64 (d * 86400000000) = g) (f3 : IntKind.i64.wrap (g + u) = h) (f4 : wrap64 (g + u) = h) (f5 : IntKind.i64.wrap (n * t) = h) (f6 : wrap64 (n * t) = h) (KB : ∀ W, Calls Tryz.prog 40 #[.agg #[.int .i64 D, .int .i64 U], .agg #[.int .i64 X, .int .i64 Y]] W (Gives W #[.int .i64 d, .int .i64 u, .int .i64 0])) (m0 : 0 ≤ m) (m1 : ¬ m ≤ n) (KF : ∀ W, Calls Tryz.prog 40 #[.agg #[.int .i64 D, .int .i64 U], .agg #[.int .i64 E, .int .i64 V]] W (Gives W #[.int .i64 0, .int .i64 0, .int .i64 1])) (KG : ∀ W, Calls Tryz.prog 40 #[.agg #[.int .i64 E, .int .i64 V], .agg #[.int .i64 D, .int .i64 U]] W (Gives W #[.int .i64 0, .int .i64 0, .int .i64 1])) :
    Calls Tryz.prog 12 #[.agg #[.int .i64 D, .int .i64 U], .agg #[.int .i64 E, .int .i64 V], .int .i64 n, .int .i64 m, .int .i64 t] w fun e w' => e = .returned (.bool true) ∧ Below w.heap.size w w' := by
  have K1' := fun W => Lib.hid (K1 W)
  have KB' := fun W => Lib.hid (KB W)
  have KF' := fun W => Lib.hid (KF W)
  have KG' := fun W => Lib.hid (KG W)
  have KZ := fun W (hW : Env W) => Lib.hid (sane_any W hW)
  have HE := Lib.hid hE
  clear hE K1 KB KF KG
  have xa := (BoxC.new w 55 #[.int .i64 D, .int .i64 U]).alloc (.cells #[.int .i64 E, .int .i64 V] 55)
  have x0 := xa.cell (i := 0) rfl
  have x1 := xa.cell (i := 1) rfl
  clear xa
  go_enter Tryz.func12, Tryz.ntmps12
  go_wp2_with (first
    | (go_at_call 38; refine Calls.mono (K1' _).out ?_; rintro e w1 ⟨rfl, hb⟩; clear K1'; have B1 := Lib.hid (Bl.step (Bl.alloc (Bl.alloc (Below.refl _ w) _) _) hb); have A1 := Lib.hid (((BoxC.new w 55 #[.int .i64 D, .int .i64 U]).alloc _).stayed hb); have C1 := Lib.hid ((BoxC.newAt (W := w.alloc (.cells #[.int .i64 D, .int .i64 U] 55)) (t := 55) (cs := #[.int .i64 E, .int .i64 V]) (n := w.heap.size + 1) (by simp)).stayed hb); have qA := A1.out.alloc (.cells #[.int .i64 X, .int .i64 Y] 55); have a1c0 := qA.cell (i := 0) rfl; have a1c1 := qA.cell (i := 1) rfl; clear qA; have qC := C1.out.alloc (.cells #[.int .i64 X, .int .i64 Y] 55); have c1c0 := qC.cell (i := 0) rfl; have c1c1 := qC.cell (i := 1) rfl; clear qC; have qn := BoxC.new w1 55 #[.int .i64 X, .int .i64 Y]; have nn1c0 := qn.cell (i := 0) rfl; have nn1c1 := qn.cell (i := 1) rfl; clear qn; clear hb)
    | (go_at_call 40; refine Calls.mono (KB' _).out ?_; rintro e w2 ⟨rfl, hb⟩; clear KB'; have B2 := Lib.hid (Bl.step (Bl.alloc B1.out _) hb); have A2 := Lib.hid ((A1.out.alloc _).stayed hb); have C2 := Lib.hid ((C1.out.alloc _).stayed hb); have M2 := Lib.hid ((BoxC.new w1 55 #[.int .i64 X, .int .i64 Y]).stayed hb); have a2c0 := A2.out.cell (i := 0) rfl; have a2c1 := A2.out.cell (i := 1) rfl; have c2c0 := C2.out.cell (i := 0) rfl; have c2c1 := C2.out.cell (i := 1) rfl; have m2c0 := M2.out.cell (i := 0) rfl; have m2c1 := M2.out.cell (i := 1) rfl; clear hb)
    | (go_at_call 40; refine Calls.mono (KF' _).out ?_; rintro e w3 ⟨rfl, hb⟩; clear KF'; have B3 := Lib.hid (Bl.step (B2.out) hb); have A3 := Lib.hid ((A2.out).stayed hb); have C3 := Lib.hid ((C2.out).stayed hb); have M3 := Lib.hid ((M2.out).stayed hb); have a3c0 := A3.out.cell (i := 0) rfl; have a3c1 := A3.out.cell (i := 1) rfl; have c3c0 := C3.out.cell (i := 0) rfl; have c3c1 := C3.out.cell (i := 1) rfl; have m3c0 := M3.out.cell (i := 0) rfl; have m3c1 := M3.out.cell (i := 1) rfl; clear hb)
    | (go_at_call 40; refine Calls.mono (KG' _).out ?_; rintro e w4 ⟨rfl, hb⟩; clear KG'; have B4 := Lib.hid (Bl.step (B3.out) hb); have A4 := Lib.hid ((A3.out).stayed hb); have C4 := Lib.hid ((C3.out).stayed hb); have M4 := Lib.hid ((M3.out).stayed hb); have a4c0 := A4.out.cell (i := 0) rfl; have a4c1 := A4.out.cell (i := 1) rfl; have c4c0 := C4.out.cell (i := 0) rfl; have c4c1 := C4.out.cell (i := 1) rfl; have m4c0 := M4.out.cell (i := 0) rfl; have m4c1 := M4.out.cell (i := 1) rfl; clear hb)
    | (go_at_call 23; refine Calls.mono (KZ _ (HE.out.below B4.out)).out ?_; rintro e wz ⟨rfl, hb⟩; have BZ := Lib.hid (Bl.step B4.out hb); clear hb))
  go_ret
  exact ⟨by first | rfl | simp, BZ.out⟩
set_option maxHeartbeats 8000000 in
theorem cdu_A2B1 (D U E V n m t X Y d u g h d2 u2 p q r s s2 : Int) (lSa lSb lIa lIb : List UInt8) (w : World) (hE : Env w)
    (K1 : ∀ W, Calls Tryz.prog 38 #[.agg #[.int .i64 D, .int .i64 U], .int .i64 n, .int .i64 t] W (GivesQ W X Y 0)) (d0 : ¬ d < 0) (f1 : IntKind.i64.wrap (d * 86400000000) = g) (f2 : wrap64 (d * 86400000000) = g) (f3 : IntKind.i64.wrap (g + u) = h) (f4 : wrap64 (g + u) = h) (f5 : IntKind.i64.wrap (n * t) = h) (f6 : wrap64 (n * t) = h) (KB : ∀ W, Calls Tryz.prog 40 #[.agg #[.int .i64 D, .int .i64 U], .agg #[.int .i64 X, .int .i64 Y]] W (Gives W #[.int .i64 d, .int .i64 u, .int .i64 0])) (m0 : 0 ≤ m) (m1 : ¬ m ≤ n) (KF : ∀ W, Calls Tryz.prog 40 #[.agg #[.int .i64 D, .int .i64 U], .agg #[.int .i64 E, .int .i64 V]] W (Gives W #[.int .i64 d2, .int .i64 u2, .int .i64 0])) (KG : ∀ W, Calls Tryz.prog 40 #[.agg #[.int .i64 E, .int .i64 V], .agg #[.int .i64 D, .int .i64 U]] W (Gives W #[.int .i64 p, .int .i64 q, .int .i64 0])) (g1 : IntKind.i64.wrap (d2 + p) = r) (g2 : wrap64 (d2 + p) = r) (g3 : IntKind.i64.wrap (r * 86400000000) = s) (g4 : wrap64 (r * 86400000000) = s) (g5 : IntKind.i64.wrap (s + u2) = s2) (g6 : wrap64 (s + u2) = s2) (g7 : IntKind.i64.wrap (s2 + q) = 0) (g8 : wrap64 (s2 + q) = 0) (u0 : ¬ u2 < 0) (u9 : ¬ 86400000000 ≤ u2) (hd : D < E) (KSa : ∀ W, Env W → Calls Tryz.prog 28 #[.int .i64 D, .int .u8 83] W (GivesSE W lSa)) (KSb : ∀ W, Env W → Calls Tryz.prog 28 #[.int .i64 E, .int .u8 83] W (GivesSE W lSb)) (hlS : Op.bytesLess lSa lSb = true) (KIa : ∀ W, Env W → Calls Tryz.prog 28 #[.int .i64 D, .int .u8 73] W (GivesSE W lIa)) (KIb : ∀ W, Env W → Calls Tryz.prog 28 #[.int .i64 E, .int .u8 73] W (GivesSE W lIb)) (hlI : Op.bytesLess lIa lIb = true) :
    Calls Tryz.prog 12 #[.agg #[.int .i64 D, .int .i64 U], .agg #[.int .i64 E, .int .i64 V], .int .i64 n, .int .i64 m, .int .i64 t] w fun e w' => e = .returned (.bool true) ∧ Below w.heap.size w w' := by
  have K1' := fun W => Lib.hid (K1 W)
  have KB' := fun W => Lib.hid (KB W)
  have KF' := fun W => Lib.hid (KF W)
  have KG' := fun W => Lib.hid (KG W)
  have KSa' := fun W (hW : Env W) => Lib.hid (KSa W hW)
  have KSb' := fun W (hW : Env W) => Lib.hid (KSb W hW)
  have KIa' := fun W (hW : Env W) => Lib.hid (KIa W hW)
  have KIb' := fun W (hW : Env W) => Lib.hid (KIb W hW)
  have KZ := fun W (hW : Env W) => Lib.hid (sane_any W hW)
  have HE := Lib.hid hE
  have hcv := fun (W : World) => Lib.run_convert_bytes_const (P := Tryz.prog) W 64 5 #[.int .u8 83, .int .u8 73] 2 2 Tryz.underlying64 Tryz.underlying5
  have HS := Lib.hid hlS
  have HI := Lib.hid hlI
  clear hE K1 KB KF KG KSa KSb KIa KIb hlS hlI
  have xa := (BoxC.new w 55 #[.int .i64 D, .int .i64 U]).alloc (.cells #[.int .i64 E, .int .i64 V] 55)
  have x0 := xa.cell (i := 0) rfl
  have x1 := xa.cell (i := 1) rfl
  clear xa
  go_enter Tryz.func12, Tryz.ntmps12
  go_wp2_with (first
    | (go_at_call 38; refine Calls.mono (K1' _).out ?_; rintro e w1 ⟨rfl, hb⟩; clear K1'; have B1 := Lib.hid (Bl.step (Bl.alloc (Bl.alloc (Below.refl _ w) _) _) hb); have A1 := Lib.hid (((BoxC.new w 55 #[.int .i64 D, .int .i64 U]).alloc _).stayed hb); have C1 := Lib.hid ((BoxC.newAt (W := w.alloc (.cells #[.int .i64 D, .int .i64 U] 55)) (t := 55) (cs := #[.int .i64 E, .int .i64 V]) (n := w.heap.size + 1) (by simp)).stayed hb); have qA := A1.out.alloc (.cells #[.int .i64 X, .int .i64 Y] 55); have a1c0 := qA.cell (i := 0) rfl; have a1c1 := qA.cell (i := 1) rfl; clear qA; have qC := C1.out.alloc (.cells #[.int .i64 X, .int .i64 Y] 55); have c1c0 := qC.cell (i := 0) rfl; have c1c1 := qC.cell (i := 1) rfl; clear qC; have qn := BoxC.new w1 55 #[.int .i64 X, .int .i64 Y]; have nn1c0 := qn.cell (i := 0) rfl; have nn1c1 := qn.cell (i := 1) rfl; clear qn; clear hb)
    | (go_at_call 40; refine Calls.mono (KB' _).out ?_; rintro e w2 ⟨rfl, hb⟩; clear KB'; have B2 := Lib.hid (Bl.step (Bl.alloc B1.out _) hb); have A2 := Lib.hid ((A1.out.alloc _).stayed hb); have C2 := Lib.hid ((C1.out.alloc _).stayed hb); have M2 := Lib.hid ((BoxC.new w1 55 #[.int .i64 X, .int .i64 Y]).stayed hb); have a2c0 := A2.out.cell (i := 0) rfl; have a2c1 := A2.out.cell (i := 1) rfl; have c2c0 := C2.out.cell (i := 0) rfl; have c2c1 := C2.out.cell (i := 1) rfl; have m2c0 := M2.out.cell (i := 0) rfl; have m2c1 := M2.out.cell (i := 1) rfl; clear hb)
    | (go_at_call 40; refine Calls.mono (KF' _).out ?_; rintro e w3 ⟨rfl, hb⟩; clear KF'; have B3 := Lib.hid (Bl.step (B2.out) hb); have A3 := Lib.hid ((A2.out).stayed hb); have C3 := Lib.hid ((C2.out).stayed hb); have M3 := Lib.hid ((M2.out).stayed hb); have a3c0 := A3.out.cell (i := 0) rfl; have a3c1 := A3.out.cell (i := 1) rfl; have c3c0 := C3.out.cell (i := 0) rfl; have c3c1 := C3.out.cell (i := 1) rfl; have m3c0 := M3.out.cell (i := 0) rfl; have m3c1 := M3.out.cell (i := 1) rfl; clear hb)
    | (go_at_call 40; refine Calls.mono (KG' _).out ?_; rintro e w4 ⟨rfl, hb⟩; clear KG'; have B4 := Lib.hid (Bl.step (B3.out) hb); have A4 := Lib.hid ((A3.out).stayed hb); have C4 := Lib.hid ((C3.out).stayed hb); have M4 := Lib.hid ((M3.out).stayed hb); have a4c0 := A4.out.cell (i := 0) rfl; have a4c1 := A4.out.cell (i := 1) rfl; have c4c0 := C4.out.cell (i := 0) rfl; have c4c1 := C4.out.cell (i := 1) rfl; have m4c0 := M4.out.cell (i := 0) rfl; have m4c1 := M4.out.cell (i := 1) rfl; clear hb))
  go_loopw [144] (fun v wr => ∃ k : Int, v = .int .i64 k ∧ (k = 0 ∨ k = 1 ∨ k = 2) ∧ Hid (BoxC wr w.heap.size 55 #[.int .i64 D, .int .i64 U]) ∧ Hid (BoxC wr (w.heap.size + 1) 55 #[.int .i64 E, .int .i64 V]) ∧ Hid (RowSI wr w4.heap.size) ∧ Hid (Below w.heap.size w wr)) (fun v _ => (2 - intOf v).toNat)
  case atStart => exact ⟨0, rfl, Or.inl rfl, Lib.hid (A4.out.alloc _), Lib.hid (C4.out.alloc _), Lib.hid (RowSI.new _), Lib.hid (Bl.alloc B4.out _)⟩
  case round =>
    obtain ⟨k, rfl, hk, ha, hc, hr, hbl⟩ := hrel
    have ra0 := ha.out.cell (i := 0) rfl
    have rc0 := hc.out.cell (i := 0) rfl
    have rr0 := hr.out.c0
    have rr1 := hr.out.c1
    rcases hk with rfl | rfl | rfl
    · go_wp2_with (first
        | (go_at_call 28; refine Calls.mono (KSa' _ (HE.out.below hbl.out)).out ?_; rintro e y1 ⟨t1, rfl, ht1, hb⟩; clear KSa'; have Y1 := Lib.hid (Bl.step hbl.out hb); have YA := Lib.hid (ha.out.stayed hb); have YC := Lib.hid (hc.out.stayed hb); have YR := Lib.hid (hr.out.stayed hb); have ya := YA.out.cell (i := 0) rfl; have yc := YC.out.cell (i := 0) rfl; clear hb)
        | (go_at_call 28; refine Calls.mono (KSb' _ (HE.out.below Y1.out)).out ?_; rintro e y2 ⟨t2, rfl, ht2, hb⟩; clear KSb'; have Y2 := Lib.hid (Bl.step Y1.out hb); have ZA := Lib.hid (YA.out.stayed hb); have ZC := Lib.hid (YC.out.stayed hb); have ZR := Lib.hid (YR.out.stayed hb); have za := ZA.out.cell (i := 0) rfl; have zc := ZC.out.cell (i := 0) rfl; have hbl2 : Op.bytesLess t1.toList t2.toList = true := (by rw [toList_bts, toList_bts, ht1.out, ht2.out]; exact HS.out); clear hb))
      go_roundw
      case rel => exact ⟨1, by first | rfl | go_num | simp, by omega, ZA, ZC, ZR, Y2⟩
      case measure => simp [intOf]
    · go_wp2_with (first
        | (go_at_call 28; refine Calls.mono (KIa' _ (HE.out.below hbl.out)).out ?_; rintro e y1 ⟨t1, rfl, ht1, hb⟩; clear KIa'; have Y1 := Lib.hid (Bl.step hbl.out hb); have YA := Lib.hid (ha.out.stayed hb); have YC := Lib.hid (hc.out.stayed hb); have YR := Lib.hid (hr.out.stayed hb); have ya := YA.out.cell (i := 0) rfl; have yc := YC.out.cell (i := 0) rfl; clear hb)
        | (go_at_call 28; refine Calls.mono (KIb' _ (HE.out.below Y1.out)).out ?_; rintro e y2 ⟨t2, rfl, ht2, hb⟩; clear KIb'; have Y2 := Lib.hid (Bl.step Y1.out hb); have ZA := Lib.hid (YA.out.stayed hb); have ZC := Lib.hid (YC.out.stayed hb); have ZR := Lib.hid (YR.out.stayed hb); have za := ZA.out.cell (i := 0) rfl; have zc := ZC.out.cell (i := 0) rfl; have hbl2 : Op.bytesLess t1.toList t2.toList = true := (by rw [toList_bts, toList_bts, ht1.out, ht2.out]; exact HI.out); clear hb))
      go_roundw
      case rel => exact ⟨2, by first | rfl | go_num | simp, by omega, ZA, ZC, ZR, Y2⟩
      case measure => simp [intOf]
    · go_wp2_with (go_at_call 23; refine Calls.mono (KZ _ (HE.out.below hbl.out)).out ?_; rintro e wz ⟨rfl, hb⟩; have BZ := Lib.hid (Bl.step hbl.out hb); clear hb)
      go_ret
      exact ⟨by first | rfl | simp, BZ.out⟩
set_option maxHeartbeats 8000000 in
theorem cdu_A2B2 (D U E V n m t X Y d u g h d2 u2 p q r s s2 : Int) (lSa lSb lIa lIb : List UInt8) (w : World) (hE : Env w)
    (K1 : ∀ W, Calls Tryz.prog 38 #[.agg #[.int .i64 D, .int .i64 U], .int .i64 n, .int .i64 t] W (GivesQ W X Y 0)) (d0 : ¬ d < 0) (f1 : IntKind.i64.wrap (d * 86400000000) = g) (f2 : wrap64 (d * 86400000000) = g) (f3 : IntKind.i64.wrap (g + u) = h) (f4 : wrap64 (g + u) = h) (f5 : IntKind.i64.wrap (n * t) = h) (f6 : wrap64 (n * t) = h) (KB : ∀ W, Calls Tryz.prog 40 #[.agg #[.int .i64 D, .int .i64 U], .agg #[.int .i64 X, .int .i64 Y]] W (Gives W #[.int .i64 d, .int .i64 u, .int .i64 0])) (m0 : 0 ≤ m) (m1 : ¬ m ≤ n) (KF : ∀ W, Calls Tryz.prog 40 #[.agg #[.int .i64 D, .int .i64 U], .agg #[.int .i64 E, .int .i64 V]] W (Gives W #[.int .i64 d2, .int .i64 u2, .int .i64 0])) (KG : ∀ W, Calls Tryz.prog 40 #[.agg #[.int .i64 E, .int .i64 V], .agg #[.int .i64 D, .int .i64 U]] W (Gives W #[.int .i64 p, .int .i64 q, .int .i64 0])) (g1 : IntKind.i64.wrap (d2 + p) = r) (g2 : wrap64 (d2 + p) = r) (g3 : IntKind.i64.wrap (r * 86400000000) = s) (g4 : wrap64 (r * 86400000000) = s) (g5 : IntKind.i64.wrap (s + u2) = s2) (g6 : wrap64 (s + u2) = s2) (g7 : IntKind.i64.wrap (s2 + q) = 0) (g8 : wrap64 (s2 + q) = 0) (u0 : ¬ u2 < 0) (u9 : ¬ 86400000000 ≤ u2) (hd : ¬ D < E) (KSa : ∀ W, Env W → Calls Tryz.prog 28 #[.int .i64 D, .int .u8 83] W (GivesSE W lSa)) (KSb : ∀ W, Env W → Calls Tryz.prog 28 #[.int .i64 E, .int .u8 83] W (GivesSE W lSb)) (hlS : Op.bytesLess lSa lSb = false) (KIa : ∀ W, Env W → Calls Tryz.prog 28 #[.int .i64 D, .int .u8 73] W (GivesSE W lIa)) (KIb : ∀ W, Env W → Calls Tryz.prog 28 #[.int .i64 E, .int .u8 73] W (GivesSE W lIb)) (hlI : Op.bytesLess lIa lIb = false) :
    Calls Tryz.prog 12 #[.agg #[.int .i64 D, .int .i64 U], .agg #[.int .i64 E, .int .i64 V], .int .i64 n, .int .i64 m, .int .i64 t] w fun e w' => e = .returned (.bool true) ∧ Below w.heap.size w w' := by
  have K1' := fun W => Lib.hid (K1 W)
  have KB' := fun W => Lib.hid (KB W)
  have KF' := fun W => Lib.hid (KF W)
  have KG' := fun W => Lib.hid (KG W)
  have KSa' := fun W (hW : Env W) => Lib.hid (KSa W hW)
  have KSb' := fun W (hW : Env W) => Lib.hid (KSb W hW)
  have KIa' := fun W (hW : Env W) => Lib.hid (KIa W hW)
  have KIb' := fun W (hW : Env W) => Lib.hid (KIb W hW)
  have KZ := fun W (hW : Env W) => Lib.hid (sane_any W hW)
  have HE := Lib.hid hE
  have hcv := fun (W : World) => Lib.run_convert_bytes_const (P := Tryz.prog) W 64 5 #[.int .u8 83, .int .u8 73] 2 2 Tryz.underlying64 Tryz.underlying5
  have HS := Lib.hid hlS
  have HI := Lib.hid hlI
  clear hE K1 KB KF KG KSa KSb KIa KIb hlS hlI
  have xa := (BoxC.new w 55 #[.int .i64 D, .int .i64 U]).alloc (.cells #[.int .i64 E, .int .i64 V] 55)
  have x0 := xa.cell (i := 0) rfl
  have x1 := xa.cell (i := 1) rfl
  clear xa
  go_enter Tryz.func12, Tryz.ntmps12
  go_wp2_with (first
    | (go_at_call 38; refine Calls.mono (K1' _).out ?_; rintro e w1 ⟨rfl, hb⟩; clear K1'; have B1 := Lib.hid (Bl.step (Bl.alloc (Bl.alloc (Below.refl _ w) _) _) hb); have A1 := Lib.hid (((BoxC.new w 55 #[.int .i64 D, .int .i64 U]).alloc _).stayed hb); have C1 := Lib.hid ((BoxC.newAt (W := w.alloc (.cells #[.int .i64 D, .int .i64 U] 55)) (t := 55) (cs := #[.int .i64 E, .int .i64 V]) (n := w.heap.size + 1) (by simp)).stayed hb); have qA := A1.out.alloc (.cells #[.int .i64 X, .int .i64 Y] 55); have a1c0 := qA.cell (i := 0) rfl; have a1c1 := qA.cell (i := 1) rfl; clear qA; have qC := C1.out.alloc (.cells #[.int .i64 X, .int .i64 Y] 55); have c1c0 := qC.cell (i := 0) rfl; have c1c1 := qC.cell (i := 1) rfl; clear qC; have qn := BoxC.new w1 55 #[.int .i64 X, .int .i64 Y]; have nn1c0 := qn.cell (i := 0) rfl; have nn1c1 := qn.cell (i := 1) rfl; clear qn; clear hb)
    | (go_at_call 40; refine Calls.mono (KB' _).out ?_; rintro e w2 ⟨rfl, hb⟩; clear KB'; have B2 := Lib.hid (Bl.step (Bl.alloc B1.out _) hb); have A2 := Lib.hid ((A1.out.alloc _).stayed hb); have C2 := Lib.hid ((C1.out.alloc _).stayed hb); have M2 := Lib.hid ((BoxC.new w1 55 #[.int .i64 X, .int .i64 Y]).stayed hb); have a2c0 := A2.out.cell (i := 0) rfl; have a2c1 := A2.out.cell (i := 1) rfl; have c2c0 := C2.out.cell (i := 0) rfl; have c2c1 := C2.out.cell (i := 1) rfl; have m2c0 := M2.out.cell (i := 0) rfl; have m2c1 := M2.out.cell (i := 1) rfl; clear hb)
    | (go_at_call 40; refine Calls.mono (KF' _).out ?_; rintro e w3 ⟨rfl, hb⟩; clear KF'; have B3 := Lib.hid (Bl.step (B2.out) hb); have A3 := Lib.hid ((A2.out).stayed hb); have C3 := Lib.hid ((C2.out).stayed hb); have M3 := Lib.hid ((M2.out).stayed hb); have a3c0 := A3.out.cell (i := 0) rfl; have a3c1 := A3.out.cell (i := 1) rfl; have c3c0 := C3.out.cell (i := 0) rfl; have c3c1 := C3.out.cell (i := 1) rfl; have m3c0 := M3.out.cell (i := 0) rfl; have m3c1 := M3.out.cell (i := 1) rfl; clear hb)
    | (go_at_call 40; refine Calls.mono (KG' _).out ?_; rintro e w4 ⟨rfl, hb⟩; clear KG'; have B4 := Lib.hid (Bl.step (B3.out) hb); have A4 := Lib.hid ((A3.out).stayed hb); have C4 := Lib.hid ((C3.out).stayed hb); have M4 := Lib.hid ((M3.out).stayed hb); have a4c0 := A4.out.cell (i := 0) rfl; have a4c1 := A4.out.cell (i := 1) rfl; have c4c0 := C4.out.cell (i := 0) rfl; have c4c1 := C4.out.cell (i := 1) rfl; have m4c0 := M4.out.cell (i := 0) rfl; have m4c1 := M4.out.cell (i := 1) rfl; clear hb))
  go_loopw [144] (fun v wr => ∃ k : Int, v = .int .i64 k ∧ (k = 0 ∨ k = 1 ∨ k = 2) ∧ Hid (BoxC wr w.heap.size 55 #[.int .i64 D, .int .i64 U]) ∧ Hid (BoxC wr (w.heap.size + 1) 55 #[.int .i64 E, .int .i64 V]) ∧ Hid (RowSI wr w4.heap.size) ∧ Hid (Below w.heap.size w wr)) (fun v _ => (2 - intOf v).toNat)
  case atStart => exact ⟨0, rfl, Or.inl rfl, Lib.hid (A4.out.alloc _), Lib.hid (C4.out.alloc _), Lib.hid (RowSI.new _), Lib.hid (Bl.alloc B4.out _)⟩
  case round =>
    obtain ⟨k, rfl, hk, ha, hc, hr, hbl⟩ := hrel
    have ra0 := ha.out.cell (i := 0) rfl
    have rc0 := hc.out.cell (i := 0) rfl
    have rr0 := hr.out.c0
    have rr1 := hr.out.c1
    rcases hk with rfl | rfl | rfl
    · go_wp2_with (first
        | (go_at_call 28; refine Calls.mono (KSa' _ (HE.out.below hbl.out)).out ?_; rintro e y1 ⟨t1, rfl, ht1, hb⟩; clear KSa'; have Y1 := Lib.hid (Bl.step hbl.out hb); have YA := Lib.hid (ha.out.stayed hb); have YC := Lib.hid (hc.out.stayed hb); have YR := Lib.hid (hr.out.stayed hb); have ya := YA.out.cell (i := 0) rfl; have yc := YC.out.cell (i := 0) rfl; clear hb)
        | (go_at_call 28; refine Calls.mono (KSb' _ (HE.out.below Y1.out)).out ?_; rintro e y2 ⟨t2, rfl, ht2, hb⟩; clear KSb'; have Y2 := Lib.hid (Bl.step Y1.out hb); have ZA := Lib.hid (YA.out.stayed hb); have ZC := Lib.hid (YC.out.stayed hb); have ZR := Lib.hid (YR.out.stayed hb); have za := ZA.out.cell (i := 0) rfl; have zc := ZC.out.cell (i := 0) rfl; have hbl2 : Op.bytesLess t1.toList t2.toList = false := (by rw [toList_bts, toList_bts, ht1.out, ht2.out]; exact HS.out); clear hb))
      go_roundw
      case rel => exact ⟨1, by first | rfl | go_num | simp, by omega, ZA, ZC, ZR, Y2⟩
      case measure => simp [intOf]
    · go_wp2_with (first
        | (go_at_call 28; refine Calls.mono (KIa' _ (HE.out.below hbl.out)).out ?_; rintro e y1 ⟨t1, rfl, ht1, hb⟩; clear KIa'; have Y1 := Lib.hid (Bl.step hbl.out hb); have YA := Lib.hid (ha.out.stayed hb); have YC := Lib.hid (hc.out.stayed hb); have YR := Lib.hid (hr.out.stayed hb); have ya := YA.out.cell (i := 0) rfl; have yc := YC.out.cell (i := 0) rfl; clear hb)
        | (go_at_call 28; refine Calls.mono (KIb' _ (HE.out.below Y1.out)).out ?_; rintro e y2 ⟨t2, rfl, ht2, hb⟩; clear KIb'; have Y2 := Lib.hid (Bl.step Y1.out hb); have ZA := Lib.hid (YA.out.stayed hb); have ZC := Lib.hid (YC.out.stayed hb); have ZR := Lib.hid (YR.out.stayed hb); have za := ZA.out.cell (i := 0) rfl; have zc := ZC.out.cell (i := 0) rfl; have hbl2 : Op.bytesLess t1.toList t2.toList = false := (by rw [toList_bts, toList_bts, ht1.out, ht2.out]; exact HI.out); clear hb))
      go_roundw
      case rel => exact ⟨2, by first | rfl | go_num | simp, by omega, ZA, ZC, ZR, Y2⟩
      case measure => simp [intOf]
    · go_wp2_with (go_at_call 23; refine Calls.mono (KZ _ (HE.out.below hbl.out)).out ?_; rintro e wz ⟨rfl, hb⟩; have BZ := Lib.hid (Bl.step hbl.out hb); clear hb)
      go_ret
      exact ⟨by first | rfl | simp, BZ.out⟩
set_option maxHeartbeats 8000000 in
theorem cdu_A3B0 (D U E V n m t X Y d u g h P Q nm : Int) (w : World) (hE : Env w)
    (K1 : ∀ W, Calls Tryz.prog 38 #[.agg #[.int .i64 D, .int .i64 U], .int .i64 n, .int .i64 t] W (GivesQ W X Y 0)) (d0 : ¬ d < 0) (f1 : IntKind.i64.wrap (d * 86400000000) = g) (f2 : wrap64 (d * 86400000000) = g) (f3 : IntKind.i64.wrap (g + u) = h) (f4 : wrap64 (g + u) = h) (f5 : IntKind.i64.wrap (n * t) = h) (f6 : wrap64 (n * t) = h) (KB : ∀ W, Calls Tryz.prog 40 #[.agg #[.int .i64 D, .int .i64 U], .agg #[.int .i64 X, .int .i64 Y]] W (Gives W #[.int .i64 d, .int .i64 u, .int .i64 0])) (m0 : 0 ≤ m) (m1 : m ≤ n) (f7 : IntKind.i64.wrap (n - m) = nm) (f8 : wrap64 (n - m) = nm) (KM : ∀ W, Calls Tryz.prog 38 #[.agg #[.int .i64 D, .int .i64 U], .int .i64 m, .int .i64 t] W (GivesQ W P Q 0)) (KN : ∀ W, Calls Tryz.prog 38 #[.agg #[.int .i64 P, .int .i64 Q], .int .i64 nm, .int .i64 t] W (GivesQ W X Y 0)) (KF : ∀ W, Calls Tryz.prog 40 #[.agg #[.int .i64 D, .int .i64 U], .agg #[.int .i64 E, .int .i64 V]] W (Gives W #[.int .i64 0, .int .i64 0, .int .i64 1])) (KG : ∀ W, Calls Tryz.prog 40 #[.agg #[.int .i64 E, .int .i64 V], .agg #[.int .i64 D, .int .i64 U]] W (Gives W #[.int .i64 0, .int .i64 0, .int .i64 1])) :
    Calls Tryz.prog 12 #[.agg #[.int .i64 D, .int .i64 U], .agg #[.int .i64 E, .int .i64 V], .int .i64 n, .int .i64 m, .int .i64 t] w fun e w' => e = .returned (.bool true) ∧ Below w.heap.size w w' := by
  have K1' := fun W => Lib.hid (K1 W)
  have KB' := fun W => Lib.hid (KB W)
  have KM' := fun W => Lib.hid (KM W)
  have KN' := fun W => Lib.hid (KN W)
  have KF' := fun W => Lib.hid (KF W)
  have KG' := fun W => Lib.hid (KG W)
  have KZ := fun W (hW : Env W) => Lib.hid (sane_any W hW)
  have HE := Lib.hid hE
  have hq := fun W => neq_moment X Y X Y W
  simp only [beq_self_eq_true, Bool.and_self, Bool.not_true] at hq
  clear hE K1 KB KM KN KF KG
  have xa := (BoxC.new w 55 #[.int .i64 D, .int .i64 U]).alloc (.cells #[.int .i64 E, .int .i64 V] 55)
  have x0 := xa.cell (i := 0) rfl
  have x1 := xa.cell (i := 1) rfl
  clear xa
  go_enter Tryz.func12, Tryz.ntmps12
  go_wp2_with (first
    | (go_at_call 38; refine Calls.mono (K1' _).out ?_; rintro e w1 ⟨rfl, hb⟩; clear K1'; have B1 := Lib.hid (Bl.step (Bl.alloc (Bl.alloc (Below.refl _ w) _) _) hb); have A1 := Lib.hid (((BoxC.new w 55 #[.int .i64 D, .int .i64 U]).alloc _).stayed hb); have C1 := Lib.hid ((BoxC.newAt (W := w.alloc (.cells #[.int .i64 D, .int .i64 U] 55)) (t := 55) (cs := #[.int .i64 E, .int .i64 V]) (n := w.heap.size + 1) (by simp)).stayed hb); have qA := A1.out.alloc (.cells #[.int .i64 X, .int .i64 Y] 55); have a1c0 := qA.cell (i := 0) rfl; have a1c1 := qA.cell (i := 1) rfl; clear qA; have qC := C1.out.alloc (.cells #[.int .i64 X, .int .i64 Y] 55); have c1c0 := qC.cell (i := 0) rfl; have c1c1 := qC.cell (i := 1) rfl; clear qC; have qn := BoxC.new w1 55 #[.int .i64 X, .int .i64 Y]; have nn1c0 := qn.cell (i := 0) rfl; have nn1c1 := qn.cell (i := 1) rfl; clear qn; clear hb)
    | (go_at_call 40; refine Calls.mono (KB' _).out ?_; rintro e w2 ⟨rfl, hb⟩; clear KB'; have B2 := Lib.hid (Bl.step (Bl.alloc B1.out _) hb); have A2 := Lib.hid ((A1.out.alloc _).stayed hb); have C2 := Lib.hid ((C1.out.alloc _).stayed hb); have M2 := Lib.hid ((BoxC.new w1 55 #[.int .i64 X, .int .i64 Y]).stayed hb); have a2c0 := A2.out.cell (i := 0) rfl; have a2c1 := A2.out.cell (i := 1) rfl; have c2c0 := C2.out.cell (i := 0) rfl; have c2c1 := C2.out.cell (i := 1) rfl; have m2c0 := M2.out.cell (i := 0) rfl; have m2c1 := M2.out.cell (i := 1) rfl; clear hb)
    | (go_at_call 38; refine Calls.mono (KM' _).out ?_; rintro e w3 ⟨rfl, hb⟩; clear KM'; have B3 := Lib.hid (Bl.step (B2.out) hb); have A3 := Lib.hid ((A2.out).stayed hb); have C3 := Lib.hid ((C2.out).stayed hb); have M3 := Lib.hid ((M2.out).stayed hb); have qA := A3.out.alloc (.cells #[.int .i64 P, .int .i64 Q] 55); have a3c0 := qA.cell (i := 0) rfl; have a3c1 := qA.cell (i := 1) rfl; clear qA; have qC := C3.out.alloc (.cells #[.int .i64 P, .int .i64 Q] 55); have c3c0 := qC.cell (i := 0) rfl; have c3c1 := qC.cell (i := 1) rfl; clear qC; have qM := M3.out.alloc (.cells #[.int .i64 P, .int .i64 Q] 55); have m3c0 := qM.cell (i := 0) rfl; have m3c1 := qM.cell (i := 1) rfl; clear qM; have qn := BoxC.new w3 55 #[.int .i64 P, .int .i64 Q]; have nn3c0 := qn.cell (i := 0) rfl; have nn3c1 := qn.cell (i := 1) rfl; clear qn; clear hb)
    | (go_at_call 38; refine Calls.mono (KN' _).out ?_; rintro e w4 ⟨rfl, hb⟩; clear KN'; have B4 := Lib.hid (Bl.step (Bl.alloc B3.out _) hb); have A4 := Lib.hid ((A3.out.alloc _).stayed hb); have C4 := Lib.hid ((C3.out.alloc _).stayed hb); have M4 := Lib.hid ((M3.out.alloc _).stayed hb); have N4 := Lib.hid ((BoxC.new w3 55 #[.int .i64 P, .int .i64 Q]).stayed hb); have qA := A4.out.alloc (.cells #[.int .i64 X, .int .i64 Y] 55); have a4c0 := qA.cell (i := 0) rfl; have a4c1 := qA.cell (i := 1) rfl; clear qA; have qC := C4.out.alloc (.cells #[.int .i64 X, .int .i64 Y] 55); have c4c0 := qC.cell (i := 0) rfl; have c4c1 := qC.cell (i := 1) rfl; clear qC; have qM := M4.out.alloc (.cells #[.int .i64 X, .int .i64 Y] 55); have m4c0 := qM.cell (i := 0) rfl; have m4c1 := qM.cell (i := 1) rfl; clear qM; have qN := N4.out.alloc (.cells #[.int .i64 X, .int .i64 Y] 55); have n4c0 := qN.cell (i := 0) rfl; have n4c1 := qN.cell (i := 1) rfl; clear qN; have qn := BoxC.new w4 55 #[.int .i64 X, .int .i64 Y]; have nn4c0 := qn.cell (i := 0) rfl; have nn4c1 := qn.cell (i := 1) rfl; clear qn; clear hb)
    | (go_at_call 40; refine Calls.mono (KF' _).out ?_; rintro e w5 ⟨rfl, hb⟩; clear KF'; have B5 := Lib.hid (Bl.step (Bl.alloc B4.out _) hb); have A5 := Lib.hid ((A4.out.alloc _).stayed hb); have C5 := Lib.hid ((C4.out.alloc _).stayed hb); have M5 := Lib.hid ((M4.out.alloc _).stayed hb); have N5 := Lib.hid ((N4.out.alloc _).stayed hb); have O5 := Lib.hid ((BoxC.new w4 55 #[.int .i64 X, .int .i64 Y]).stayed hb); have a5c0 := A5.out.cell (i := 0) rfl; have a5c1 := A5.out.cell (i := 1) rfl; have c5c0 := C5.out.cell (i := 0) rfl; have c5c1 := C5.out.cell (i := 1) rfl; have m5c0 := M5.out.cell (i := 0) rfl; have m5c1 := M5.out.cell (i := 1) rfl; have n5c0 := N5.out.cell (i := 0) rfl; have n5c1 := N5.out.cell (i := 1) rfl; have o5c0 := O5.out.cell (i := 0) rfl; have o5c1 := O5.out.cell (i := 1) rfl; clear hb)
    | (go_at_call 40; refine Calls.mono (KG' _).out ?_; rintro e w6 ⟨rfl, hb⟩; clear KG'; have B6 := Lib.hid (Bl.step (B5.out) hb); have A6 := Lib.hid ((A5.out).stayed hb); have C6 := Lib.hid ((C5.out).stayed hb); have M6 := Lib.hid ((M5.out).stayed hb); have N6 := Lib.hid ((N5.out).stayed hb); have O6 := Lib.hid ((O5.out).stayed hb); have a6c0 := A6.out.cell (i := 0) rfl; have a6c1 := A6.out.cell (i := 1) rfl; have c6c0 := C6.out.cell (i := 0) rfl; have c6c1 := C6.out.cell (i := 1) rfl; have m6c0 := M6.out.cell (i := 0) rfl; have m6c1 := M6.out.cell (i := 1) rfl; have n6c0 := N6.out.cell (i := 0) rfl; have n6c1 := N6.out.cell (i := 1) rfl; have o6c0 := O6.out.cell (i := 0) rfl; have o6c1 := O6.out.cell (i := 1) rfl; clear hb)
    | (go_at_call 23; refine Calls.mono (KZ _ (HE.out.below B6.out)).out ?_; rintro e wz ⟨rfl, hb⟩; have BZ := Lib.hid (Bl.step B6.out hb); clear hb))
  go_ret
  exact ⟨by first | rfl | simp, BZ.out⟩
set_option maxHeartbeats 8000000 in
theorem cdu_A3B1 (D U E V n m t X Y d u g h P Q nm d2 u2 p q r s s2 : Int) (lSa lSb lIa lIb : List UInt8) (w : World) (hE : Env w)
    (K1 : ∀ W, Calls Tryz.prog 38 #[.agg #[.int .i64 D, .int .i64 U], .int .i64 n, .int .i64 t] W (GivesQ W X Y 0)) (d0 : ¬ d < 0) (f1 : IntKind.i64.wrap (d * 86400000000) = g) (f2 : wrap64 (d * 86400000000) = g) (f3 : IntKind.i64.wrap (g + u) = h) (f4 : wrap64 (g + u) = h) (f5 : IntKind.i64.wrap (n * t) = h) (f6 : wrap64 (n * t) = h) (KB : ∀ W, Calls Tryz.prog 40 #[.agg #[.int .i64 D, .int .i64 U], .agg #[.int .i64 X, .int .i64 Y]] W (Gives W #[.int .i64 d, .int .i64 u, .int .i64 0])) (m0 : 0 ≤ m) (m1 : m ≤ n) (f7 : IntKind.i64.wrap (n - m) = nm) (f8 : wrap64 (n - m) = nm) (KM : ∀ W, Calls Tryz.prog 38 #[.agg #[.int .i64 D, .int .i64 U], .int .i64 m, .int .i64 t] W (GivesQ W P Q 0)) (KN : ∀ W, Calls Tryz.prog 38 #[.agg #[.int .i64 P, .int .i64 Q], .int .i64 nm, .int .i64 t] W (GivesQ W X Y 0)) (KF : ∀ W, Calls Tryz.prog 40 #[.agg #[.int .i64 D, .int .i64 U], .agg #[.int .i64 E, .int .i64 V]] W (Gives W #[.int .i64 d2, .int .i64 u2, .int .i64 0])) (KG : ∀ W, Calls Tryz.prog 40 #[.agg #[.int .i64 E, .int .i64 V], .agg #[.int .i64 D, .int .i64 U]] W (Gives W #[.int .i64 p, .int .i64 q, .int .i64 0])) (g1 : IntKind.i64.wrap (d2 + p) = r) (g2 : wrap64 (d2 + p) = r) (g3 : IntKind.i64.wrap (r * 86400000000) = s) (g4 : wrap64 (r * 86400000000) = s) (g5 : IntKind.i64.wrap (s + u2) = s2) (g6 : wrap64 (s + u2) = s2) (g7 : IntKind.i64.wrap (s2 + q) = 0) (g8 : wrap64 (s2 + q) = 0) (u0 : ¬ u2 < 0) (u9 : ¬ 86400000000 ≤ u2) (hd : D < E) (KSa : ∀ W, Env W → Calls Tryz.prog 28 #[.int .i64 D, .int .u8 83] W (GivesSE W lSa)) (KSb : ∀ W, Env W → Calls Tryz.prog 28 #[.int .i64 E, .int .u8 83] W (GivesSE W lSb)) (hlS : Op.bytesLess lSa lSb = true) (KIa : ∀ W, Env W → Calls Tryz.prog 28 #[.int .i64 D, .int .u8 73] W (GivesSE W lIa)) (KIb : ∀ W, Env W → Calls Tryz.prog 28 #[.int .i64 E, .int .u8 73] W (GivesSE W lIb)) (hlI : Op.bytesLess lIa lIb = true) :
    Calls Tryz.prog 12 #[.agg #[.int .i64 D, .int .i64 U], .agg #[.int .i64 E, .int .i64 V], .int .i64 n, .int .i64 m, .int .i64 t] w fun e w' => e = .returned (.bool true) ∧ Below w.heap.size w w' := by
  have K1' := fun W => Lib.hid (K1 W)
  have KB' := fun W => Lib.hid (KB W)
  have KM' := fun W => Lib.hid (KM W)
  have KN' := fun W => Lib.hid (KN W)
  have KF' := fun W => Lib.hid (KF W)
  have KG' := fun W => Lib.hid (KG W)
  have KSa' := fun W (hW : Env W) => Lib.hid (KSa W hW)
  have KSb' := fun W (hW : Env W) => Lib.hid (KSb W hW)
  have KIa' := fun W (hW : Env W) => Lib.hid (KIa W hW)
  have KIb' := fun W (hW : Env W) => Lib.hid (KIb W hW)
  have KZ := fun W (hW : Env W) => Lib.hid (sane_any W hW)
  have HE := Lib.hid hE
  have hcv := fun (W : World) => Lib.run_convert_bytes_const (P := Tryz.prog) W 64 5 #[.int .u8 83, .int .u8 73] 2 2 Tryz.underlying64 Tryz.underlying5
  have HS := Lib.hid hlS
  have HI := Lib.hid hlI
  have hq := fun W => neq_moment X Y X Y W
  simp only [beq_self_eq_true, Bool.and_self, Bool.not_true] at hq
  clear hE K1 KB KM KN KF KG KSa KSb KIa KIb hlS hlI
  have xa := (BoxC.new w 55 #[.int .i64 D, .int .i64 U]).alloc (.cells #[.int .i64 E, .int .i64 V] 55)
  have x0 := xa.cell (i := 0) rfl
  have x1 := xa.cell (i := 1) rfl
  clear xa
  go_enter Tryz.func12, Tryz.ntmps12
  go_wp2_with (first
    | (go_at_call 38; refine Calls.mono (K1' _).out ?_; rintro e w1 ⟨rfl, hb⟩; clear K1'; have B1 := Lib.hid (Bl.step (Bl.alloc (Bl.alloc (Below.refl _ w) _) _) hb); have A1 := Lib.hid (((BoxC.new w 55 #[.int .i64 D, .int .i64 U]).alloc _).stayed hb); have C1 := Lib.hid ((BoxC.newAt (W := w.alloc (.cells #[.int .i64 D, .int .i64 U] 55)) (t := 55) (cs := #[.int .i64 E, .int .i64 V]) (n := w.heap.size + 1) (by simp)).stayed hb); have qA := A1.out.alloc (.cells #[.int .i64 X, .int .i64 Y] 55); have a1c0 := qA.cell (i := 0) rfl; have a1c1 := qA.cell (i := 1) rfl; clear qA; have qC := C1.out.alloc (.cells #[.int .i64 X, .int .i64 Y] 55); have c1c0 := qC.cell (i := 0) rfl; have c1c1 := qC.cell (i := 1) rfl; clear qC; have qn := BoxC.new w1 55 #[.int .i64 X, .int .i64 Y]; have nn1c0 := qn.cell (i := 0) rfl; have nn1c1 := qn.cell (i := 1) rfl; clear qn; clear hb)
    | (go_at_call 40; refine Calls.mono (KB' _).out ?_; rintro e w2 ⟨rfl, hb⟩; clear KB'; have B2 := Lib.hid (Bl.step (Bl.alloc B1.out _) hb); have A2 := Lib.hid ((A1.out.alloc _).stayed hb); have C2 := Lib.hid ((C1.out.alloc _).stayed hb); have M2 := Lib.hid ((BoxC.new w1 55 #[.int .i64 X, .int .i64 Y]).stayed hb); have a2c0 := A2.out.cell (i := 0) rfl; have a2c1 := A2.out.cell (i := 1) rfl; have c2c0 := C2.out.cell (i := 0) rfl; have c2c1 := C2.out.cell (i := 1) rfl; have m2c0 := M2.out.cell (i := 0) rfl; have m2c1 := M2.out.cell (i := 1) rfl; clear hb)
    | (go_at_call 38; refine Calls.mono (KM' _).out ?_; rintro e w3 ⟨rfl, hb⟩; clear KM'; have B3 := Lib.hid (Bl.step (B2.out) hb); have A3 := Lib.hid ((A2.out).stayed hb); have C3 := Lib.hid ((C2.out).stayed hb); have M3 := Lib.hid ((M2.out).stayed hb); have qA := A3.out.alloc (.cells #[.int .i64 P, .int .i64 Q] 55); have a3c0 := qA.cell (i := 0) rfl; have a3c1 := qA.cell (i := 1) rfl; clear qA; have qC := C3.out.alloc (.cells #[.int .i64 P, .int .i64 Q] 55); have c3c0 := qC.cell (i := 0) rfl; have c3c1 := qC.cell (i := 1) rfl; clear qC; have qM := M3.out.alloc (.cells #[.int .i64 P, .int .i64 Q] 55); have m3c0 := qM.cell (i := 0) rfl; have m3c1 := qM.cell (i := 1) rfl; clear qM; have qn := BoxC.new w3 55 #[.int .i64 P, .int .i64 Q]; have nn3c0 := qn.cell (i := 0) rfl; have nn3c1 := qn.cell (i := 1) rfl; clear qn; clear hb)
    | (go_at_call 38; refine Calls.mono (KN' _).out ?_; rintro e w4 ⟨rfl, hb⟩; clear KN'; have B4 := Lib.hid (Bl.step (Bl.alloc B3.out _) hb); have A4 := Lib.hid ((A3.out.alloc _).stayed hb); have C4 := Lib.hid ((C3.out.alloc _).stayed hb); have M4 := Lib.hid ((M3.out.alloc _).stayed hb); have N4 := Lib.hid ((BoxC.new w3 55 #[.int .i64 P, .int .i64 Q]).stayed hb); have qA := A4.out.alloc (.cells #[.int .i64 X, .int .i64 Y] 55); have a4c0 := qA.cell (i := 0) rfl; have a4c1 := qA.cell (i := 1) rfl; clear qA; have qC := C4.out.alloc (.cells #[.int .i64 X, .int .i64 Y] 55); have c4c0 := qC.cell (i := 0) rfl; have c4c1 := qC.cell (i := 1) rfl; clear qC; have qM := M4.out.alloc (.cells #[.int .i64 X, .int .i64 Y] 55); have m4c0 := qM.cell (i := 0) rfl; have m4c1 := qM.cell (i := 1) rfl; clear qM; have qN := N4.out.alloc (.cells #[.int .i64 X, .int .i64 Y] 55); have n4c0 := qN.cell (i := 0) rfl; have n4c1 := qN.cell (i := 1) rfl; clear qN; have qn := BoxC.new w4 55 #[.int .i64 X, .int .i64 Y]; have nn4c0 := qn.cell (i := 0) rfl; have nn4c1 := qn.cell (i := 1) rfl; clear qn; clear hb)
    | (go_at_call 40; refine Calls.mono (KF' _).out ?_; rintro e w5 ⟨rfl, hb⟩; clear KF'; have B5 := Lib.hid (Bl.step (Bl.alloc B4.out _) hb); have A5 := Lib.hid ((A4.out.alloc _).stayed hb); have C5 := Lib.hid ((C4.out.alloc _).stayed hb); have M5 := Lib.hid ((M4.out.alloc _).stayed hb); have N5 := Lib.hid ((N4.out.alloc _).stayed hb); have O5 := Lib.hid ((BoxC.new w4 55 #[.int .i64 X, .int .i64 Y]).stayed hb); have a5c0 := A5.out.cell (i := 0) rfl; have a5c1 := A5.out.cell (i := 1) rfl; have c5c0 := C5.out.cell (i := 0) rfl; have c5c1 := C5.out.cell (i := 1) rfl; have m5c0 := M5.out.cell (i := 0) rfl; have m5c1 := M5.out.cell (i := 1) rfl; have n5c0 := N5.out.cell (i := 0) rfl; have n5c1 := N5.out.cell (i := 1) rfl; have o5c0 := O5.out.cell (i := 0) rfl; have o5c1 := O5.out.cell (i := 1) rfl; clear hb)
    | (go_at_call 40; refine Calls.mono (KG' _).out ?_; rintro e w6 ⟨rfl, hb⟩; clear KG'; have B6 := Lib.hid (Bl.step (B5.out) hb); have A6 := Lib.hid ((A5.out).stayed hb); have C6 := Lib.hid ((C5.out).stayed hb); have M6 := Lib.hid ((M5.out).stayed hb); have N6 := Lib.hid ((N5.out).stayed hb); have O6 := Lib.hid ((O5.out).stayed hb); have a6c0 := A6.out.cell (i := 0) rfl; have a6c1 := A6.out.cell (i := 1) rfl; have c6c0 := C6.out.cell (i := 0) rfl; have c6c1 := C6.out.cell (i := 1) rfl; have m6c0 := M6.out.cell (i := 0) rfl; have m6c1 := M6.out.cell (i := 1) rfl; have n6c0 := N6.out.cell (i := 0) rfl; have n6c1 := N6.out.cell (i := 1) rfl; have o6c0 := O6.out.cell (i := 0) rfl; have o6c1 := O6.out.cell (i := 1) rfl; clear hb))
  go_loopw [144] (fun v wr => ∃ k : Int, v = .int .i64 k ∧ (k = 0 ∨ k = 1 ∨ k = 2) ∧ Hid (BoxC wr w.heap.size 55 #[.int .i64 D, .int .i64 U]) ∧ Hid (BoxC wr (w.heap.size + 1) 55 #[.int .i64 E, .int .i64 V]) ∧ Hid (RowSI wr w6.heap.size) ∧ Hid (Below w.heap.size w wr)) (fun v _ => (2 - intOf v).toNat)
  case atStart => exact ⟨0, rfl, Or.inl rfl, Lib.hid (A6.out.alloc _), Lib.hid (C6.out.alloc _), Lib.hid (RowSI.new _), Lib.hid (Bl.alloc B6.out _)⟩
  case round =>
    obtain ⟨k, rfl, hk, ha, hc, hr, hbl⟩ := hrel
    have ra0 := ha.out.cell (i := 0) rfl
    have rc0 := hc.out.cell (i := 0) rfl
    have rr0 := hr.out.c0
    have rr1 := hr.out.c1
    rcases hk with rfl | rfl | rfl
    · go_wp2_with (first
        | (go_at_call 28; refine Calls.mono (KSa' _ (HE.out.below hbl.out)).out ?_; rintro e y1 ⟨t1, rfl, ht1, hb⟩; clear KSa'; have Y1 := Lib.hid (Bl.step hbl.out hb); have YA := Lib.hid (ha.out.stayed hb); have YC := Lib.hid (hc.out.stayed hb); have YR := Lib.hid (hr.out.stayed hb); have ya := YA.out.cell (i := 0) rfl; have yc := YC.out.cell (i := 0) rfl; clear hb)
        | (go_at_call 28; refine Calls.mono (KSb' _ (HE.out.below Y1.out)).out ?_; rintro e y2 ⟨t2, rfl, ht2, hb⟩; clear KSb'; have Y2 := Lib.hid (Bl.step Y1.out hb); have ZA := Lib.hid (YA.out.stayed hb); have ZC := Lib.hid (YC.out.stayed hb); have ZR := Lib.hid (YR.out.stayed hb); have za := ZA.out.cell (i := 0) rfl; have zc := ZC.out.cell (i := 0) rfl; have hbl2 : Op.bytesLess t1.toList t2.toList = true := (by rw [toList_bts, toList_bts, ht1.out, ht2.out]; exact HS.out); clear hb))
      go_roundw
      case rel => exact ⟨1, by first | rfl | go_num | simp, by omega, ZA, ZC, ZR, Y2⟩
      case measure => simp [intOf]
    · go_wp2_with (first
        | (go_at_call 28; refine Calls.mono (KIa' _ (HE.out.below hbl.out)).out ?_; rintro e y1 ⟨t1, rfl, ht1, hb⟩; clear KIa'; have Y1 := Lib.hid (Bl.step hbl.out hb); have YA := Lib.hid (ha.out.stayed hb); have YC := Lib.hid (hc.out.stayed hb); have YR := Lib.hid (hr.out.stayed hb); have ya := YA.out.cell (i := 0) rfl; have yc := YC.out.cell (i := 0) rfl; clear hb)
        | (go_at_call 28; refine Calls.mono (KIb' _ (HE.out.below Y1.out)).out ?_; rintro e y2 ⟨t2, rfl, ht2, hb⟩; clear KIb'; have Y2 := Lib.hid (Bl.step Y1.out hb); have ZA := Lib.hid (YA.out.stayed hb); have ZC := Lib.hid (YC.out.stayed hb); have ZR := Lib.hid (YR.out.stayed hb); have za := ZA.out.cell (i := 0) rfl; have zc := ZC.out.cell (i := 0) rfl; have hbl2 : Op.bytesLess t1.toList t2.toList = true := (by rw [toList_bts, toList_bts, ht1.out, ht2.out]; exact HI.out); clear hb))
      go_roundw
      case rel => exact ⟨2, by first | rfl | go_num | simp, by omega, ZA, ZC, ZR, Y2⟩
      case measure => simp [intOf]
    · go_wp2_with (go_at_call 23; refine Calls.mono (KZ _ (HE.out.below hbl.out)).out ?_; rintro e wz ⟨rfl, hb⟩; have BZ := Lib.hid (Bl.step hbl.out hb); clear hb)
      go_ret
      exact ⟨by first | rfl | simp, BZ.out⟩
set_option maxHeartbeats 8000000 in
theorem cdu_A3B2 (D U E V n m t X Y d u g h P Q nm d2 u2 p q r s s2 : Int) (lSa lSb lIa lIb : List UInt8) (w : World) (hE : Env w)
    (K1 : ∀ W, Calls Tryz.prog 38 #[.agg #[.int .i64 D, .int .i64 U], .int .i64 n, .int .i64 t] W (GivesQ W X Y 0)) (d0 : ¬ d < 0) (f1 : IntKind.i64.wrap (d * 86400000000) = g) (f2 : wrap64 (d * 86400000000) = g) (f3 : IntKind.i64.wrap (g + u) = h) (f4 : wrap64 (g + u) = h) (f5 : IntKind.i64.wrap (n * t) = h) (f6 : wrap64 (n * t) = h) (KB : ∀ W, Calls Tryz.prog 40 #[.agg #[.int .i64 D, .int .i64 U], .agg #[.int .i64 X, .int .i64 Y]] W (Gives W #[.int .i64 d, .int .i64 u, .int .i64 0])) (m0 : 0 ≤ m) (m1 : m ≤ n) (f7 : IntKind.i64.wrap (n - m) = nm) (f8 : wrap64 (n - m) = nm) (KM : ∀ W, Calls Tryz.prog 38 #[.agg #[.int .i64 D, .int .i64 U], .int .i64 m, .int .i64 t] W (GivesQ W P Q 0)) (KN : ∀ W, Calls Tryz.prog 38 #[.agg #[.int .i64 P, .int .i64 Q], .int .i64 nm, .int .i64 t] W (GivesQ W X Y 0)) (KF : ∀ W, Calls Tryz.prog 40 #[.agg #[.int .i64 D, .int .i64 U], .agg #[.int .i64 E, .int .i64 V]] W (Gives W #[.int .i64 d2, .int .i64 u2, .int .i64 0])) (KG : ∀ W, Calls Tryz.prog 40 #[.agg #[.int .i64 E, .int .i64 V], .agg #[.int .i64 D, .int .i64 U]] W (Gives W #[.int .i64 p, .int .i64 q, .int .i64 0])) (g1 : IntKind.i64.wrap (d2 + p) = r) (g2 : wrap64 (d2 + p) = r) (g3 : IntKind.i64.wrap (r * 86400000000) = s) (g4 : wrap64 (r * 86400000000) = s) (g5 : IntKind.i64.wrap (s + u2) = s2) (g6 : wrap64 (s + u2) = s2) (g7 : IntKind.i64.wrap (s2 + q) = 0) (g8 : wrap64 (s2 + q) = 0) (u0 : ¬ u2 < 0) (u9 : ¬ 86400000000 ≤ u2) (hd : ¬ D < E) (KSa : ∀ W, Env W → Calls Tryz.prog 28 #[.int .i64 D, .int .u8 83] W (GivesSE W lSa)) (KSb : ∀ W, Env W → Calls Tryz.prog 28 #[.int .i64 E, .int .u8 83] W (GivesSE W lSb)) (hlS : Op.bytesLess lSa lSb = false) (KIa : ∀ W, Env W → Calls Tryz.prog 28 #[.int .i64 D, .int .u8 73] W (GivesSE W lIa)) (KIb : ∀ W, Env W → Calls Tryz.prog 28 #[.int .i64 E, .int .u8 73] W (GivesSE W lIb)) (hlI : Op.bytesLess lIa lIb = false) :
    Calls Tryz.prog 12 #[.agg #[.int .i64 D, .int .i64 U], .agg #[.int .i64 E, .int .i64 V], .int .i64 n, .int .i64 m, .int .i64 t] w fun e w' => e = .returned (.bool true) ∧ Below w.heap.size w w' := by
  have K1' := fun W => Lib.hid (K1 W)
  have KB' := fun W => Lib.hid (KB W)
  have KM' := fun W => Lib.hid (KM W)
  have KN' := fun W => Lib.hid (KN W)
  have KF' := fun W => Lib.hid (KF W)
  have KG' := fun W => Lib.hid (KG W)
  have KSa' := fun W (hW : Env W) => Lib.hid (KSa W hW)
  have KSb' := fun W (hW : Env W) => Lib.hid (KSb W hW)
  have KIa' := fun W (hW : Env W) => Lib.hid (KIa W hW)
  have KIb' := fun W (hW : Env W) => Lib.hid (KIb W hW)
  have KZ := fun W (hW : Env W) => Lib.hid (sane_any W hW)
  have HE := Lib.hid hE
  have hcv := fun (W : World) => Lib.run_convert_bytes_const (P := Tryz.prog) W 64 5 #[.int .u8 83, .int .u8 73] 2 2 Tryz.underlying64 Tryz.underlying5
  have HS := Lib.hid hlS
  have HI := Lib.hid hlI
  have hq := fun W => neq_moment X Y X Y W
  simp only [beq_self_eq_true, Bool.and_self, Bool.not_true] at hq
  clear hE K1 KB KM KN KF KG KSa KSb KIa KIb hlS hlI
  have xa := (BoxC.new w 55 #[.int .i64 D, .int .i64 U]).alloc (.cells #[.int .i64 E, .int .i64 V] 55)
  have x0 := xa.cell (i := 0) rfl
  have x1 := xa.cell (i := 1) rfl
  clear xa
  go_enter Tryz.func12, Tryz.ntmps12
  go_wp2_with (first
    | (go_at_call 38; refine Calls.mono (K1' _).out ?_; rintro e w1 ⟨rfl, hb⟩; clear K1'; have B1 := Lib.hid (Bl.step (Bl.alloc (Bl.alloc (Below.refl _ w) _) _) hb); have A1 := Lib.hid (((BoxC.new w 55 #[.int .i64 D, .int .i64 U]).alloc _).stayed hb); have C1 := Lib.hid ((BoxC.newAt (W := w.alloc (.cells #[.int .i64 D, .int .i64 U] 55)) (t := 55) (cs := #[.int .i64 E, .int .i64 V]) (n := w.heap.size + 1) (by simp)).stayed hb); have qA := A1.out.alloc (.cells #[.int .i64 X, .int .i64 Y] 55); have a1c0 := qA.cell (i := 0) rfl; have a1c1 := qA.cell (i := 1) rfl; clear qA; have qC := C1.out.alloc (.cells #[.int .i64 X, .int .i64 Y] 55); have c1c0 := qC.cell (i := 0) rfl; have c1c1 := qC.cell (i := 1) rfl; clear qC; have qn := BoxC.new w1 55 #[.int .i64 X, .int .i64 Y]; have nn1c0 := qn.cell (i := 0) rfl; have nn1c1 := qn.cell (i := 1) rfl; clear qn; clear hb)
    | (go_at_call 40; refine Calls.mono (KB' _).out ?_; rintro e w2 ⟨rfl, hb⟩; clear KB'; have B2 := Lib.hid (Bl.step (Bl.alloc B1.out _) hb); have A2 := Lib.hid ((A1.out.alloc _).stayed hb); have C2 := Lib.hid ((C1.out.alloc _).stayed hb); have M2 := Lib.hid ((BoxC.new w1 55 #[.int .i64 X, .int .i64 Y]).stayed hb); have a2c0 := A2.out.cell (i := 0) rfl; have a2c1 := A2.out.cell (i := 1) rfl; have c2c0 := C2.out.cell (i := 0) rfl; have c2c1 := C2.out.cell (i := 1) rfl; have m2c0 := M2.out.cell (i := 0) rfl; have m2c1 := M2.out.cell (i := 1) rfl; clear hb)
    | (go_at_call 38; refine Calls.mono (KM' _).out ?_; rintro e w3 ⟨rfl, hb⟩; clear KM'; have B3 := Lib.hid (Bl.step (B2.out) hb); have A3 := Lib.hid ((A2.out).stayed hb); have C3 := Lib.hid ((C2.out).stayed hb); have M3 := Lib.hid ((M2.out).stayed hb); have qA := A3.out.alloc (.cells #[.int .i64 P, .int .i64 Q] 55); have a3c0 := qA.cell (i := 0) rfl; have a3c1 := qA.cell (i := 1) rfl; clear qA; have qC := C3.out.alloc (.cells #[.int .i64 P, .int .i64 Q] 55); have c3c0 := qC.cell (i := 0) rfl; have c3c1 := qC.cell (i := 1) rfl; clear qC; have qM := M3.out.alloc (.cells #[.int .i64 P, .int .i64 Q] 55); have m3c0 := qM.cell (i := 0) rfl; have m3c1 := qM.cell (i := 1) rfl; clear qM; have qn := BoxC.new w3 55 #[.int .i64 P, .int .i64 Q]; have nn3c0 := qn.cell (i := 0) rfl; have nn3c1 := qn.cell (i := 1) rfl; clear qn; clear hb)
    | (go_at_call 38; refine Calls.mono (KN' _).out ?_; rintro e w4 ⟨rfl, hb⟩; clear KN'; have B4 := Lib.hid (Bl.step (Bl.alloc B3.out _) hb); have A4 := Lib.hid ((A3.out.alloc _).stayed hb); have C4 := Lib.hid ((C3.out.alloc _).stayed hb); have M4 := Lib.hid ((M3.out.alloc _).stayed hb); have N4 := Lib.hid ((BoxC.new w3 55 #[.int .i64 P, .int .i64 Q]).stayed hb); have qA := A4.out.alloc (.cells #[.int .i64 X, .int .i64 Y] 55); have a4c0 := qA.cell (i := 0) rfl; have a4c1 := qA.cell (i := 1) rfl; clear qA; have qC := C4.out.alloc (.cells #[.int .i64 X, .int .i64 Y] 55); have c4c0 := qC.cell (i := 0) rfl; have c4c1 := qC.cell (i := 1) rfl; clear qC; have qM := M4.out.alloc (.cells #[.int .i64 X, .int .i64 Y] 55); have m4c0 := qM.cell (i := 0) rfl; have m4c1 := qM.cell (i := 1) rfl; clear qM; have qN := N4.out.alloc (.cells #[.int .i64 X, .int .i64 Y] 55); have n4c0 := qN.cell (i := 0) rfl; have n4c1 := qN.cell (i := 1) rfl; clear qN; have qn := BoxC.new w4 55 #[.int .i64 X, .int .i64 Y]; have nn4c0 := qn.cell (i := 0) rfl; have nn4c1 := qn.cell (i := 1) rfl; clear qn; clear hb)
    | (go_at_call 40; refine Calls.mono (KF' _).out ?_; rintro e w5 ⟨rfl, hb⟩; clear KF'; have B5 := Lib.hid (Bl.step (Bl.alloc B4.out _) hb); have A5 := Lib.hid ((A4.out.alloc _).stayed hb); have C5 := Lib.hid ((C4.out.alloc _).stayed hb); have M5 := Lib.hid ((M4.out.alloc _).stayed hb); have N5 := Lib.hid ((N4.out.alloc _).stayed hb); have O5 := Lib.hid ((BoxC.new w4 55 #[.int .i64 X, .int .i64 Y]).stayed hb); have a5c0 := A5.out.cell (i := 0) rfl; have a5c1 := A5.out.cell (i := 1) rfl; have c5c0 := C5.out.cell (i := 0) rfl; have c5c1 := C5.out.cell (i := 1) rfl; have m5c0 := M5.out.cell (i := 0) rfl; have m5c1 := M5.out.cell (i := 1) rfl; have n5c0 := N5.out.cell (i := 0) rfl; have n5c1 := N5.out.cell (i := 1) rfl; have o5c0 := O5.out.cell (i := 0) rfl; have o5c1 := O5.out.cell (i := 1) rfl; clear hb)
    | (go_at_call 40; refine Calls.mono (KG' _).out ?_; rintro e w6 ⟨rfl, hb⟩; clear KG'; have B6 := Lib.hid (Bl.step (B5.out) hb); have A6 := Lib.hid ((A5.out).stayed hb); have C6 := Lib.hid ((C5.out).stayed hb); have M6 := Lib.hid ((M5.out).stayed hb); have N6 := Lib.hid ((N5.out).stayed hb); have O6 := Lib.hid ((O5.out).stayed hb); have a6c0 := A6.out.cell (i := 0) rfl; have a6c1 := A6.out.cell (i := 1) rfl; have c6c0 := C6.out.cell (i := 0) rfl; have c6c1 := C6.out.cell (i := 1) rfl; have m6c0 := M6.out.cell (i := 0) rfl; have m6c1 := M6.out.cell (i := 1) rfl; have n6c0 := N6.out.cell (i := 0) rfl; have n6c1 := N6.out.cell (i := 1) rfl; have o6c0 := O6.out.cell (i := 0) rfl; have o6c1 := O6.out.cell (i := 1) rfl; clear hb))
  go_loopw [144] (fun v wr => ∃ k : Int, v = .int .i64 k ∧ (k = 0 ∨ k = 1 ∨ k = 2) ∧ Hid (BoxC wr w.heap.size 55 #[.int .i64 D, .int .i64 U]) ∧ Hid (BoxC wr (w.heap.size + 1) 55 #[.int .i64 E, .int .i64 V]) ∧ Hid (RowSI wr w6.heap.size) ∧ Hid (Below w.heap.size w wr)) (fun v _ => (2 - intOf v).toNat)
  case atStart => exact ⟨0, rfl, Or.inl rfl, Lib.hid (A6.out.alloc _), Lib.hid (C6.out.alloc _), Lib.hid (RowSI.new _), Lib.hid (Bl.alloc B6.out _)⟩
  case round =>
    obtain ⟨k, rfl, hk, ha, hc, hr, hbl⟩ := hrel
    have ra0 := ha.out.cell (i := 0) rfl
    have rc0 := hc.out.cell (i := 0) rfl
    have rr0 := hr.out.c0
    have rr1 := hr.out.c1
    rcases hk with rfl | rfl | rfl
    · go_wp2_with (first
        | (go_at_call 28; refine Calls.mono (KSa' _ (HE.out.below hbl.out)).out ?_; rintro e y1 ⟨t1, rfl, ht1, hb⟩; clear KSa'; have Y1 := Lib.hid (Bl.step hbl.out hb); have YA := Lib.hid (ha.out.stayed hb); have YC := Lib.hid (hc.out.stayed hb); have YR := Lib.hid (hr.out.stayed hb); have ya := YA.out.cell (i := 0) rfl; have yc := YC.out.cell (i := 0) rfl; clear hb)
        | (go_at_call 28; refine Calls.mono (KSb' _ (HE.out.below Y1.out)).out ?_; rintro e y2 ⟨t2, rfl, ht2, hb⟩; clear KSb'; have Y2 := Lib.hid (Bl.step Y1.out hb); have ZA := Lib.hid (YA.out.stayed hb); have ZC := Lib.hid (YC.out.stayed hb); have ZR := Lib.hid (YR.out.stayed hb); have za := ZA.out.cell (i := 0) rfl; have zc := ZC.out.cell (i := 0) rfl; have hbl2 : Op.bytesLess t1.toList t2.toList = false := (by rw [toList_bts, toList_bts, ht1.out, ht2.out]; exact HS.out); clear hb))
      go_roundw
      case rel => exact ⟨1, by first | rfl | go_num | simp, by omega, ZA, ZC, ZR, Y2⟩
      case measure => simp [intOf]
    · go_wp2_with (first
        | (go_at_call 28; refine Calls.mono (KIa' _ (HE.out.below hbl.out)).out ?_; rintro e y1 ⟨t1, rfl, ht1, hb⟩; clear KIa'; have Y1 := Lib.hid (Bl.step hbl.out hb); have YA := Lib.hid (ha.out.stayed hb); have YC := Lib.hid (hc.out.stayed hb); have YR := Lib.hid (hr.out.stayed hb); have ya := YA.out.cell (i := 0) rfl; have yc := YC.out.cell (i := 0) rfl; clear hb)
        | (go_at_call 28; refine Calls.mono (KIb' _ (HE.out.below Y1.out)).out ?_; rintro e y2 ⟨t2, rfl, ht2, hb⟩; clear KIb'; have Y2 := Lib.hid (Bl.step Y1.out hb); have ZA := Lib.hid (YA.out.stayed hb); have ZC := Lib.hid (YC.out.stayed hb); have ZR := Lib.hid (YR.out.stayed hb); have za := ZA.out.cell (i := 0) rfl; have zc := ZC.out.cell (i := 0) rfl; have hbl2 : Op.bytesLess t1.toList t2.toList = false := (by rw [toList_bts, toList_bts, ht1.out, ht2.out]; exact HI.out); clear hb))
      go_roundw
      case rel => exact ⟨2, by first | rfl | go_num | simp, by omega, ZA, ZC, ZR, Y2⟩
      case measure => simp [intOf]
    · go_wp2_with (go_at_call 23; refine Calls.mono (KZ _ (HE.out.below hbl.out)).out ?_; rintro e wz ⟨rfl, hb⟩; have BZ := Lib.hid (Bl.step hbl.out hb); clear hb)
      go_ret
      exact ⟨by first | rfl | simp, BZ.out⟩
end Go.Proofs.YtmjifmlibgpjiaaGreatDoor
