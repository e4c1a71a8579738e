/- CalReadsBack, as a call. -/
import Derived.Test.YtmjifmlibgpjiaaGreatDoorId
import Derived.Test.YtmjifmlibgpjiaaGreatDoorDt
import Derived.Lib.SlBytesConst
namespace Go.Proofs.YtmjifmlibgpjiaaGreatDoor
open Go.RowKit Go.Shelf Tx Go.Maps
set_option linter.unusedVariables false
set_option maxRecDepth 100000

/-- The bytes over which the law ranges. -/
def Row8 (W : World) (B : Nat) : Prop := W.heap[B]? = some (.cells #[.int .u8 66, .int .u8 73, .int .u8 78, .int .u8 83, .int .u8 69, .int .u8 79, .int .u8 85, .int .u8 68] 5 (8, 9))
theorem Row8.lt {W : World} {B : Nat} (h : Row8 W B) : B < W.heap.size := (Array.getElem?_eq_some_iff.1 h).1
theorem Row8.new (W : World) : Row8 (W.alloc (.cells #[.int .u8 66, .int .u8 73, .int .u8 78, .int .u8 83, .int .u8 69, .int .u8 79, .int .u8 85, .int .u8 68] 5 (8, 9))) W.heap.size := World.alloc_heap_new W _
theorem Row8.stayed {W W' : World} {B : Nat} (h : Row8 W B) (hb : Below W.heap.size W W') : Row8 W' B := (hb.block B h.lt).trans h
theorem Row8.c0 {W : World} {B : Nat} (h : Row8 W B) : W.cell? ⟨B, 0, none⟩ = some (.int .u8 66) := by simp [World.cell?, show W.heap[B]? = _ from h]
theorem Row8.c1 {W : World} {B : Nat} (h : Row8 W B) : W.cell? ⟨B, 1, none⟩ = some (.int .u8 73) := by simp [World.cell?, show W.heap[B]? = _ from h]
theorem Row8.c2 {W : World} {B : Nat} (h : Row8 W B) : W.cell? ⟨B, 2, none⟩ = some (.int .u8 78) := by simp [World.cell?, show W.heap[B]? = _ from h]
theorem Row8.c3 {W : World} {B : Nat} (h : Row8 W B) : W.cell? ⟨B, 3, none⟩ = some (.int .u8 83) := by simp [World.cell?, show W.heap[B]? = _ from h]
theorem Row8.c4 {W : World} {B : Nat} (h : Row8 W B) : W.cell? ⟨B, 4, none⟩ = some (.int .u8 69) := by simp [World.cell?, show W.heap[B]? = _ from h]
theorem Row8.c5 {W : World} {B : Nat} (h : Row8 W B) : W.cell? ⟨B, 5, none⟩ = some (.int .u8 79) := by simp [World.cell?, show W.heap[B]? = _ from h]
theorem Row8.c6 {W : World} {B : Nat} (h : Row8 W B) : W.cell? ⟨B, 6, none⟩ = some (.int .u8 85) := by simp [World.cell?, show W.heap[B]? = _ from h]
theorem Row8.c7 {W : World} {B : Nat} (h : Row8 W B) : W.cell? ⟨B, 7, none⟩ = some (.int .u8 68) := by simp [World.cell?, show W.heap[B]? = _ from h]
set_option maxHeartbeats 16000000 in
theorem crb_nsE (n d0 X y t m k m0 k0 p q r v g : Int) (s : ByteArray) (lB lI lN lS lE lO lU lD : List UInt8) (w : World) (hE : Env w) (hM : HasMax w) (hs : ¬ (100 : Int) < (s.size : Int))
    (DB : ∀ W, Env W → Calls Tryz.prog 28 #[.int .i64 n, .int .u8 66] W (GivesSE W lB))
    (RB : ∀ (t : ByteArray), bts t = lB → ∀ W, Env W → HasMax W → Calls Tryz.prog 30 #[.string t, .int .u8 66, .int .i64 d0] W (Gives W #[.int .i64 n, .int .i64 0]))
    (DI : ∀ W, Env W → Calls Tryz.prog 28 #[.int .i64 n, .int .u8 73] W (GivesSE W lI))
    (RI : ∀ (t : ByteArray), bts t = lI → ∀ W, Env W → HasMax W → Calls Tryz.prog 30 #[.string t, .int .u8 73, .int .i64 d0] W (Gives W #[.int .i64 n, .int .i64 0]))
    (DN : ∀ W, Env W → Calls Tryz.prog 28 #[.int .i64 n, .int .u8 78] W (GivesSE W lN))
    (RN : ∀ (t : ByteArray), bts t = lN → ∀ W, Env W → HasMax W → Calls Tryz.prog 30 #[.string t, .int .u8 78, .int .i64 d0] W (Gives W #[.int .i64 n, .int .i64 0]))
    (DS : ∀ W, Env W → Calls Tryz.prog 28 #[.int .i64 n, .int .u8 83] W (GivesSE W lS))
    (RS : ∀ (t : ByteArray), bts t = lS → ∀ W, Env W → HasMax W → Calls Tryz.prog 30 #[.string t, .int .u8 83, .int .i64 d0] W (Gives W #[.int .i64 n, .int .i64 0]))
    (DE : ∀ W, Env W → Calls Tryz.prog 28 #[.int .i64 n, .int .u8 69] W (GivesSE W lE))
    (RE : ∀ (t : ByteArray), bts t = lE → ∀ W, Env W → HasMax W → Calls Tryz.prog 30 #[.string t, .int .u8 69, .int .i64 d0] W (Gives W #[.int .i64 n, .int .i64 0]))
    (DO : ∀ W, Env W → Calls Tryz.prog 28 #[.int .i64 n, .int .u8 79] W (GivesSE W lO))
    (RO : ∀ (t : ByteArray), bts t = lO → ∀ W, Env W → HasMax W → Calls Tryz.prog 30 #[.string t, .int .u8 79, .int .i64 d0] W (Gives W #[.int .i64 n, .int .i64 0]))
    (DU : ∀ W, Env W → Calls Tryz.prog 28 #[.int .i64 n, .int .u8 85] W (GivesSE W lU))
    (RU : ∀ (t : ByteArray), bts t = lU → ∀ W, Env W → HasMax W → Calls Tryz.prog 30 #[.string t, .int .u8 85, .int .i64 d0] W (Gives W #[.int .i64 n, .int .i64 0]))
    (DD : ∀ W, Env W → Calls Tryz.prog 28 #[.int .i64 n, .int .u8 68] W (GivesSE W lD))
    (RD : ∀ (t : ByteArray), bts t = lD → ∀ W, Env W → HasMax W → Calls Tryz.prog 30 #[.string t, .int .u8 68, .int .i64 d0] W (Gives W #[.int .i64 n, .int .i64 0]))
    (f1 : IntKind.i64.wrap (y - t) = p) (f2 : wrap64 (y - t) = p) (f3 : IntKind.i64.wrap (t - y) = q) (f4 : wrap64 (t - y) = q) (f5 : max p q = r)
    (f6 : ¬ 50 ≤ r) (f7 : decide (50 ≤ r) = false)
    (f8 : (y != t) = false)
    (KA : ∀ W, Calls Tryz.prog 17 #[.int .i64 n] W (Gives W #[.int .i64 y, .int .i64 m, .int .i64 k, .int .i64 0]))
    (KT : ∀ W, Calls Tryz.prog 17 #[.int .i64 d0] W (Gives W #[.int .i64 t, .int .i64 m0, .int .i64 k0, .int .i64 0]))
    (KF : ∀ W, Env W → HasMax W → Calls Tryz.prog 30 #[.string s, .int .u8 X, .int .i64 d0] W (Gives W #[.int .i64 v, .int .i64 g])) (g1 : (g == 0) = false) (g2 : ¬ g = 0) :
    Calls Tryz.prog 10 #[.int .i64 n, .int .i64 d0, .string s, .int .u8 X] w fun e w' => e = .returned (.bool true) ∧ Below w.heap.size w w' := by
  have DB' := fun W (hW : Env W) => Lib.hid (DB W hW)
  have RB' := fun t ht W (hW : Env W) (hV : HasMax W) => Lib.hid (RB t ht W hW hV)
  have DI' := fun W (hW : Env W) => Lib.hid (DI W hW)
  have RI' := fun t ht W (hW : Env W) (hV : HasMax W) => Lib.hid (RI t ht W hW hV)
  have DN' := fun W (hW : Env W) => Lib.hid (DN W hW)
  have RN' := fun t ht W (hW : Env W) (hV : HasMax W) => Lib.hid (RN t ht W hW hV)
  have DS' := fun W (hW : Env W) => Lib.hid (DS W hW)
  have RS' := fun t ht W (hW : Env W) (hV : HasMax W) => Lib.hid (RS t ht W hW hV)
  have DE' := fun W (hW : Env W) => Lib.hid (DE W hW)
  have RE' := fun t ht W (hW : Env W) (hV : HasMax W) => Lib.hid (RE t ht W hW hV)
  have DO' := fun W (hW : Env W) => Lib.hid (DO W hW)
  have RO' := fun t ht W (hW : Env W) (hV : HasMax W) => Lib.hid (RO t ht W hW hV)
  have DU' := fun W (hW : Env W) => Lib.hid (DU W hW)
  have RU' := fun t ht W (hW : Env W) (hV : HasMax W) => Lib.hid (RU t ht W hW hV)
  have DD' := fun W (hW : Env W) => Lib.hid (DD W hW)
  have RD' := fun t ht W (hW : Env W) (hV : HasMax W) => Lib.hid (RD t ht W hW hV)
  have KA' := fun W => Lib.hid (KA W)
  have KT' := fun W => Lib.hid (KT W)
  have KF' := fun W (hW : Env W) (hV : HasMax W) => Lib.hid (KF W hW hV)
  have KZ := fun W (hW : Env W) => Lib.hid (sane_any W hW)
  have HE := Lib.hid hE
  have HM := Lib.hid hM
  have hcv := fun (W : World) => Lib.run_convert_bytes_const (P := Tryz.prog) W 64 5 #[.int .u8 66, .int .u8 73, .int .u8 78, .int .u8 83, .int .u8 69, .int .u8 79, .int .u8 85, .int .u8 68] 8 8 Tryz.underlying64 Tryz.underlying5
  clear hE hM KA KT KF DB DI DN DS DE DO DU DD RB RI RN RS RE RO RU RD
  have B0 := Lib.hid (Below.refl w.heap.size w)
  go_enter Tryz.func10, Tryz.ntmps10
  go_wp2_with (first
    | (go_at_call 17; (with_reducible refine Calls.mono (KA' _).out ?_); clear KA'; rintro e w1 ⟨rfl, hb⟩; have B1 := Lib.hid (Bl.step B0.out hb); clear hb)
    | (go_at_call 17; (with_reducible refine Calls.mono (KT' _).out ?_); clear KT'; rintro e w2 ⟨rfl, hb⟩; have B2 := Lib.hid (Bl.step B1.out hb); clear hb))
  go_loopw [18, 19, 20, 21, 22, 56] (fun _ _ _ _ _ v wr => ∃ k : Int, v = .int .i64 k ∧ (k = 0 ∨ k = 1 ∨ k = 2 ∨ k = 3 ∨ k = 4 ∨ k = 5 ∨ k = 6 ∨ k = 7 ∨ k = 8) ∧ Hid (Row8 wr w2.heap.size) ∧ Hid (Below w.heap.size w wr)) (fun _ _ _ _ _ v _ => (8 - intOf v).toNat)
  case atStart => exact ⟨0, rfl, Or.inl rfl, Lib.hid (Row8.new _), Lib.hid (Bl.alloc B2.out _)⟩
  case round =>
    obtain ⟨k, rfl, hk, hr, hbl⟩ := hrel
    have rr0 := hr.out.c0
    have rr1 := hr.out.c1
    have rr2 := hr.out.c2
    have rr3 := hr.out.c3
    have rr4 := hr.out.c4
    have rr5 := hr.out.c5
    have rr6 := hr.out.c6
    have rr7 := hr.out.c7
    rcases hk with rfl | rfl | rfl | rfl | rfl | rfl | rfl | rfl | rfl
    · go_wp2_with (first
        | (go_at_call 28; refine Calls.mono (DB' _ (HE.out.below hbl.out)).out ?_; rintro e y1 ⟨t1, rfl, ht1, hb⟩; clear DB'; have Y1 := Lib.hid (Bl.step hbl.out hb); have YR := Lib.hid (hr.out.stayed hb); have KQ := RB' t1 ht1.out; clear hb)
        | (go_at_call 30; refine Calls.mono (KQ _ (HE.out.below Y1.out) (HM.out.below Y1.out)).out ?_; rintro e y2 ⟨rfl, hb⟩; have Y2 := Lib.hid (Bl.step Y1.out hb); have ZR := Lib.hid (YR.out.stayed hb); clear hb))
      go_roundw
      case rel => exact ⟨1, by first | rfl | go_num | simp, by omega, ZR, Y2⟩
      case measure => simp [intOf]
    · go_wp2_with (first
        | (go_at_call 28; refine Calls.mono (DI' _ (HE.out.below hbl.out)).out ?_; rintro e y1 ⟨t1, rfl, ht1, hb⟩; clear DI'; have Y1 := Lib.hid (Bl.step hbl.out hb); have YR := Lib.hid (hr.out.stayed hb); have KQ := RI' t1 ht1.out; clear hb)
        | (go_at_call 30; refine Calls.mono (KQ _ (HE.out.below Y1.out) (HM.out.below Y1.out)).out ?_; rintro e y2 ⟨rfl, hb⟩; have Y2 := Lib.hid (Bl.step Y1.out hb); have ZR := Lib.hid (YR.out.stayed hb); clear hb))
      go_roundw
      case rel => exact ⟨2, by first | rfl | go_num | simp, by omega, ZR, Y2⟩
      case measure => simp [intOf]
    · go_wp2_with (first
        | (go_at_call 28; refine Calls.mono (DN' _ (HE.out.below hbl.out)).out ?_; rintro e y1 ⟨t1, rfl, ht1, hb⟩; clear DN'; have Y1 := Lib.hid (Bl.step hbl.out hb); have YR := Lib.hid (hr.out.stayed hb); have KQ := RN' t1 ht1.out; clear hb)
        | (go_at_call 30; refine Calls.mono (KQ _ (HE.out.below Y1.out) (HM.out.below Y1.out)).out ?_; rintro e y2 ⟨rfl, hb⟩; have Y2 := Lib.hid (Bl.step Y1.out hb); have ZR := Lib.hid (YR.out.stayed hb); clear hb))
      go_roundw
      case rel => exact ⟨3, by first | rfl | go_num | simp, by omega, ZR, Y2⟩
      case measure => simp [intOf]
    · go_wp2_with (first
        | (go_at_call 28; refine Calls.mono (DS' _ (HE.out.below hbl.out)).out ?_; rintro e y1 ⟨t1, rfl, ht1, hb⟩; clear DS'; have Y1 := Lib.hid (Bl.step hbl.out hb); have YR := Lib.hid (hr.out.stayed hb); have KQ := RS' t1 ht1.out; clear hb)
        | (go_at_call 30; refine Calls.mono (KQ _ (HE.out.below Y1.out) (HM.out.below Y1.out)).out ?_; rintro e y2 ⟨rfl, hb⟩; have Y2 := Lib.hid (Bl.step Y1.out hb); have ZR := Lib.hid (YR.out.stayed hb); clear hb))
      go_roundw
      case rel => exact ⟨4, by first | rfl | go_num | simp, by omega, ZR, Y2⟩
      case measure => simp [intOf]
    · go_wp2_with (first
        | (go_at_call 28; refine Calls.mono (DE' _ (HE.out.below hbl.out)).out ?_; rintro e y1 ⟨t1, rfl, ht1, hb⟩; clear DE'; have Y1 := Lib.hid (Bl.step hbl.out hb); have YR := Lib.hid (hr.out.stayed hb); have KQ := RE' t1 ht1.out; clear hb)
        | (go_at_call 30; refine Calls.mono (KQ _ (HE.out.below Y1.out) (HM.out.below Y1.out)).out ?_; rintro e y2 ⟨rfl, hb⟩; have Y2 := Lib.hid (Bl.step Y1.out hb); have ZR := Lib.hid (YR.out.stayed hb); clear hb))
      go_roundw
      case rel => exact ⟨5, by first | rfl | go_num | simp, by omega, ZR, Y2⟩
      case measure => simp [intOf]
    · go_wp2_with (first
        | (go_at_call 28; refine Calls.mono (DO' _ (HE.out.below hbl.out)).out ?_; rintro e y1 ⟨t1, rfl, ht1, hb⟩; clear DO'; have Y1 := Lib.hid (Bl.step hbl.out hb); have YR := Lib.hid (hr.out.stayed hb); have KQ := RO' t1 ht1.out; clear hb)
        | (go_at_call 30; refine Calls.mono (KQ _ (HE.out.below Y1.out) (HM.out.below Y1.out)).out ?_; rintro e y2 ⟨rfl, hb⟩; have Y2 := Lib.hid (Bl.step Y1.out hb); have ZR := Lib.hid (YR.out.stayed hb); clear hb))
      go_roundw
      case rel => exact ⟨6, by first | rfl | go_num | simp, by omega, ZR, Y2⟩
      case measure => simp [intOf]
    · go_wp2_with (first
        | (go_at_call 28; refine Calls.mono (DU' _ (HE.out.below hbl.out)).out ?_; rintro e y1 ⟨t1, rfl, ht1, hb⟩; clear DU'; have Y1 := Lib.hid (Bl.step hbl.out hb); have YR := Lib.hid (hr.out.stayed hb); have KQ := RU' t1 ht1.out; clear hb)
        | (go_at_call 30; refine Calls.mono (KQ _ (HE.out.below Y1.out) (HM.out.below Y1.out)).out ?_; rintro e y2 ⟨rfl, hb⟩; have Y2 := Lib.hid (Bl.step Y1.out hb); have ZR := Lib.hid (YR.out.stayed hb); clear hb))
      go_roundw
      case rel => exact ⟨7, by first | rfl | go_num | simp, by omega, ZR, Y2⟩
      case measure => simp [intOf]
    · go_wp2_with (first
        | (go_at_call 28; refine Calls.mono (DD' _ (HE.out.below hbl.out)).out ?_; rintro e y1 ⟨t1, rfl, ht1, hb⟩; clear DD'; have Y1 := Lib.hid (Bl.step hbl.out hb); have YR := Lib.hid (hr.out.stayed hb); have KQ := RD' t1 ht1.out; clear hb)
        | (go_at_call 30; refine Calls.mono (KQ _ (HE.out.below Y1.out) (HM.out.below Y1.out)).out ?_; rintro e y2 ⟨rfl, hb⟩; have Y2 := Lib.hid (Bl.step Y1.out hb); have ZR := Lib.hid (YR.out.stayed hb); clear hb))
      go_roundw
      case rel => exact ⟨8, by first | rfl | go_num | simp, by omega, ZR, Y2⟩
      case measure => simp [intOf]
    · go_wp2_with (first
        | (go_at_call 30; refine Calls.mono (KF' _ (HE.out.below hbl.out) (HM.out.below hbl.out)).out ?_; rintro e y1 ⟨rfl, hb⟩; have Y1 := Lib.hid (Bl.step hbl.out hb); clear hb)
        | (go_at_call 23; refine Calls.mono (KZ _ (HE.out.below Y1.out)).out ?_; rintro e wz ⟨rfl, hb⟩; have BZ := Lib.hid (Bl.step Y1.out hb); clear hb))
      go_ret
      exact ⟨by first | rfl | simp, BZ.out⟩
set_option maxHeartbeats 16000000 in
theorem crb_nsO (n d0 X y t m k m0 k0 p q r v : Int) (s : ByteArray) (lB lI lN lS lE lO lU lD : List UInt8) (w : World) (hE : Env w) (hM : HasMax w) (hs : ¬ (100 : Int) < (s.size : Int))
    (DB : ∀ W, Env W → Calls Tryz.prog 28 #[.int .i64 n, .int .u8 66] W (GivesSE W lB))
    (RB : ∀ (t : ByteArray), bts t = lB → ∀ W, Env W → HasMax W → Calls Tryz.prog 30 #[.string t, .int .u8 66, .int .i64 d0] W (Gives W #[.int .i64 n, .int .i64 0]))
    (DI : ∀ W, Env W → Calls Tryz.prog 28 #[.int .i64 n, .int .u8 73] W (GivesSE W lI))
    (RI : ∀ (t : ByteArray), bts t = lI → ∀ W, Env W → HasMax W → Calls Tryz.prog 30 #[.string t, .int .u8 73, .int .i64 d0] W (Gives W #[.int .i64 n, .int .i64 0]))
    (DN : ∀ W, Env W → Calls Tryz.prog 28 #[.int .i64 n, .int .u8 78] W (GivesSE W lN))
    (RN : ∀ (t : ByteArray), bts t = lN → ∀ W, Env W → HasMax W → Calls Tryz.prog 30 #[.string t, .int .u8 78, .int .i64 d0] W (Gives W #[.int .i64 n, .int .i64 0]))
    (DS : ∀ W, Env W → Calls Tryz.prog 28 #[.int .i64 n, .int .u8 83] W (GivesSE W lS))
    (RS : ∀ (t : ByteArray), bts t = lS → ∀ W, Env W → HasMax W → Calls Tryz.prog 30 #[.string t, .int .u8 83, .int .i64 d0] W (Gives W #[.int .i64 n, .int .i64 0]))
    (DE : ∀ W, Env W → Calls Tryz.prog 28 #[.int .i64 n, .int .u8 69] W (GivesSE W lE))
    (RE : ∀ (t : ByteArray), bts t = lE → ∀ W, Env W → HasMax W → Calls Tryz.prog 30 #[.string t, .int .u8 69, .int .i64 d0] W (Gives W #[.int .i64 n, .int .i64 0]))
    (DO : ∀ W, Env W → Calls Tryz.prog 28 #[.int .i64 n, .int .u8 79] W (GivesSE W lO))
    (RO : ∀ (t : ByteArray), bts t = lO → ∀ W, Env W → HasMax W → Calls Tryz.prog 30 #[.string t, .int .u8 79, .int .i64 d0] W (Gives W #[.int .i64 n, .int .i64 0]))
    (DU : ∀ W, Env W → Calls Tryz.prog 28 #[.int .i64 n, .int .u8 85] W (GivesSE W lU))
    (RU : ∀ (t : ByteArray), bts t = lU → ∀ W, Env W → HasMax W → Calls Tryz.prog 30 #[.string t, .int .u8 85, .int .i64 d0] W (Gives W #[.int .i64 n, .int .i64 0]))
    (DD : ∀ W, Env W → Calls Tryz.prog 28 #[.int .i64 n, .int .u8 68] W (GivesSE W lD))
    (RD : ∀ (t : ByteArray), bts t = lD → ∀ W, Env W → HasMax W → Calls Tryz.prog 30 #[.string t, .int .u8 68, .int .i64 d0] W (Gives W #[.int .i64 n, .int .i64 0]))
    (f1 : IntKind.i64.wrap (y - t) = p) (f2 : wrap64 (y - t) = p) (f3 : IntKind.i64.wrap (t - y) = q) (f4 : wrap64 (t - y) = q) (f5 : max p q = r)
    (f6 : ¬ 50 ≤ r) (f7 : decide (50 ≤ r) = false)
    (f8 : (y != t) = false)
    (KA : ∀ W, Calls Tryz.prog 17 #[.int .i64 n] W (Gives W #[.int .i64 y, .int .i64 m, .int .i64 k, .int .i64 0]))
    (KT : ∀ W, Calls Tryz.prog 17 #[.int .i64 d0] W (Gives W #[.int .i64 t, .int .i64 m0, .int .i64 k0, .int .i64 0]))
    (KF : ∀ W, Env W → HasMax W → Calls Tryz.prog 30 #[.string s, .int .u8 X, .int .i64 d0] W (Gives W #[.int .i64 v, .int .i64 0])) (KG : ∀ W, Env W → Calls Tryz.prog 28 #[.int .i64 v, .int .u8 X] W (GivesSE W (bts s))) :
    Calls Tryz.prog 10 #[.int .i64 n, .int .i64 d0, .string s, .int .u8 X] w fun e w' => e = .returned (.bool true) ∧ Below w.heap.size w w' := by
  have DB' := fun W (hW : Env W) => Lib.hid (DB W hW)
  have RB' := fun t ht W (hW : Env W) (hV : HasMax W) => Lib.hid (RB t ht W hW hV)
  have DI' := fun W (hW : Env W) => Lib.hid (DI W hW)
  have RI' := fun t ht W (hW : Env W) (hV : HasMax W) => Lib.hid (RI t ht W hW hV)
  have DN' := fun W (hW : Env W) => Lib.hid (DN W hW)
  have RN' := fun t ht W (hW : Env W) (hV : HasMax W) => Lib.hid (RN t ht W hW hV)
  have DS' := fun W (hW : Env W) => Lib.hid (DS W hW)
  have RS' := fun t ht W (hW : Env W) (hV : HasMax W) => Lib.hid (RS t ht W hW hV)
  have DE' := fun W (hW : Env W) => Lib.hid (DE W hW)
  have RE' := fun t ht W (hW : Env W) (hV : HasMax W) => Lib.hid (RE t ht W hW hV)
  have DO' := fun W (hW : Env W) => Lib.hid (DO W hW)
  have RO' := fun t ht W (hW : Env W) (hV : HasMax W) => Lib.hid (RO t ht W hW hV)
  have DU' := fun W (hW : Env W) => Lib.hid (DU W hW)
  have RU' := fun t ht W (hW : Env W) (hV : HasMax W) => Lib.hid (RU t ht W hW hV)
  have DD' := fun W (hW : Env W) => Lib.hid (DD W hW)
  have RD' := fun t ht W (hW : Env W) (hV : HasMax W) => Lib.hid (RD t ht W hW hV)
  have KA' := fun W => Lib.hid (KA W)
  have KT' := fun W => Lib.hid (KT W)
  have KF' := fun W (hW : Env W) (hV : HasMax W) => Lib.hid (KF W hW hV)
  have KG' := fun W (hW : Env W) => Lib.hid (KG W hW)
  have KZ := fun W (hW : Env W) => Lib.hid (sane_any W hW)
  have HE := Lib.hid hE
  have HM := Lib.hid hM
  have hcv := fun (W : World) => Lib.run_convert_bytes_const (P := Tryz.prog) W 64 5 #[.int .u8 66, .int .u8 73, .int .u8 78, .int .u8 83, .int .u8 69, .int .u8 79, .int .u8 85, .int .u8 68] 8 8 Tryz.underlying64 Tryz.underlying5
  clear hE hM KA KT KF KG DB DI DN DS DE DO DU DD RB RI RN RS RE RO RU RD
  have B0 := Lib.hid (Below.refl w.heap.size w)
  go_enter Tryz.func10, Tryz.ntmps10
  go_wp2_with (first
    | (go_at_call 17; (with_reducible refine Calls.mono (KA' _).out ?_); clear KA'; rintro e w1 ⟨rfl, hb⟩; have B1 := Lib.hid (Bl.step B0.out hb); clear hb)
    | (go_at_call 17; (with_reducible refine Calls.mono (KT' _).out ?_); clear KT'; rintro e w2 ⟨rfl, hb⟩; have B2 := Lib.hid (Bl.step B1.out hb); clear hb))
  go_loopw [18, 19, 20, 21, 22, 56] (fun _ _ _ _ _ v wr => ∃ k : Int, v = .int .i64 k ∧ (k = 0 ∨ k = 1 ∨ k = 2 ∨ k = 3 ∨ k = 4 ∨ k = 5 ∨ k = 6 ∨ k = 7 ∨ k = 8) ∧ Hid (Row8 wr w2.heap.size) ∧ Hid (Below w.heap.size w wr)) (fun _ _ _ _ _ v _ => (8 - intOf v).toNat)
  case atStart => exact ⟨0, rfl, Or.inl rfl, Lib.hid (Row8.new _), Lib.hid (Bl.alloc B2.out _)⟩
  case round =>
    obtain ⟨k, rfl, hk, hr, hbl⟩ := hrel
    have rr0 := hr.out.c0
    have rr1 := hr.out.c1
    have rr2 := hr.out.c2
    have rr3 := hr.out.c3
    have rr4 := hr.out.c4
    have rr5 := hr.out.c5
    have rr6 := hr.out.c6
    have rr7 := hr.out.c7
    rcases hk with rfl | rfl | rfl | rfl | rfl | rfl | rfl | rfl | rfl
    · go_wp2_with (first
        | (go_at_call 28; refine Calls.mono (DB' _ (HE.out.below hbl.out)).out ?_; rintro e y1 ⟨t1, rfl, ht1, hb⟩; clear DB'; have Y1 := Lib.hid (Bl.step hbl.out hb); have YR := Lib.hid (hr.out.stayed hb); have KQ := RB' t1 ht1.out; clear hb)
        | (go_at_call 30; refine Calls.mono (KQ _ (HE.out.below Y1.out) (HM.out.below Y1.out)).out ?_; rintro e y2 ⟨rfl, hb⟩; have Y2 := Lib.hid (Bl.step Y1.out hb); have ZR := Lib.hid (YR.out.stayed hb); clear hb))
      go_roundw
      case rel => exact ⟨1, by first | rfl | go_num | simp, by omega, ZR, Y2⟩
      case measure => simp [intOf]
    · go_wp2_with (first
        | (go_at_call 28; refine Calls.mono (DI' _ (HE.out.below hbl.out)).out ?_; rintro e y1 ⟨t1, rfl, ht1, hb⟩; clear DI'; have Y1 := Lib.hid (Bl.step hbl.out hb); have YR := Lib.hid (hr.out.stayed hb); have KQ := RI' t1 ht1.out; clear hb)
        | (go_at_call 30; refine Calls.mono (KQ _ (HE.out.below Y1.out) (HM.out.below Y1.out)).out ?_; rintro e y2 ⟨rfl, hb⟩; have Y2 := Lib.hid (Bl.step Y1.out hb); have ZR := Lib.hid (YR.out.stayed hb); clear hb))
      go_roundw
      case rel => exact ⟨2, by first | rfl | go_num | simp, by omega, ZR, Y2⟩
      case measure => simp [intOf]
    · go_wp2_with (first
        | (go_at_call 28; refine Calls.mono (DN' _ (HE.out.below hbl.out)).out ?_; rintro e y1 ⟨t1, rfl, ht1, hb⟩; clear DN'; have Y1 := Lib.hid (Bl.step hbl.out hb); have YR := Lib.hid (hr.out.stayed hb); have KQ := RN' t1 ht1.out; clear hb)
        | (go_at_call 30; refine Calls.mono (KQ _ (HE.out.below Y1.out) (HM.out.below Y1.out)).out ?_; rintro e y2 ⟨rfl, hb⟩; have Y2 := Lib.hid (Bl.step Y1.out hb); have ZR := Lib.hid (YR.out.stayed hb); clear hb))
      go_roundw
      case rel => exact ⟨3, by first | rfl | go_num | simp, by omega, ZR, Y2⟩
      case measure => simp [intOf]
    · go_wp2_with (first
        | (go_at_call 28; refine Calls.mono (DS' _ (HE.out.below hbl.out)).out ?_; rintro e y1 ⟨t1, rfl, ht1, hb⟩; clear DS'; have Y1 := Lib.hid (Bl.step hbl.out hb); have YR := Lib.hid (hr.out.stayed hb); have KQ := RS' t1 ht1.out; clear hb)
        | (go_at_call 30; refine Calls.mono (KQ _ (HE.out.below Y1.out) (HM.out.below Y1.out)).out ?_; rintro e y2 ⟨rfl, hb⟩; have Y2 := Lib.hid (Bl.step Y1.out hb); have ZR := Lib.hid (YR.out.stayed hb); clear hb))
      go_roundw
      case rel => exact ⟨4, by first | rfl | go_num | simp, by omega, ZR, Y2⟩
      case measure => simp [intOf]
    · go_wp2_with (first
        | (go_at_call 28; refine Calls.mono (DE' _ (HE.out.below hbl.out)).out ?_; rintro e y1 ⟨t1, rfl, ht1, hb⟩; clear DE'; have Y1 := Lib.hid (Bl.step hbl.out hb); have YR := Lib.hid (hr.out.stayed hb); have KQ := RE' t1 ht1.out; clear hb)
        | (go_at_call 30; refine Calls.mono (KQ _ (HE.out.below Y1.out) (HM.out.below Y1.out)).out ?_; rintro e y2 ⟨rfl, hb⟩; have Y2 := Lib.hid (Bl.step Y1.out hb); have ZR := Lib.hid (YR.out.stayed hb); clear hb))
      go_roundw
      case rel => exact ⟨5, by first | rfl | go_num | simp, by omega, ZR, Y2⟩
      case measure => simp [intOf]
    · go_wp2_with (first
        | (go_at_call 28; refine Calls.mono (DO' _ (HE.out.below hbl.out)).out ?_; rintro e y1 ⟨t1, rfl, ht1, hb⟩; clear DO'; have Y1 := Lib.hid (Bl.step hbl.out hb); have YR := Lib.hid (hr.out.stayed hb); have KQ := RO' t1 ht1.out; clear hb)
        | (go_at_call 30; refine Calls.mono (KQ _ (HE.out.below Y1.out) (HM.out.below Y1.out)).out ?_; rintro e y2 ⟨rfl, hb⟩; have Y2 := Lib.hid (Bl.step Y1.out hb); have ZR := Lib.hid (YR.out.stayed hb); clear hb))
      go_roundw
      case rel => exact ⟨6, by first | rfl | go_num | simp, by omega, ZR, Y2⟩
      case measure => simp [intOf]
    · go_wp2_with (first
        | (go_at_call 28; refine Calls.mono (DU' _ (HE.out.below hbl.out)).out ?_; rintro e y1 ⟨t1, rfl, ht1, hb⟩; clear DU'; have Y1 := Lib.hid (Bl.step hbl.out hb); have YR := Lib.hid (hr.out.stayed hb); have KQ := RU' t1 ht1.out; clear hb)
        | (go_at_call 30; refine Calls.mono (KQ _ (HE.out.below Y1.out) (HM.out.below Y1.out)).out ?_; rintro e y2 ⟨rfl, hb⟩; have Y2 := Lib.hid (Bl.step Y1.out hb); have ZR := Lib.hid (YR.out.stayed hb); clear hb))
      go_roundw
      case rel => exact ⟨7, by first | rfl | go_num | simp, by omega, ZR, Y2⟩
      case measure => simp [intOf]
    · go_wp2_with (first
        | (go_at_call 28; refine Calls.mono (DD' _ (HE.out.below hbl.out)).out ?_; rintro e y1 ⟨t1, rfl, ht1, hb⟩; clear DD'; have Y1 := Lib.hid (Bl.step hbl.out hb); have YR := Lib.hid (hr.out.stayed hb); have KQ := RD' t1 ht1.out; clear hb)
        | (go_at_call 30; refine Calls.mono (KQ _ (HE.out.below Y1.out) (HM.out.below Y1.out)).out ?_; rintro e y2 ⟨rfl, hb⟩; have Y2 := Lib.hid (Bl.step Y1.out hb); have ZR := Lib.hid (YR.out.stayed hb); clear hb))
      go_roundw
      case rel => exact ⟨8, by first | rfl | go_num | simp, by omega, ZR, Y2⟩
      case measure => simp [intOf]
    · go_wp2_with (first
        | (go_at_call 30; refine Calls.mono (KF' _ (HE.out.below hbl.out) (HM.out.below hbl.out)).out ?_; rintro e y1 ⟨rfl, hb⟩; have Y1 := Lib.hid (Bl.step hbl.out hb); clear hb)
        | (go_at_call 28; refine Calls.mono (KG' _ (HE.out.below Y1.out)).out ?_; rintro e y2 ⟨t2, rfl, ht2, hb⟩; obtain rfl : t2 = s := bts_inj ht2.out; have Y2 := Lib.hid (Bl.step Y1.out hb); clear hb)
        | (go_at_call 23; refine Calls.mono (KZ _ (HE.out.below Y2.out)).out ?_; rintro e wz ⟨rfl, hb⟩; have BZ := Lib.hid (Bl.step Y2.out hb); clear hb))
      go_ret
      exact ⟨by first | rfl | simp, BZ.out⟩
set_option maxHeartbeats 16000000 in
theorem crb_ndE (n d0 X y t m k m0 k0 p q r v g : Int) (s : ByteArray) (lB lI lN lS lE lO lU lD : List UInt8) (w : World) (hE : Env w) (hM : HasMax w) (hs : ¬ (100 : Int) < (s.size : Int))
    (DB : ∀ W, Env W → Calls Tryz.prog 28 #[.int .i64 n, .int .u8 66] W (GivesSE W lB))
    (RB : ∀ (t : ByteArray), bts t = lB → ∀ W, Env W → HasMax W → Calls Tryz.prog 30 #[.string t, .int .u8 66, .int .i64 d0] W (Gives W #[.int .i64 n, .int .i64 0]))
    (DI : ∀ W, Env W → Calls Tryz.prog 28 #[.int .i64 n, .int .u8 73] W (GivesSE W lI))
    (RI : ∀ (t : ByteArray), bts t = lI → ∀ W, Env W → HasMax W → Calls Tryz.prog 30 #[.string t, .int .u8 73, .int .i64 d0] W (Gives W #[.int .i64 n, .int .i64 0]))
    (DN : ∀ W, Env W → Calls Tryz.prog 28 #[.int .i64 n, .int .u8 78] W (GivesSE W lN))
    (RN : ∀ (t : ByteArray), bts t = lN → ∀ W, Env W → HasMax W → Calls Tryz.prog 30 #[.string t, .int .u8 78, .int .i64 d0] W (Gives W #[.int .i64 n, .int .i64 0]))
    (DS : ∀ W, Env W → Calls Tryz.prog 28 #[.int .i64 n, .int .u8 83] W (GivesSE W lS))
    (RS : ∀ (t : ByteArray), bts t = lS → ∀ W, Env W → HasMax W → Calls Tryz.prog 30 #[.string t, .int .u8 83, .int .i64 d0] W (Gives W #[.int .i64 n, .int .i64 0]))
    (DE : ∀ W, Env W → Calls Tryz.prog 28 #[.int .i64 n, .int .u8 69] W (GivesSE W lE))
    (RE : ∀ (t : ByteArray), bts t = lE → ∀ W, Env W → HasMax W → Calls Tryz.prog 30 #[.string t, .int .u8 69, .int .i64 d0] W (Gives W #[.int .i64 n, .int .i64 0]))
    (DO : ∀ W, Env W → Calls Tryz.prog 28 #[.int .i64 n, .int .u8 79] W (GivesSE W lO))
    (RO : ∀ (t : ByteArray), bts t = lO → ∀ W, Env W → HasMax W → Calls Tryz.prog 30 #[.string t, .int .u8 79, .int .i64 d0] W (Gives W #[.int .i64 n, .int .i64 0]))
    (DU : ∀ W, Env W → Calls Tryz.prog 28 #[.int .i64 n, .int .u8 85] W (GivesSE W lU))
    (RU : ∀ (t : ByteArray), bts t = lU → ∀ W, Env W → HasMax W → Calls Tryz.prog 30 #[.string t, .int .u8 85, .int .i64 d0] W (Gives W #[.int .i64 n, .int .i64 0]))
    (DD : ∀ W, Env W → Calls Tryz.prog 28 #[.int .i64 n, .int .u8 68] W (GivesSE W lD))
    (f1 : IntKind.i64.wrap (y - t) = p) (f2 : wrap64 (y - t) = p) (f3 : IntKind.i64.wrap (t - y) = q) (f4 : wrap64 (t - y) = q) (f5 : max p q = r)
    (f6 : ¬ 50 ≤ r) (f7 : decide (50 ≤ r) = false)
    (f8 : (y != t) = true)
    (KA : ∀ W, Calls Tryz.prog 17 #[.int .i64 n] W (Gives W #[.int .i64 y, .int .i64 m, .int .i64 k, .int .i64 0]))
    (KT : ∀ W, Calls Tryz.prog 17 #[.int .i64 d0] W (Gives W #[.int .i64 t, .int .i64 m0, .int .i64 k0, .int .i64 0]))
    (KF : ∀ W, Env W → HasMax W → Calls Tryz.prog 30 #[.string s, .int .u8 X, .int .i64 d0] W (Gives W #[.int .i64 v, .int .i64 g])) (g1 : (g == 0) = false) (g2 : ¬ g = 0) :
    Calls Tryz.prog 10 #[.int .i64 n, .int .i64 d0, .string s, .int .u8 X] w fun e w' => e = .returned (.bool true) ∧ Below w.heap.size w w' := by
  have DB' := fun W (hW : Env W) => Lib.hid (DB W hW)
  have RB' := fun t ht W (hW : Env W) (hV : HasMax W) => Lib.hid (RB t ht W hW hV)
  have DI' := fun W (hW : Env W) => Lib.hid (DI W hW)
  have RI' := fun t ht W (hW : Env W) (hV : HasMax W) => Lib.hid (RI t ht W hW hV)
  have DN' := fun W (hW : Env W) => Lib.hid (DN W hW)
  have RN' := fun t ht W (hW : Env W) (hV : HasMax W) => Lib.hid (RN t ht W hW hV)
  have DS' := fun W (hW : Env W) => Lib.hid (DS W hW)
  have RS' := fun t ht W (hW : Env W) (hV : HasMax W) => Lib.hid (RS t ht W hW hV)
  have DE' := fun W (hW : Env W) => Lib.hid (DE W hW)
  have RE' := fun t ht W (hW : Env W) (hV : HasMax W) => Lib.hid (RE t ht W hW hV)
  have DO' := fun W (hW : Env W) => Lib.hid (DO W hW)
  have RO' := fun t ht W (hW : Env W) (hV : HasMax W) => Lib.hid (RO t ht W hW hV)
  have DU' := fun W (hW : Env W) => Lib.hid (DU W hW)
  have RU' := fun t ht W (hW : Env W) (hV : HasMax W) => Lib.hid (RU t ht W hW hV)
  have DD' := fun W (hW : Env W) => Lib.hid (DD W hW)
  have KA' := fun W => Lib.hid (KA W)
  have KT' := fun W => Lib.hid (KT W)
  have KF' := fun W (hW : Env W) (hV : HasMax W) => Lib.hid (KF W hW hV)
  have KZ := fun W (hW : Env W) => Lib.hid (sane_any W hW)
  have HE := Lib.hid hE
  have HM := Lib.hid hM
  have hcv := fun (W : World) => Lib.run_convert_bytes_const (P := Tryz.prog) W 64 5 #[.int .u8 66, .int .u8 73, .int .u8 78, .int .u8 83, .int .u8 69, .int .u8 79, .int .u8 85, .int .u8 68] 8 8 Tryz.underlying64 Tryz.underlying5
  clear hE hM KA KT KF DB DI DN DS DE DO DU DD RB RI RN RS RE RO RU
  have B0 := Lib.hid (Below.refl w.heap.size w)
  go_enter Tryz.func10, Tryz.ntmps10
  go_wp2_with (first
    | (go_at_call 17; (with_reducible refine Calls.mono (KA' _).out ?_); clear KA'; rintro e w1 ⟨rfl, hb⟩; have B1 := Lib.hid (Bl.step B0.out hb); clear hb)
    | (go_at_call 17; (with_reducible refine Calls.mono (KT' _).out ?_); clear KT'; rintro e w2 ⟨rfl, hb⟩; have B2 := Lib.hid (Bl.step B1.out hb); clear hb))
  go_loopw [18, 19, 20, 21, 22, 56] (fun _ _ _ _ _ v wr => ∃ k : Int, v = .int .i64 k ∧ (k = 0 ∨ k = 1 ∨ k = 2 ∨ k = 3 ∨ k = 4 ∨ k = 5 ∨ k = 6 ∨ k = 7 ∨ k = 8) ∧ Hid (Row8 wr w2.heap.size) ∧ Hid (Below w.heap.size w wr)) (fun _ _ _ _ _ v _ => (8 - intOf v).toNat)
  case atStart => exact ⟨0, rfl, Or.inl rfl, Lib.hid (Row8.new _), Lib.hid (Bl.alloc B2.out _)⟩
  case round =>
    obtain ⟨k, rfl, hk, hr, hbl⟩ := hrel
    have rr0 := hr.out.c0
    have rr1 := hr.out.c1
    have rr2 := hr.out.c2
    have rr3 := hr.out.c3
    have rr4 := hr.out.c4
    have rr5 := hr.out.c5
    have rr6 := hr.out.c6
    have rr7 := hr.out.c7
    rcases hk with rfl | rfl | rfl | rfl | rfl | rfl | rfl | rfl | rfl
    · go_wp2_with (first
        | (go_at_call 28; refine Calls.mono (DB' _ (HE.out.below hbl.out)).out ?_; rintro e y1 ⟨t1, rfl, ht1, hb⟩; clear DB'; have Y1 := Lib.hid (Bl.step hbl.out hb); have YR := Lib.hid (hr.out.stayed hb); have KQ := RB' t1 ht1.out; clear hb)
        | (go_at_call 30; refine Calls.mono (KQ _ (HE.out.below Y1.out) (HM.out.below Y1.out)).out ?_; rintro e y2 ⟨rfl, hb⟩; have Y2 := Lib.hid (Bl.step Y1.out hb); have ZR := Lib.hid (YR.out.stayed hb); clear hb))
      go_roundw
      case rel => exact ⟨1, by first | rfl | go_num | simp, by omega, ZR, Y2⟩
      case measure => simp [intOf]
    · go_wp2_with (first
        | (go_at_call 28; refine Calls.mono (DI' _ (HE.out.below hbl.out)).out ?_; rintro e y1 ⟨t1, rfl, ht1, hb⟩; clear DI'; have Y1 := Lib.hid (Bl.step hbl.out hb); have YR := Lib.hid (hr.out.stayed hb); have KQ := RI' t1 ht1.out; clear hb)
        | (go_at_call 30; refine Calls.mono (KQ _ (HE.out.below Y1.out) (HM.out.below Y1.out)).out ?_; rintro e y2 ⟨rfl, hb⟩; have Y2 := Lib.hid (Bl.step Y1.out hb); have ZR := Lib.hid (YR.out.stayed hb); clear hb))
      go_roundw
      case rel => exact ⟨2, by first | rfl | go_num | simp, by omega, ZR, Y2⟩
      case measure => simp [intOf]
    · go_wp2_with (first
        | (go_at_call 28; refine Calls.mono (DN' _ (HE.out.below hbl.out)).out ?_; rintro e y1 ⟨t1, rfl, ht1, hb⟩; clear DN'; have Y1 := Lib.hid (Bl.step hbl.out hb); have YR := Lib.hid (hr.out.stayed hb); have KQ := RN' t1 ht1.out; clear hb)
        | (go_at_call 30; refine Calls.mono (KQ _ (HE.out.below Y1.out) (HM.out.below Y1.out)).out ?_; rintro e y2 ⟨rfl, hb⟩; have Y2 := Lib.hid (Bl.step Y1.out hb); have ZR := Lib.hid (YR.out.stayed hb); clear hb))
      go_roundw
      case rel => exact ⟨3, by first | rfl | go_num | simp, by omega, ZR, Y2⟩
      case measure => simp [intOf]
    · go_wp2_with (first
        | (go_at_call 28; refine Calls.mono (DS' _ (HE.out.below hbl.out)).out ?_; rintro e y1 ⟨t1, rfl, ht1, hb⟩; clear DS'; have Y1 := Lib.hid (Bl.step hbl.out hb); have YR := Lib.hid (hr.out.stayed hb); have KQ := RS' t1 ht1.out; clear hb)
        | (go_at_call 30; refine Calls.mono (KQ _ (HE.out.below Y1.out) (HM.out.below Y1.out)).out ?_; rintro e y2 ⟨rfl, hb⟩; have Y2 := Lib.hid (Bl.step Y1.out hb); have ZR := Lib.hid (YR.out.stayed hb); clear hb))
      go_roundw
      case rel => exact ⟨4, by first | rfl | go_num | simp, by omega, ZR, Y2⟩
      case measure => simp [intOf]
    · go_wp2_with (first
        | (go_at_call 28; refine Calls.mono (DE' _ (HE.out.below hbl.out)).out ?_; rintro e y1 ⟨t1, rfl, ht1, hb⟩; clear DE'; have Y1 := Lib.hid (Bl.step hbl.out hb); have YR := Lib.hid (hr.out.stayed hb); have KQ := RE' t1 ht1.out; clear hb)
        | (go_at_call 30; refine Calls.mono (KQ _ (HE.out.below Y1.out) (HM.out.below Y1.out)).out ?_; rintro e y2 ⟨rfl, hb⟩; have Y2 := Lib.hid (Bl.step Y1.out hb); have ZR := Lib.hid (YR.out.stayed hb); clear hb))
      go_roundw
      case rel => exact ⟨5, by first | rfl | go_num | simp, by omega, ZR, Y2⟩
      case measure => simp [intOf]
    · go_wp2_with (first
        | (go_at_call 28; refine Calls.mono (DO' _ (HE.out.below hbl.out)).out ?_; rintro e y1 ⟨t1, rfl, ht1, hb⟩; clear DO'; have Y1 := Lib.hid (Bl.step hbl.out hb); have YR := Lib.hid (hr.out.stayed hb); have KQ := RO' t1 ht1.out; clear hb)
        | (go_at_call 30; refine Calls.mono (KQ _ (HE.out.below Y1.out) (HM.out.below Y1.out)).out ?_; rintro e y2 ⟨rfl, hb⟩; have Y2 := Lib.hid (Bl.step Y1.out hb); have ZR := Lib.hid (YR.out.stayed hb); clear hb))
      go_roundw
      case rel => exact ⟨6, by first | rfl | go_num | simp, by omega, ZR, Y2⟩
      case measure => simp [intOf]
    · go_wp2_with (first
        | (go_at_call 28; refine Calls.mono (DU' _ (HE.out.below hbl.out)).out ?_; rintro e y1 ⟨t1, rfl, ht1, hb⟩; clear DU'; have Y1 := Lib.hid (Bl.step hbl.out hb); have YR := Lib.hid (hr.out.stayed hb); have KQ := RU' t1 ht1.out; clear hb)
        | (go_at_call 30; refine Calls.mono (KQ _ (HE.out.below Y1.out) (HM.out.below Y1.out)).out ?_; rintro e y2 ⟨rfl, hb⟩; have Y2 := Lib.hid (Bl.step Y1.out hb); have ZR := Lib.hid (YR.out.stayed hb); clear hb))
      go_roundw
      case rel => exact ⟨7, by first | rfl | go_num | simp, by omega, ZR, Y2⟩
      case measure => simp [intOf]
    · go_wp2
      go_roundw
      case rel => exact ⟨8, by first | rfl | go_num | simp, by omega, hr, hbl⟩
      case measure => simp [intOf]
    · go_wp2_with (first
        | (go_at_call 30; refine Calls.mono (KF' _ (HE.out.below hbl.out) (HM.out.below hbl.out)).out ?_; rintro e y1 ⟨rfl, hb⟩; have Y1 := Lib.hid (Bl.step hbl.out hb); clear hb)
        | (go_at_call 23; refine Calls.mono (KZ _ (HE.out.below Y1.out)).out ?_; rintro e wz ⟨rfl, hb⟩; have BZ := Lib.hid (Bl.step Y1.out hb); clear hb))
      go_ret
      exact ⟨by first | rfl | simp, BZ.out⟩
set_option maxHeartbeats 16000000 in
theorem crb_ndO (n d0 X y t m k m0 k0 p q r v : Int) (s : ByteArray) (lB lI lN lS lE lO lU lD : List UInt8) (w : World) (hE : Env w) (hM : HasMax w) (hs : ¬ (100 : Int) < (s.size : Int))
    (DB : ∀ W, Env W → Calls Tryz.prog 28 #[.int .i64 n, .int .u8 66] W (GivesSE W lB))
    (RB : ∀ (t : ByteArray), bts t = lB → ∀ W, Env W → HasMax W → Calls Tryz.prog 30 #[.string t, .int .u8 66, .int .i64 d0] W (Gives W #[.int .i64 n, .int .i64 0]))
    (DI : ∀ W, Env W → Calls Tryz.prog 28 #[.int .i64 n, .int .u8 73] W (GivesSE W lI))
    (RI : ∀ (t : ByteArray), bts t = lI → ∀ W, Env W → HasMax W → Calls Tryz.prog 30 #[.string t, .int .u8 73, .int .i64 d0] W (Gives W #[.int .i64 n, .int .i64 0]))
    (DN : ∀ W, Env W → Calls Tryz.prog 28 #[.int .i64 n, .int .u8 78] W (GivesSE W lN))
    (RN : ∀ (t : ByteArray), bts t = lN → ∀ W, Env W → HasMax W → Calls Tryz.prog 30 #[.string t, .int .u8 78, .int .i64 d0] W (Gives W #[.int .i64 n, .int .i64 0]))
    (DS : ∀ W, Env W → Calls Tryz.prog 28 #[.int .i64 n, .int .u8 83] W (GivesSE W lS))
    (RS : ∀ (t : ByteArray), bts t = lS → ∀ W, Env W → HasMax W → Calls Tryz.prog 30 #[.string t, .int .u8 83, .int .i64 d0] W (Gives W #[.int .i64 n, .int .i64 0]))
    (DE : ∀ W, Env W → Calls Tryz.prog 28 #[.int .i64 n, .int .u8 69] W (GivesSE W lE))
    (RE : ∀ (t : ByteArray), bts t = lE → ∀ W, Env W → HasMax W → Calls Tryz.prog 30 #[.string t, .int .u8 69, .int .i64 d0] W (Gives W #[.int .i64 n, .int .i64 0]))
    (DO : ∀ W, Env W → Calls Tryz.prog 28 #[.int .i64 n, .int .u8 79] W (GivesSE W lO))
    (RO : ∀ (t : ByteArray), bts t = lO → ∀ W, Env W → HasMax W → Calls Tryz.prog 30 #[.string t, .int .u8 79, .int .i64 d0] W (Gives W #[.int .i64 n, .int .i64 0]))
    (DU : ∀ W, Env W → Calls Tryz.prog 28 #[.int .i64 n, .int .u8 85] W (GivesSE W lU))
    (RU : ∀ (t : ByteArray), bts t = lU → ∀ W, Env W → HasMax W → Calls Tryz.prog 30 #[.string t, .int .u8 85, .int .i64 d0] W (Gives W #[.int .i64 n, .int .i64 0]))
    (DD : ∀ W, Env W → Calls Tryz.prog 28 #[.int .i64 n, .int .u8 68] W (GivesSE W lD))
    (f1 : IntKind.i64.wrap (y - t) = p) (f2 : wrap64 (y - t) = p) (f3 : IntKind.i64.wrap (t - y) = q) (f4 : wrap64 (t - y) = q) (f5 : max p q = r)
    (f6 : ¬ 50 ≤ r) (f7 : decide (50 ≤ r) = false)
    (f8 : (y != t) = true)
    (KA : ∀ W, Calls Tryz.prog 17 #[.int .i64 n] W (Gives W #[.int .i64 y, .int .i64 m, .int .i64 k, .int .i64 0]))
    (KT : ∀ W, Calls Tryz.prog 17 #[.int .i64 d0] W (Gives W #[.int .i64 t, .int .i64 m0, .int .i64 k0, .int .i64 0]))
    (KF : ∀ W, Env W → HasMax W → Calls Tryz.prog 30 #[.string s, .int .u8 X, .int .i64 d0] W (Gives W #[.int .i64 v, .int .i64 0])) (KG : ∀ W, Env W → Calls Tryz.prog 28 #[.int .i64 v, .int .u8 X] W (GivesSE W (bts s))) :
    Calls Tryz.prog 10 #[.int .i64 n, .int .i64 d0, .string s, .int .u8 X] w fun e w' => e = .returned (.bool true) ∧ Below w.heap.size w w' := by
  have DB' := fun W (hW : Env W) => Lib.hid (DB W hW)
  have RB' := fun t ht W (hW : Env W) (hV : HasMax W) => Lib.hid (RB t ht W hW hV)
  have DI' := fun W (hW : Env W) => Lib.hid (DI W hW)
  have RI' := fun t ht W (hW : Env W) (hV : HasMax W) => Lib.hid (RI t ht W hW hV)
  have DN' := fun W (hW : Env W) => Lib.hid (DN W hW)
  have RN' := fun t ht W (hW : Env W) (hV : HasMax W) => Lib.hid (RN t ht W hW hV)
  have DS' := fun W (hW : Env W) => Lib.hid (DS W hW)
  have RS' := fun t ht W (hW : Env W) (hV : HasMax W) => Lib.hid (RS t ht W hW hV)
  have DE' := fun W (hW : Env W) => Lib.hid (DE W hW)
  have RE' := fun t ht W (hW : Env W) (hV : HasMax W) => Lib.hid (RE t ht W hW hV)
  have DO' := fun W (hW : Env W) => Lib.hid (DO W hW)
  have RO' := fun t ht W (hW : Env W) (hV : HasMax W) => Lib.hid (RO t ht W hW hV)
  have DU' := fun W (hW : Env W) => Lib.hid (DU W hW)
  have RU' := fun t ht W (hW : Env W) (hV : HasMax W) => Lib.hid (RU t ht W hW hV)
  have DD' := fun W (hW : Env W) => Lib.hid (DD W hW)
  have KA' := fun W => Lib.hid (KA W)
  have KT' := fun W => Lib.hid (KT W)
  have KF' := fun W (hW : Env W) (hV : HasMax W) => Lib.hid (KF W hW hV)
  have KG' := fun W (hW : Env W) => Lib.hid (KG W hW)
  have KZ := fun W (hW : Env W) => Lib.hid (sane_any W hW)
  have HE := Lib.hid hE
  have HM := Lib.hid hM
  have hcv := fun (W : World) => Lib.run_convert_bytes_const (P := Tryz.prog) W 64 5 #[.int .u8 66, .int .u8 73, .int .u8 78, .int .u8 83, .int .u8 69, .int .u8 79, .int .u8 85, .int .u8 68] 8 8 Tryz.underlying64 Tryz.underlying5
  clear hE hM KA KT KF KG DB DI DN DS DE DO DU DD RB RI RN RS RE RO RU
  have B0 := Lib.hid (Below.refl w.heap.size w)
  go_enter Tryz.func10, Tryz.ntmps10
  go_wp2_with (first
    | (go_at_call 17; (with_reducible refine Calls.mono (KA' _).out ?_); clear KA'; rintro e w1 ⟨rfl, hb⟩; have B1 := Lib.hid (Bl.step B0.out hb); clear hb)
    | (go_at_call 17; (with_reducible refine Calls.mono (KT' _).out ?_); clear KT'; rintro e w2 ⟨rfl, hb⟩; have B2 := Lib.hid (Bl.step B1.out hb); clear hb))
  go_loopw [18, 19, 20, 21, 22, 56] (fun _ _ _ _ _ v wr => ∃ k : Int, v = .int .i64 k ∧ (k = 0 ∨ k = 1 ∨ k = 2 ∨ k = 3 ∨ k = 4 ∨ k = 5 ∨ k = 6 ∨ k = 7 ∨ k = 8) ∧ Hid (Row8 wr w2.heap.size) ∧ Hid (Below w.heap.size w wr)) (fun _ _ _ _ _ v _ => (8 - intOf v).toNat)
  case atStart => exact ⟨0, rfl, Or.inl rfl, Lib.hid (Row8.new _), Lib.hid (Bl.alloc B2.out _)⟩
  case round =>
    obtain ⟨k, rfl, hk, hr, hbl⟩ := hrel
    have rr0 := hr.out.c0
    have rr1 := hr.out.c1
    have rr2 := hr.out.c2
    have rr3 := hr.out.c3
    have rr4 := hr.out.c4
    have rr5 := hr.out.c5
    have rr6 := hr.out.c6
    have rr7 := hr.out.c7
    rcases hk with rfl | rfl | rfl | rfl | rfl | rfl | rfl | rfl | rfl
    · go_wp2_with (first
        | (go_at_call 28; refine Calls.mono (DB' _ (HE.out.below hbl.out)).out ?_; rintro e y1 ⟨t1, rfl, ht1, hb⟩; clear DB'; have Y1 := Lib.hid (Bl.step hbl.out hb); have YR := Lib.hid (hr.out.stayed hb); have KQ := RB' t1 ht1.out; clear hb)
        | (go_at_call 30; refine Calls.mono (KQ _ (HE.out.below Y1.out) (HM.out.below Y1.out)).out ?_; rintro e y2 ⟨rfl, hb⟩; have Y2 := Lib.hid (Bl.step Y1.out hb); have ZR := Lib.hid (YR.out.stayed hb); clear hb))
      go_roundw
      case rel => exact ⟨1, by first | rfl | go_num | simp, by omega, ZR, Y2⟩
      case measure => simp [intOf]
    · go_wp2_with (first
        | (go_at_call 28; refine Calls.mono (DI' _ (HE.out.below hbl.out)).out ?_; rintro e y1 ⟨t1, rfl, ht1, hb⟩; clear DI'; have Y1 := Lib.hid (Bl.step hbl.out hb); have YR := Lib.hid (hr.out.stayed hb); have KQ := RI' t1 ht1.out; clear hb)
        | (go_at_call 30; refine Calls.mono (KQ _ (HE.out.below Y1.out) (HM.out.below Y1.out)).out ?_; rintro e y2 ⟨rfl, hb⟩; have Y2 := Lib.hid (Bl.step Y1.out hb); have ZR := Lib.hid (YR.out.stayed hb); clear hb))
      go_roundw
      case rel => exact ⟨2, by first | rfl | go_num | simp, by omega, ZR, Y2⟩
      case measure => simp [intOf]
    · go_wp2_with (first
        | (go_at_call 28; refine Calls.mono (DN' _ (HE.out.below hbl.out)).out ?_; rintro e y1 ⟨t1, rfl, ht1, hb⟩; clear DN'; have Y1 := Lib.hid (Bl.step hbl.out hb); have YR := Lib.hid (hr.out.stayed hb); have KQ := RN' t1 ht1.out; clear hb)
        | (go_at_call 30; refine Calls.mono (KQ _ (HE.out.below Y1.out) (HM.out.below Y1.out)).out ?_; rintro e y2 ⟨rfl, hb⟩; have Y2 := Lib.hid (Bl.step Y1.out hb); have ZR := Lib.hid (YR.out.stayed hb); clear hb))
      go_roundw
      case rel => exact ⟨3, by first | rfl | go_num | simp, by omega, ZR, Y2⟩
      case measure => simp [intOf]
    · go_wp2_with (first
        | (go_at_call 28; refine Calls.mono (DS' _ (HE.out.below hbl.out)).out ?_; rintro e y1 ⟨t1, rfl, ht1, hb⟩; clear DS'; have Y1 := Lib.hid (Bl.step hbl.out hb); have YR := Lib.hid (hr.out.stayed hb); have KQ := RS' t1 ht1.out; clear hb)
        | (go_at_call 30; refine Calls.mono (KQ _ (HE.out.below Y1.out) (HM.out.below Y1.out)).out ?_; rintro e y2 ⟨rfl, hb⟩; have Y2 := Lib.hid (Bl.step Y1.out hb); have ZR := Lib.hid (YR.out.stayed hb); clear hb))
      go_roundw
      case rel => exact ⟨4, by first | rfl | go_num | simp, by omega, ZR, Y2⟩
      case measure => simp [intOf]
    · go_wp2_with (first
        | (go_at_call 28; refine Calls.mono (DE' _ (HE.out.below hbl.out)).out ?_; rintro e y1 ⟨t1, rfl, ht1, hb⟩; clear DE'; have Y1 := Lib.hid (Bl.step hbl.out hb); have YR := Lib.hid (hr.out.stayed hb); have KQ := RE' t1 ht1.out; clear hb)
        | (go_at_call 30; refine Calls.mono (KQ _ (HE.out.below Y1.out) (HM.out.below Y1.out)).out ?_; rintro e y2 ⟨rfl, hb⟩; have Y2 := Lib.hid (Bl.step Y1.out hb); have ZR := Lib.hid (YR.out.stayed hb); clear hb))
      go_roundw
      case rel => exact ⟨5, by first | rfl | go_num | simp, by omega, ZR, Y2⟩
      case measure => simp [intOf]
    · go_wp2_with (first
        | (go_at_call 28; refine Calls.mono (DO' _ (HE.out.below hbl.out)).out ?_; rintro e y1 ⟨t1, rfl, ht1, hb⟩; clear DO'; have Y1 := Lib.hid (Bl.step hbl.out hb); have YR := Lib.hid (hr.out.stayed hb); have KQ := RO' t1 ht1.out; clear hb)
        | (go_at_call 30; refine Calls.mono (KQ _ (HE.out.below Y1.out) (HM.out.below Y1.out)).out ?_; rintro e y2 ⟨rfl, hb⟩; have Y2 := Lib.hid (Bl.step Y1.out hb); have ZR := Lib.hid (YR.out.stayed hb); clear hb))
      go_roundw
      case rel => exact ⟨6, by first | rfl | go_num | simp, by omega, ZR, Y2⟩
      case measure => simp [intOf]
    · go_wp2_with (first
        | (go_at_call 28; refine Calls.mono (DU' _ (HE.out.below hbl.out)).out ?_; rintro e y1 ⟨t1, rfl, ht1, hb⟩; clear DU'; have Y1 := Lib.hid (Bl.step hbl.out hb); have YR := Lib.hid (hr.out.stayed hb); have KQ := RU' t1 ht1.out; clear hb)
        | (go_at_call 30; refine Calls.mono (KQ _ (HE.out.below Y1.out) (HM.out.below Y1.out)).out ?_; rintro e y2 ⟨rfl, hb⟩; have Y2 := Lib.hid (Bl.step Y1.out hb); have ZR := Lib.hid (YR.out.stayed hb); clear hb))
      go_roundw
      case rel => exact ⟨7, by first | rfl | go_num | simp, by omega, ZR, Y2⟩
      case measure => simp [intOf]
    · go_wp2
      go_roundw
      case rel => exact ⟨8, by first | rfl | go_num | simp, by omega, hr, hbl⟩
      case measure => simp [intOf]
    · go_wp2_with (first
        | (go_at_call 30; refine Calls.mono (KF' _ (HE.out.below hbl.out) (HM.out.below hbl.out)).out ?_; rintro e y1 ⟨rfl, hb⟩; have Y1 := Lib.hid (Bl.step hbl.out hb); clear hb)
        | (go_at_call 28; refine Calls.mono (KG' _ (HE.out.below Y1.out)).out ?_; rintro e y2 ⟨t2, rfl, ht2, hb⟩; obtain rfl : t2 = s := bts_inj ht2.out; have Y2 := Lib.hid (Bl.step Y1.out hb); clear hb)
        | (go_at_call 23; refine Calls.mono (KZ _ (HE.out.below Y2.out)).out ?_; rintro e wz ⟨rfl, hb⟩; have BZ := Lib.hid (Bl.step Y2.out hb); clear hb))
      go_ret
      exact ⟨by first | rfl | simp, BZ.out⟩
set_option maxHeartbeats 16000000 in
theorem crb_fdE (n d0 X y t m k m0 k0 p q r v g : Int) (s : ByteArray) (lB lI lN lS lE lO lU lD : List UInt8) (w : World) (hE : Env w) (hM : HasMax w) (hs : ¬ (100 : Int) < (s.size : Int))
    (DB : ∀ W, Env W → Calls Tryz.prog 28 #[.int .i64 n, .int .u8 66] W (GivesSE W lB))
    (RB : ∀ (t : ByteArray), bts t = lB → ∀ W, Env W → HasMax W → Calls Tryz.prog 30 #[.string t, .int .u8 66, .int .i64 d0] W (Gives W #[.int .i64 n, .int .i64 0]))
    (DI : ∀ W, Env W → Calls Tryz.prog 28 #[.int .i64 n, .int .u8 73] W (GivesSE W lI))
    (RI : ∀ (t : ByteArray), bts t = lI → ∀ W, Env W → HasMax W → Calls Tryz.prog 30 #[.string t, .int .u8 73, .int .i64 d0] W (Gives W #[.int .i64 n, .int .i64 0]))
    (DN : ∀ W, Env W → Calls Tryz.prog 28 #[.int .i64 n, .int .u8 78] W (GivesSE W lN))
    (RN : ∀ (t : ByteArray), bts t = lN → ∀ W, Env W → HasMax W → Calls Tryz.prog 30 #[.string t, .int .u8 78, .int .i64 d0] W (Gives W #[.int .i64 n, .int .i64 0]))
    (DS : ∀ W, Env W → Calls Tryz.prog 28 #[.int .i64 n, .int .u8 83] W (GivesSE W lS))
    (RS : ∀ (t : ByteArray), bts t = lS → ∀ W, Env W → HasMax W → Calls Tryz.prog 30 #[.string t, .int .u8 83, .int .i64 d0] W (Gives W #[.int .i64 n, .int .i64 0]))
    (DE : ∀ W, Env W → Calls Tryz.prog 28 #[.int .i64 n, .int .u8 69] W (GivesSE W lE))
    (DO : ∀ W, Env W → Calls Tryz.prog 28 #[.int .i64 n, .int .u8 79] W (GivesSE W lO))
    (DU : ∀ W, Env W → Calls Tryz.prog 28 #[.int .i64 n, .int .u8 85] W (GivesSE W lU))
    (DD : ∀ W, Env W → Calls Tryz.prog 28 #[.int .i64 n, .int .u8 68] W (GivesSE W lD))
    (f1 : IntKind.i64.wrap (y - t) = p) (f2 : wrap64 (y - t) = p) (f3 : IntKind.i64.wrap (t - y) = q) (f4 : wrap64 (t - y) = q) (f5 : max p q = r)
    (f6 : 50 ≤ r) (f7 : decide (50 ≤ r) = true)
    (f8 : (y != t) = true)
    (KA : ∀ W, Calls Tryz.prog 17 #[.int .i64 n] W (Gives W #[.int .i64 y, .int .i64 m, .int .i64 k, .int .i64 0]))
    (KT : ∀ W, Calls Tryz.prog 17 #[.int .i64 d0] W (Gives W #[.int .i64 t, .int .i64 m0, .int .i64 k0, .int .i64 0]))
    (KF : ∀ W, Env W → HasMax W → Calls Tryz.prog 30 #[.string s, .int .u8 X, .int .i64 d0] W (Gives W #[.int .i64 v, .int .i64 g])) (g1 : (g == 0) = false) (g2 : ¬ g = 0) :
    Calls Tryz.prog 10 #[.int .i64 n, .int .i64 d0, .string s, .int .u8 X] w fun e w' => e = .returned (.bool true) ∧ Below w.heap.size w w' := by
  have DB' := fun W (hW : Env W) => Lib.hid (DB W hW)
  have RB' := fun t ht W (hW : Env W) (hV : HasMax W) => Lib.hid (RB t ht W hW hV)
  have DI' := fun W (hW : Env W) => Lib.hid (DI W hW)
  have RI' := fun t ht W (hW : Env W) (hV : HasMax W) => Lib.hid (RI t ht W hW hV)
  have DN' := fun W (hW : Env W) => Lib.hid (DN W hW)
  have RN' := fun t ht W (hW : Env W) (hV : HasMax W) => Lib.hid (RN t ht W hW hV)
  have DS' := fun W (hW : Env W) => Lib.hid (DS W hW)
  have RS' := fun t ht W (hW : Env W) (hV : HasMax W) => Lib.hid (RS t ht W hW hV)
  have DE' := fun W (hW : Env W) => Lib.hid (DE W hW)
  have DO' := fun W (hW : Env W) => Lib.hid (DO W hW)
  have DU' := fun W (hW : Env W) => Lib.hid (DU W hW)
  have DD' := fun W (hW : Env W) => Lib.hid (DD W hW)
  have KA' := fun W => Lib.hid (KA W)
  have KT' := fun W => Lib.hid (KT W)
  have KF' := fun W (hW : Env W) (hV : HasMax W) => Lib.hid (KF W hW hV)
  have KZ := fun W (hW : Env W) => Lib.hid (sane_any W hW)
  have HE := Lib.hid hE
  have HM := Lib.hid hM
  have hcv := fun (W : World) => Lib.run_convert_bytes_const (P := Tryz.prog) W 64 5 #[.int .u8 66, .int .u8 73, .int .u8 78, .int .u8 83, .int .u8 69, .int .u8 79, .int .u8 85, .int .u8 68] 8 8 Tryz.underlying64 Tryz.underlying5
  clear hE hM KA KT KF DB DI DN DS DE DO DU DD RB RI RN RS
  have B0 := Lib.hid (Below.refl w.heap.size w)
  go_enter Tryz.func10, Tryz.ntmps10
  go_wp2_with (first
    | (go_at_call 17; (with_reducible refine Calls.mono (KA' _).out ?_); clear KA'; rintro e w1 ⟨rfl, hb⟩; have B1 := Lib.hid (Bl.step B0.out hb); clear hb)
    | (go_at_call 17; (with_reducible refine Calls.mono (KT' _).out ?_); clear KT'; rintro e w2 ⟨rfl, hb⟩; have B2 := Lib.hid (Bl.step B1.out hb); clear hb))
  go_loopw [18, 19, 20, 21, 22, 56] (fun _ _ _ _ _ v wr => ∃ k : Int, v = .int .i64 k ∧ (k = 0 ∨ k = 1 ∨ k = 2 ∨ k = 3 ∨ k = 4 ∨ k = 5 ∨ k = 6 ∨ k = 7 ∨ k = 8) ∧ Hid (Row8 wr w2.heap.size) ∧ Hid (Below w.heap.size w wr)) (fun _ _ _ _ _ v _ => (8 - intOf v).toNat)
  case atStart => exact ⟨0, rfl, Or.inl rfl, Lib.hid (Row8.new _), Lib.hid (Bl.alloc B2.out _)⟩
  case round =>
    obtain ⟨k, rfl, hk, hr, hbl⟩ := hrel
    have rr0 := hr.out.c0
    have rr1 := hr.out.c1
    have rr2 := hr.out.c2
    have rr3 := hr.out.c3
    have rr4 := hr.out.c4
    have rr5 := hr.out.c5
    have rr6 := hr.out.c6
    have rr7 := hr.out.c7
    rcases hk with rfl | rfl | rfl | rfl | rfl | rfl | rfl | rfl | rfl
    · go_wp2_with (first
        | (go_at_call 28; refine Calls.mono (DB' _ (HE.out.below hbl.out)).out ?_; rintro e y1 ⟨t1, rfl, ht1, hb⟩; clear DB'; have Y1 := Lib.hid (Bl.step hbl.out hb); have YR := Lib.hid (hr.out.stayed hb); have KQ := RB' t1 ht1.out; clear hb)
        | (go_at_call 30; refine Calls.mono (KQ _ (HE.out.below Y1.out) (HM.out.below Y1.out)).out ?_; rintro e y2 ⟨rfl, hb⟩; have Y2 := Lib.hid (Bl.step Y1.out hb); have ZR := Lib.hid (YR.out.stayed hb); clear hb))
      go_roundw
      case rel => exact ⟨1, by first | rfl | go_num | simp, by omega, ZR, Y2⟩
      case measure => simp [intOf]
    · go_wp2_with (first
        | (go_at_call 28; refine Calls.mono (DI' _ (HE.out.below hbl.out)).out ?_; rintro e y1 ⟨t1, rfl, ht1, hb⟩; clear DI'; have Y1 := Lib.hid (Bl.step hbl.out hb); have YR := Lib.hid (hr.out.stayed hb); have KQ := RI' t1 ht1.out; clear hb)
        | (go_at_call 30; refine Calls.mono (KQ _ (HE.out.below Y1.out) (HM.out.below Y1.out)).out ?_; rintro e y2 ⟨rfl, hb⟩; have Y2 := Lib.hid (Bl.step Y1.out hb); have ZR := Lib.hid (YR.out.stayed hb); clear hb))
      go_roundw
      case rel => exact ⟨2, by first | rfl | go_num | simp, by omega, ZR, Y2⟩
      case measure => simp [intOf]
    · go_wp2_with (first
        | (go_at_call 28; refine Calls.mono (DN' _ (HE.out.below hbl.out)).out ?_; rintro e y1 ⟨t1, rfl, ht1, hb⟩; clear DN'; have Y1 := Lib.hid (Bl.step hbl.out hb); have YR := Lib.hid (hr.out.stayed hb); have KQ := RN' t1 ht1.out; clear hb)
        | (go_at_call 30; refine Calls.mono (KQ _ (HE.out.below Y1.out) (HM.out.below Y1.out)).out ?_; rintro e y2 ⟨rfl, hb⟩; have Y2 := Lib.hid (Bl.step Y1.out hb); have ZR := Lib.hid (YR.out.stayed hb); clear hb))
      go_roundw
      case rel => exact ⟨3, by first | rfl | go_num | simp, by omega, ZR, Y2⟩
      case measure => simp [intOf]
    · go_wp2_with (first
        | (go_at_call 28; refine Calls.mono (DS' _ (HE.out.below hbl.out)).out ?_; rintro e y1 ⟨t1, rfl, ht1, hb⟩; clear DS'; have Y1 := Lib.hid (Bl.step hbl.out hb); have YR := Lib.hid (hr.out.stayed hb); have KQ := RS' t1 ht1.out; clear hb)
        | (go_at_call 30; refine Calls.mono (KQ _ (HE.out.below Y1.out) (HM.out.below Y1.out)).out ?_; rintro e y2 ⟨rfl, hb⟩; have Y2 := Lib.hid (Bl.step Y1.out hb); have ZR := Lib.hid (YR.out.stayed hb); clear hb))
      go_roundw
      case rel => exact ⟨4, by first | rfl | go_num | simp, by omega, ZR, Y2⟩
      case measure => simp [intOf]
    · go_wp2
      go_roundw
      case rel => exact ⟨5, by first | rfl | go_num | simp, by omega, hr, hbl⟩
      case measure => simp [intOf]
    · go_wp2
      go_roundw
      case rel => exact ⟨6, by first | rfl | go_num | simp, by omega, hr, hbl⟩
      case measure => simp [intOf]
    · go_wp2
      go_roundw
      case rel => exact ⟨7, by first | rfl | go_num | simp, by omega, hr, hbl⟩
      case measure => simp [intOf]
    · go_wp2
      go_roundw
      case rel => exact ⟨8, by first | rfl | go_num | simp, by omega, hr, hbl⟩
      case measure => simp [intOf]
    · go_wp2_with (first
        | (go_at_call 30; refine Calls.mono (KF' _ (HE.out.below hbl.out) (HM.out.below hbl.out)).out ?_; rintro e y1 ⟨rfl, hb⟩; have Y1 := Lib.hid (Bl.step hbl.out hb); clear hb)
        | (go_at_call 23; refine Calls.mono (KZ _ (HE.out.below Y1.out)).out ?_; rintro e wz ⟨rfl, hb⟩; have BZ := Lib.hid (Bl.step Y1.out hb); clear hb))
      go_ret
      exact ⟨by first | rfl | simp, BZ.out⟩
set_option maxHeartbeats 16000000 in
theorem crb_fdO (n d0 X y t m k m0 k0 p q r v : Int) (s : ByteArray) (lB lI lN lS lE lO lU lD : List UInt8) (w : World) (hE : Env w) (hM : HasMax w) (hs : ¬ (100 : Int) < (s.size : Int))
    (DB : ∀ W, Env W → Calls Tryz.prog 28 #[.int .i64 n, .int .u8 66] W (GivesSE W lB))
    (RB : ∀ (t : ByteArray), bts t = lB → ∀ W, Env W → HasMax W → Calls Tryz.prog 30 #[.string t, .int .u8 66, .int .i64 d0] W (Gives W #[.int .i64 n, .int .i64 0]))
    (DI : ∀ W, Env W → Calls Tryz.prog 28 #[.int .i64 n, .int .u8 73] W (GivesSE W lI))
    (RI : ∀ (t : ByteArray), bts t = lI → ∀ W, Env W → HasMax W → Calls Tryz.prog 30 #[.string t, .int .u8 73, .int .i64 d0] W (Gives W #[.int .i64 n, .int .i64 0]))
    (DN : ∀ W, Env W → Calls Tryz.prog 28 #[.int .i64 n, .int .u8 78] W (GivesSE W lN))
    (RN : ∀ (t : ByteArray), bts t = lN → ∀ W, Env W → HasMax W → Calls Tryz.prog 30 #[.string t, .int .u8 78, .int .i64 d0] W (Gives W #[.int .i64 n, .int .i64 0]))
    (DS : ∀ W, Env W → Calls Tryz.prog 28 #[.int .i64 n, .int .u8 83] W (GivesSE W lS))
    (RS : ∀ (t : ByteArray), bts t = lS → ∀ W, Env W → HasMax W → Calls Tryz.prog 30 #[.string t, .int .u8 83, .int .i64 d0] W (Gives W #[.int .i64 n, .int .i64 0]))
    (DE : ∀ W, Env W → Calls Tryz.prog 28 #[.int .i64 n, .int .u8 69] W (GivesSE W lE))
    (DO : ∀ W, Env W → Calls Tryz.prog 28 #[.int .i64 n, .int .u8 79] W (GivesSE W lO))
    (DU : ∀ W, Env W → Calls Tryz.prog 28 #[.int .i64 n, .int .u8 85] W (GivesSE W lU))
    (DD : ∀ W, Env W → Calls Tryz.prog 28 #[.int .i64 n, .int .u8 68] W (GivesSE W lD))
    (f1 : IntKind.i64.wrap (y - t) = p) (f2 : wrap64 (y - t) = p) (f3 : IntKind.i64.wrap (t - y) = q) (f4 : wrap64 (t - y) = q) (f5 : max p q = r)
    (f6 : 50 ≤ r) (f7 : decide (50 ≤ r) = true)
    (f8 : (y != t) = true)
    (KA : ∀ W, Calls Tryz.prog 17 #[.int .i64 n] W (Gives W #[.int .i64 y, .int .i64 m, .int .i64 k, .int .i64 0]))
    (KT : ∀ W, Calls Tryz.prog 17 #[.int .i64 d0] W (Gives W #[.int .i64 t, .int .i64 m0, .int .i64 k0, .int .i64 0]))
    (KF : ∀ W, Env W → HasMax W → Calls Tryz.prog 30 #[.string s, .int .u8 X, .int .i64 d0] W (Gives W #[.int .i64 v, .int .i64 0])) (KG : ∀ W, Env W → Calls Tryz.prog 28 #[.int .i64 v, .int .u8 X] W (GivesSE W (bts s))) :
    Calls Tryz.prog 10 #[.int .i64 n, .int .i64 d0, .string s, .int .u8 X] w fun e w' => e = .returned (.bool true) ∧ Below w.heap.size w w' := by
  have DB' := fun W (hW : Env W) => Lib.hid (DB W hW)
  have RB' := fun t ht W (hW : Env W) (hV : HasMax W) => Lib.hid (RB t ht W hW hV)
  have DI' := fun W (hW : Env W) => Lib.hid (DI W hW)
  have RI' := fun t ht W (hW : Env W) (hV : HasMax W) => Lib.hid (RI t ht W hW hV)
  have DN' := fun W (hW : Env W) => Lib.hid (DN W hW)
  have RN' := fun t ht W (hW : Env W) (hV : HasMax W) => Lib.hid (RN t ht W hW hV)
  have DS' := fun W (hW : Env W) => Lib.hid (DS W hW)
  have RS' := fun t ht W (hW : Env W) (hV : HasMax W) => Lib.hid (RS t ht W hW hV)
  have DE' := fun W (hW : Env W) => Lib.hid (DE W hW)
  have DO' := fun W (hW : Env W) => Lib.hid (DO W hW)
  have DU' := fun W (hW : Env W) => Lib.hid (DU W hW)
  have DD' := fun W (hW : Env W) => Lib.hid (DD W hW)
  have KA' := fun W => Lib.hid (KA W)
  have KT' := fun W => Lib.hid (KT W)
  have KF' := fun W (hW : Env W) (hV : HasMax W) => Lib.hid (KF W hW hV)
  have KG' := fun W (hW : Env W) => Lib.hid (KG W hW)
  have KZ := fun W (hW : Env W) => Lib.hid (sane_any W hW)
  have HE := Lib.hid hE
  have HM := Lib.hid hM
  have hcv := fun (W : World) => Lib.run_convert_bytes_const (P := Tryz.prog) W 64 5 #[.int .u8 66, .int .u8 73, .int .u8 78, .int .u8 83, .int .u8 69, .int .u8 79, .int .u8 85, .int .u8 68] 8 8 Tryz.underlying64 Tryz.underlying5
  clear hE hM KA KT KF KG DB DI DN DS DE DO DU DD RB RI RN RS
  have B0 := Lib.hid (Below.refl w.heap.size w)
  go_enter Tryz.func10, Tryz.ntmps10
  go_wp2_with (first
    | (go_at_call 17; (with_reducible refine Calls.mono (KA' _).out ?_); clear KA'; rintro e w1 ⟨rfl, hb⟩; have B1 := Lib.hid (Bl.step B0.out hb); clear hb)
    | (go_at_call 17; (with_reducible refine Calls.mono (KT' _).out ?_); clear KT'; rintro e w2 ⟨rfl, hb⟩; have B2 := Lib.hid (Bl.step B1.out hb); clear hb))
  go_loopw [18, 19, 20, 21, 22, 56] (fun _ _ _ _ _ v wr => ∃ k : Int, v = .int .i64 k ∧ (k = 0 ∨ k = 1 ∨ k = 2 ∨ k = 3 ∨ k = 4 ∨ k = 5 ∨ k = 6 ∨ k = 7 ∨ k = 8) ∧ Hid (Row8 wr w2.heap.size) ∧ Hid (Below w.heap.size w wr)) (fun _ _ _ _ _ v _ => (8 - intOf v).toNat)
  case atStart => exact ⟨0, rfl, Or.inl rfl, Lib.hid (Row8.new _), Lib.hid (Bl.alloc B2.out _)⟩
  case round =>
    obtain ⟨k, rfl, hk, hr, hbl⟩ := hrel
    have rr0 := hr.out.c0
    have rr1 := hr.out.c1
    have rr2 := hr.out.c2
    have rr3 := hr.out.c3
    have rr4 := hr.out.c4
    have rr5 := hr.out.c5
    have rr6 := hr.out.c6
    have rr7 := hr.out.c7
    rcases hk with rfl | rfl | rfl | rfl | rfl | rfl | rfl | rfl | rfl
    · go_wp2_with (first
        | (go_at_call 28; refine Calls.mono (DB' _ (HE.out.below hbl.out)).out ?_; rintro e y1 ⟨t1, rfl, ht1, hb⟩; clear DB'; have Y1 := Lib.hid (Bl.step hbl.out hb); have YR := Lib.hid (hr.out.stayed hb); have KQ := RB' t1 ht1.out; clear hb)
        | (go_at_call 30; refine Calls.mono (KQ _ (HE.out.below Y1.out) (HM.out.below Y1.out)).out ?_; rintro e y2 ⟨rfl, hb⟩; have Y2 := Lib.hid (Bl.step Y1.out hb); have ZR := Lib.hid (YR.out.stayed hb); clear hb))
      go_roundw
      case rel => exact ⟨1, by first | rfl | go_num | simp, by omega, ZR, Y2⟩
      case measure => simp [intOf]
    · go_wp2_with (first
        | (go_at_call 28; refine Calls.mono (DI' _ (HE.out.below hbl.out)).out ?_; rintro e y1 ⟨t1, rfl, ht1, hb⟩; clear DI'; have Y1 := Lib.hid (Bl.step hbl.out hb); have YR := Lib.hid (hr.out.stayed hb); have KQ := RI' t1 ht1.out; clear hb)
        | (go_at_call 30; refine Calls.mono (KQ _ (HE.out.below Y1.out) (HM.out.below Y1.out)).out ?_; rintro e y2 ⟨rfl, hb⟩; have Y2 := Lib.hid (Bl.step Y1.out hb); have ZR := Lib.hid (YR.out.stayed hb); clear hb))
      go_roundw
      case rel => exact ⟨2, by first | rfl | go_num | simp, by omega, ZR, Y2⟩
      case measure => simp [intOf]
    · go_wp2_with (first
        | (go_at_call 28; refine Calls.mono (DN' _ (HE.out.below hbl.out)).out ?_; rintro e y1 ⟨t1, rfl, ht1, hb⟩; clear DN'; have Y1 := Lib.hid (Bl.step hbl.out hb); have YR := Lib.hid (hr.out.stayed hb); have KQ := RN' t1 ht1.out; clear hb)
        | (go_at_call 30; refine Calls.mono (KQ _ (HE.out.below Y1.out) (HM.out.below Y1.out)).out ?_; rintro e y2 ⟨rfl, hb⟩; have Y2 := Lib.hid (Bl.step Y1.out hb); have ZR := Lib.hid (YR.out.stayed hb); clear hb))
      go_roundw
      case rel => exact ⟨3, by first | rfl | go_num | simp, by omega, ZR, Y2⟩
      case measure => simp [intOf]
    · go_wp2_with (first
        | (go_at_call 28; refine Calls.mono (DS' _ (HE.out.below hbl.out)).out ?_; rintro e y1 ⟨t1, rfl, ht1, hb⟩; clear DS'; have Y1 := Lib.hid (Bl.step hbl.out hb); have YR := Lib.hid (hr.out.stayed hb); have KQ := RS' t1 ht1.out; clear hb)
        | (go_at_call 30; refine Calls.mono (KQ _ (HE.out.below Y1.out) (HM.out.below Y1.out)).out ?_; rintro e y2 ⟨rfl, hb⟩; have Y2 := Lib.hid (Bl.step Y1.out hb); have ZR := Lib.hid (YR.out.stayed hb); clear hb))
      go_roundw
      case rel => exact ⟨4, by first | rfl | go_num | simp, by omega, ZR, Y2⟩
      case measure => simp [intOf]
    · go_wp2
      go_roundw
      case rel => exact ⟨5, by first | rfl | go_num | simp, by omega, hr, hbl⟩
      case measure => simp [intOf]
    · go_wp2
      go_roundw
      case rel => exact ⟨6, by first | rfl | go_num | simp, by omega, hr, hbl⟩
      case measure => simp [intOf]
    · go_wp2
      go_roundw
      case rel => exact ⟨7, by first | rfl | go_num | simp, by omega, hr, hbl⟩
      case measure => simp [intOf]
    · go_wp2
      go_roundw
      case rel => exact ⟨8, by first | rfl | go_num | simp, by omega, hr, hbl⟩
      case measure => simp [intOf]
    · go_wp2_with (first
        | (go_at_call 30; refine Calls.mono (KF' _ (HE.out.below hbl.out) (HM.out.below hbl.out)).out ?_; rintro e y1 ⟨rfl, hb⟩; have Y1 := Lib.hid (Bl.step hbl.out hb); clear hb)
        | (go_at_call 28; refine Calls.mono (KG' _ (HE.out.below Y1.out)).out ?_; rintro e y2 ⟨t2, rfl, ht2, hb⟩; obtain rfl : t2 = s := bts_inj ht2.out; have Y2 := Lib.hid (Bl.step Y1.out hb); clear hb)
        | (go_at_call 23; refine Calls.mono (KZ _ (HE.out.below Y2.out)).out ?_; rintro e wz ⟨rfl, hb⟩; have BZ := Lib.hid (Bl.step Y2.out hb); clear hb))
      go_ret
      exact ⟨by first | rfl | simp, BZ.out⟩
end Go.Proofs.YtmjifmlibgpjiaaGreatDoor
