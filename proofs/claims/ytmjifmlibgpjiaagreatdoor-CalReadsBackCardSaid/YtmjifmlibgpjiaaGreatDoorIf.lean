/- CalReadsBack, as a call: all numbers, texts and options. -/
import Derived.Test.YtmjifmlibgpjiaaGreatDoorIe
namespace Go.Proofs.YtmjifmlibgpjiaaGreatDoor
open Go.RowKit Go.Shelf Tx Go.Maps
set_option linter.unusedVariables false
set_option maxRecDepth 100000

set_option maxHeartbeats 2000000 in
theorem crb_o1 (n d0 X y t m k m0 k0 e0 f0 : Int) (s : ByteArray) (w : World) (hE : Env w) (h1 : (e0 != 0) = true) (h2 : ¬ e0 = 0)
    (KA : ∀ W, Calls Tryz.prog 17 #[.int .i64 n] W (Gives W #[.int .i64 y, .int .i64 m, .int .i64 k, .int .i64 e0])) (KT : ∀ W, Calls Tryz.prog 17 #[.int .i64 d0] W (Gives W #[.int .i64 t, .int .i64 m0, .int .i64 k0, .int .i64 f0])) : Calls Tryz.prog 10 #[.int .i64 n, .int .i64 d0, .string s, .int .u8 X] w fun e w' => e = .returned (.bool true) ∧ Below w.heap.size w w' := by
  have KA' := fun W => Lib.hid (KA W)
  have KT' := fun W => Lib.hid (KT W)
  have KZ := fun W (hW : Env W) => Lib.hid (sane_any W hW)
  have HE := Lib.hid hE
  clear hE KA KT
  have B0 := Lib.hid (Below.refl w.heap.size w)
  go_enter Tryz.func10, Tryz.ntmps10
  go_wp2_with (first
    | (go_at_call 17; (with_reducible refine Calls.mono (KA' _).out ?_); clear KA'; rintro e w1 ⟨rfl, hb⟩; have B1 := Lib.hid (Bl.step B0.out hb); clear hb)
    | (go_at_call 17; (with_reducible refine Calls.mono (KT' _).out ?_); clear KT'; rintro e w2 ⟨rfl, hb⟩; have B2 := Lib.hid (Bl.step B1.out hb); clear hb)
    | (go_at_call 23; refine Calls.mono (KZ _ (HE.out.below B2.out)).out ?_; rintro e wz ⟨rfl, hb⟩; have BZ := Lib.hid (Bl.step B2.out hb); clear hb))
  go_ret
  exact ⟨by first | rfl | simp, BZ.out⟩
set_option maxHeartbeats 2000000 in
theorem crb_o2 (n d0 X y t m k m0 k0 e0 f0 : Int) (s : ByteArray) (w : World) (hE : Env w) (h1 : (f0 != 0) = true) (h2 : ¬ f0 = 0)
    (KA : ∀ W, Calls Tryz.prog 17 #[.int .i64 n] W (Gives W #[.int .i64 y, .int .i64 m, .int .i64 k, .int .i64 0])) (KT : ∀ W, Calls Tryz.prog 17 #[.int .i64 d0] W (Gives W #[.int .i64 t, .int .i64 m0, .int .i64 k0, .int .i64 f0])) : Calls Tryz.prog 10 #[.int .i64 n, .int .i64 d0, .string s, .int .u8 X] w fun e w' => e = .returned (.bool true) ∧ Below w.heap.size w w' := by
  have KA' := fun W => Lib.hid (KA W)
  have KT' := fun W => Lib.hid (KT W)
  have KZ := fun W (hW : Env W) => Lib.hid (sane_any W hW)
  have HE := Lib.hid hE
  clear hE KA KT
  have B0 := Lib.hid (Below.refl w.heap.size w)
  go_enter Tryz.func10, Tryz.ntmps10
  go_wp2_with (first
    | (go_at_call 17; (with_reducible refine Calls.mono (KA' _).out ?_); clear KA'; rintro e w1 ⟨rfl, hb⟩; have B1 := Lib.hid (Bl.step B0.out hb); clear hb)
    | (go_at_call 17; (with_reducible refine Calls.mono (KT' _).out ?_); clear KT'; rintro e w2 ⟨rfl, hb⟩; have B2 := Lib.hid (Bl.step B1.out hb); clear hb)
    | (go_at_call 23; refine Calls.mono (KZ _ (HE.out.below B2.out)).out ?_; rintro e wz ⟨rfl, hb⟩; have BZ := Lib.hid (Bl.step B2.out hb); clear hb))
  go_ret
  exact ⟨by first | rfl | simp, BZ.out⟩
set_option maxHeartbeats 2000000 in
theorem crb_o3 (n d0 X y t m k m0 k0 e0 f0 : Int) (s : ByteArray) (w : World) (hE : Env w) (h1 : (100 : Int) < (s.size : Int))
    (KA : ∀ W, Calls Tryz.prog 17 #[.int .i64 n] W (Gives W #[.int .i64 y, .int .i64 m, .int .i64 k, .int .i64 0])) (KT : ∀ W, Calls Tryz.prog 17 #[.int .i64 d0] W (Gives W #[.int .i64 t, .int .i64 m0, .int .i64 k0, .int .i64 0])) : Calls Tryz.prog 10 #[.int .i64 n, .int .i64 d0, .string s, .int .u8 X] w fun e w' => e = .returned (.bool true) ∧ Below w.heap.size w w' := by
  have KA' := fun W => Lib.hid (KA W)
  have KT' := fun W => Lib.hid (KT W)
  have KZ := fun W (hW : Env W) => Lib.hid (sane_any W hW)
  have HE := Lib.hid hE
  clear hE KA KT
  have B0 := Lib.hid (Below.refl w.heap.size w)
  go_enter Tryz.func10, Tryz.ntmps10
  go_wp2_with (first
    | (go_at_call 17; (with_reducible refine Calls.mono (KA' _).out ?_); clear KA'; rintro e w1 ⟨rfl, hb⟩; have B1 := Lib.hid (Bl.step B0.out hb); clear hb)
    | (go_at_call 17; (with_reducible refine Calls.mono (KT' _).out ?_); clear KT'; rintro e w2 ⟨rfl, hb⟩; have B2 := Lib.hid (Bl.step B1.out hb); clear hb)
    | (go_at_call 23; refine Calls.mono (KZ _ (HE.out.below B2.out)).out ?_; rintro e wz ⟨rfl, hb⟩; have BZ := Lib.hid (Bl.step B2.out hb); clear hb))
  go_ret
  exact ⟨by first | rfl | simp, BZ.out⟩
theorem crb_in (N T Y Y0 M K M0 K0 : Nat) (x : UInt8) (s : ByteArray) (w : World) (hE : Env w) (hM : HasMax w) (hs : ¬ (100 : Int) < (s.size : Int)) (hd : IsDate N Y M K) (h9 : Y ≤ 9999) (hd0 : IsDate T Y0 M0 K0) (h90 : Y0 ≤ 9999) : Calls Tryz.prog 10 #[.int .i64 (N : Int), .int .i64 (T : Int), .string s, .int .u8 (x.toNat : Int)] w fun e w' => e = .returned (.bool true) ∧ Below w.heap.size w w' := by
  have KA := fun W => DateOf_ok N Y M K W hd h9
  have KT := fun W => DateOf_ok T Y0 M0 K0 W hd0 h90
  have f1 : IntKind.i64.wrap ((Y : Int) - (Y0 : Int)) = (Y : Int) - (Y0 : Int) := i64i' (by omega) (by omega)
  have f2 : wrap64 ((Y : Int) - (Y0 : Int)) = (Y : Int) - (Y0 : Int) := w64 (by omega) (by omega)
  have f3 : IntKind.i64.wrap ((Y0 : Int) - (Y : Int)) = (Y0 : Int) - (Y : Int) := i64i' (by omega) (by omega)
  have f4 : wrap64 ((Y0 : Int) - (Y : Int)) = (Y0 : Int) - (Y : Int) := w64 (by omega) (by omega)
  have P := readOk_any T Y0 M0 K0 x s hd0 h90 (by omega)
  by_cases e : Y0 = Y
  · have q1 : Y < Y0 + 50 := by omega
    have q2 : Y0 < Y + 50 := by omega
    have f6 : ¬ 50 ≤ max ((Y : Int) - (Y0 : Int)) ((Y0 : Int) - (Y : Int)) := by omega
    have f7 := decide_eq_false f6
    have f8 : ((Y : Int) != (Y0 : Int)) = false := by rw [e]; simp
    rcases P with ⟨v, g, KF, g1, g2⟩ | ⟨v, KF, KG⟩
    · exact crb_nsE N T (x.toNat : Int) Y Y0 M K M0 K0 _ _ _ v g s _ _ _ _ _ _ _ _ w hE hM hs (fun W hE => Date_B N Y M K W hd h9 hE) (fun t ht W hE hM => back_B T Y0 M0 K0 N Y M K hd0 h90 hd h9 t ht W hE hM) (fun W hE => Date_I N Y M K W hd h9 hE) (fun t ht W hE hM => back_I T Y0 M0 K0 N Y M K hd0 h90 hd h9 t ht W hE hM) (fun W hE => Date_N N Y M K W hd h9 hE) (fun t ht W hE hM => back_N T Y0 M0 K0 N Y M K hd0 h90 hd h9 t ht W hE hM) (fun W hE => Date_S N Y M K W hd h9 hE) (fun t ht W hE hM => back_S T Y0 M0 K0 N Y M K hd0 h90 hd h9 t ht W hE hM) (fun W hE => Date_E N Y M K W hd h9 hE) (fun t ht W hE hM => back_E T Y0 M0 K0 N Y M K hd0 h90 hd h9 q1 q2 t ht W hE hM) (fun W hE => Date_O N Y M K W hd h9 hE) (fun t ht W hE hM => back_O T Y0 M0 K0 N Y M K hd0 h90 hd h9 q1 q2 t ht W hE hM) (fun W hE => Date_U N Y M K W hd h9 hE) (fun t ht W hE hM => back_U T Y0 M0 K0 N Y M K hd0 h90 hd h9 q1 q2 t ht W hE hM) (fun W hE => Date_D N Y M K W hd h9 hE) (fun t ht W hE hM => back_D T Y0 M0 K0 N Y M K hd0 h90 hd h9 e t ht W hE hM) f1 f2 f3 f4 rfl f6 f7 f8 KA KT KF g1 g2
    · exact crb_nsO N T (x.toNat : Int) Y Y0 M K M0 K0 _ _ _ v s _ _ _ _ _ _ _ _ w hE hM hs (fun W hE => Date_B N Y M K W hd h9 hE) (fun t ht W hE hM => back_B T Y0 M0 K0 N Y M K hd0 h90 hd h9 t ht W hE hM) (fun W hE => Date_I N Y M K W hd h9 hE) (fun t ht W hE hM => back_I T Y0 M0 K0 N Y M K hd0 h90 hd h9 t ht W hE hM) (fun W hE => Date_N N Y M K W hd h9 hE) (fun t ht W hE hM => back_N T Y0 M0 K0 N Y M K hd0 h90 hd h9 t ht W hE hM) (fun W hE => Date_S N Y M K W hd h9 hE) (fun t ht W hE hM => back_S T Y0 M0 K0 N Y M K hd0 h90 hd h9 t ht W hE hM) (fun W hE => Date_E N Y M K W hd h9 hE) (fun t ht W hE hM => back_E T Y0 M0 K0 N Y M K hd0 h90 hd h9 q1 q2 t ht W hE hM) (fun W hE => Date_O N Y M K W hd h9 hE) (fun t ht W hE hM => back_O T Y0 M0 K0 N Y M K hd0 h90 hd h9 q1 q2 t ht W hE hM) (fun W hE => Date_U N Y M K W hd h9 hE) (fun t ht W hE hM => back_U T Y0 M0 K0 N Y M K hd0 h90 hd h9 q1 q2 t ht W hE hM) (fun W hE => Date_D N Y M K W hd h9 hE) (fun t ht W hE hM => back_D T Y0 M0 K0 N Y M K hd0 h90 hd h9 e t ht W hE hM) f1 f2 f3 f4 rfl f6 f7 f8 KA KT KF KG
  · have f8 : ((Y : Int) != (Y0 : Int)) = true := by rw [bne_iff_ne]; omega
    by_cases q : Y < Y0 + 50 ∧ Y0 < Y + 50
    · obtain ⟨q1, q2⟩ := q
      have f6 : ¬ 50 ≤ max ((Y : Int) - (Y0 : Int)) ((Y0 : Int) - (Y : Int)) := by omega
      have f7 := decide_eq_false f6
      rcases P with ⟨v, g, KF, g1, g2⟩ | ⟨v, KF, KG⟩
      · exact crb_ndE N T (x.toNat : Int) Y Y0 M K M0 K0 _ _ _ v g s _ _ _ _ _ _ _ _ w hE hM hs (fun W hE => Date_B N Y M K W hd h9 hE) (fun t ht W hE hM => back_B T Y0 M0 K0 N Y M K hd0 h90 hd h9 t ht W hE hM) (fun W hE => Date_I N Y M K W hd h9 hE) (fun t ht W hE hM => back_I T Y0 M0 K0 N Y M K hd0 h90 hd h9 t ht W hE hM) (fun W hE => Date_N N Y M K W hd h9 hE) (fun t ht W hE hM => back_N T Y0 M0 K0 N Y M K hd0 h90 hd h9 t ht W hE hM) (fun W hE => Date_S N Y M K W hd h9 hE) (fun t ht W hE hM => back_S T Y0 M0 K0 N Y M K hd0 h90 hd h9 t ht W hE hM) (fun W hE => Date_E N Y M K W hd h9 hE) (fun t ht W hE hM => back_E T Y0 M0 K0 N Y M K hd0 h90 hd h9 q1 q2 t ht W hE hM) (fun W hE => Date_O N Y M K W hd h9 hE) (fun t ht W hE hM => back_O T Y0 M0 K0 N Y M K hd0 h90 hd h9 q1 q2 t ht W hE hM) (fun W hE => Date_U N Y M K W hd h9 hE) (fun t ht W hE hM => back_U T Y0 M0 K0 N Y M K hd0 h90 hd h9 q1 q2 t ht W hE hM) (fun W hE => Date_D N Y M K W hd h9 hE) f1 f2 f3 f4 rfl f6 f7 f8 KA KT KF g1 g2
      · exact crb_ndO N T (x.toNat : Int) Y Y0 M K M0 K0 _ _ _ v s _ _ _ _ _ _ _ _ w hE hM hs (fun W hE => Date_B N Y M K W hd h9 hE) (fun t ht W hE hM => back_B T Y0 M0 K0 N Y M K hd0 h90 hd h9 t ht W hE hM) (fun W hE => Date_I N Y M K W hd h9 hE) (fun t ht W hE hM => back_I T Y0 M0 K0 N Y M K hd0 h90 hd h9 t ht W hE hM) (fun W hE => Date_N N Y M K W hd h9 hE) (fun t ht W hE hM => back_N T Y0 M0 K0 N Y M K hd0 h90 hd h9 t ht W hE hM) (fun W hE => Date_S N Y M K W hd h9 hE) (fun t ht W hE hM => back_S T Y0 M0 K0 N Y M K hd0 h90 hd h9 t ht W hE hM) (fun W hE => Date_E N Y M K W hd h9 hE) (fun t ht W hE hM => back_E T Y0 M0 K0 N Y M K hd0 h90 hd h9 q1 q2 t ht W hE hM) (fun W hE => Date_O N Y M K W hd h9 hE) (fun t ht W hE hM => back_O T Y0 M0 K0 N Y M K hd0 h90 hd h9 q1 q2 t ht W hE hM) (fun W hE => Date_U N Y M K W hd h9 hE) (fun t ht W hE hM => back_U T Y0 M0 K0 N Y M K hd0 h90 hd h9 q1 q2 t ht W hE hM) (fun W hE => Date_D N Y M K W hd h9 hE) f1 f2 f3 f4 rfl f6 f7 f8 KA KT KF KG
    · have f6 : 50 ≤ max ((Y : Int) - (Y0 : Int)) ((Y0 : Int) - (Y : Int)) := by omega
      have f7 := decide_eq_true f6
      rcases P with ⟨v, g, KF, g1, g2⟩ | ⟨v, KF, KG⟩
      · exact crb_fdE N T (x.toNat : Int) Y Y0 M K M0 K0 _ _ _ v g s _ _ _ _ _ _ _ _ w hE hM hs (fun W hE => Date_B N Y M K W hd h9 hE) (fun t ht W hE hM => back_B T Y0 M0 K0 N Y M K hd0 h90 hd h9 t ht W hE hM) (fun W hE => Date_I N Y M K W hd h9 hE) (fun t ht W hE hM => back_I T Y0 M0 K0 N Y M K hd0 h90 hd h9 t ht W hE hM) (fun W hE => Date_N N Y M K W hd h9 hE) (fun t ht W hE hM => back_N T Y0 M0 K0 N Y M K hd0 h90 hd h9 t ht W hE hM) (fun W hE => Date_S N Y M K W hd h9 hE) (fun t ht W hE hM => back_S T Y0 M0 K0 N Y M K hd0 h90 hd h9 t ht W hE hM) (fun W hE => Date_E N Y M K W hd h9 hE) (fun W hE => Date_O N Y M K W hd h9 hE) (fun W hE => Date_U N Y M K W hd h9 hE) (fun W hE => Date_D N Y M K W hd h9 hE) f1 f2 f3 f4 rfl f6 f7 f8 KA KT KF g1 g2
      · exact crb_fdO N T (x.toNat : Int) Y Y0 M K M0 K0 _ _ _ v s _ _ _ _ _ _ _ _ w hE hM hs (fun W hE => Date_B N Y M K W hd h9 hE) (fun t ht W hE hM => back_B T Y0 M0 K0 N Y M K hd0 h90 hd h9 t ht W hE hM) (fun W hE => Date_I N Y M K W hd h9 hE) (fun t ht W hE hM => back_I T Y0 M0 K0 N Y M K hd0 h90 hd h9 t ht W hE hM) (fun W hE => Date_N N Y M K W hd h9 hE) (fun t ht W hE hM => back_N T Y0 M0 K0 N Y M K hd0 h90 hd h9 t ht W hE hM) (fun W hE => Date_S N Y M K W hd h9 hE) (fun t ht W hE hM => back_S T Y0 M0 K0 N Y M K hd0 h90 hd h9 t ht W hE hM) (fun W hE => Date_E N Y M K W hd h9 hE) (fun W hE => Date_O N Y M K W hd h9 hE) (fun W hE => Date_U N Y M K W hd h9 hE) (fun W hE => Date_D N Y M K W hd h9 hE) f1 f2 f3 f4 rfl f6 f7 f8 KA KT KF KG
theorem dateOf_gives (n : Int) : ∃ y m k e : Int, (∀ W, Calls Tryz.prog 17 #[.int .i64 n] W (Gives W #[.int .i64 y, .int .i64 m, .int .i64 k, .int .i64 e])) ∧ ((0 ≤ n ∧ n ≤ 3652058 ∧ e = 0) ∨ (¬ (0 ≤ n ∧ n ≤ 3652058) ∧ e = 1)) := by
  by_cases h : 0 ≤ n ∧ n ≤ 3652058
  · obtain ⟨N, rfl⟩ : ∃ N : Nat, n = (N : Int) := ⟨n.toNat, by omega⟩
    obtain ⟨y, m, k, hd⟩ := isDate_ex N
    exact ⟨_, _, _, 0, fun W => DateOf_ok N y m k W hd (hd.isYear.le (by omega)), .inl ⟨h.1, h.2, rfl⟩⟩
  · exact ⟨0, 0, 0, 1, fun W => DateOf_bad n W h, .inr ⟨h, rfl⟩⟩
theorem CalReadsBack_any (n d0 : Int) (s : ByteArray) (x : UInt8) (w : World) (hE : Env w) (hM : HasMax w) : Calls Tryz.prog 10 #[.int .i64 n, .int .i64 d0, .string s, .int .u8 (x.toNat : Int)] w fun e w' => e = .returned (.bool true) ∧ Below w.heap.size w w' := by
  obtain ⟨y, m, k, e, KA, ha⟩ := dateOf_gives n
  obtain ⟨t, m0, k0, f, KT, ht⟩ := dateOf_gives d0
  rcases ha with ⟨a1, a2, rfl⟩ | ⟨a1, rfl⟩
  · rcases ht with ⟨t1, t2, rfl⟩ | ⟨t1, rfl⟩
    · by_cases hs : (100 : Int) < (s.size : Int)
      · exact crb_o3 n d0 _ y t m k m0 k0 0 0 s w hE hs KA KT
      · obtain ⟨N, rfl⟩ : ∃ N : Nat, n = (N : Int) := ⟨n.toNat, by omega⟩
        obtain ⟨T, rfl⟩ : ∃ N : Nat, d0 = (N : Int) := ⟨d0.toNat, by omega⟩
        obtain ⟨Y, M, K, hd⟩ := isDate_ex N
        obtain ⟨Y0, M0, K0, hd0⟩ := isDate_ex T
        exact crb_in N T Y Y0 M K M0 K0 x s w hE hM hs hd (hd.isYear.le (by omega)) hd0 (hd0.isYear.le (by omega))
    · exact crb_o2 n d0 _ y t m k m0 k0 0 1 s w hE (by decide) (by decide) KA KT
  · exact crb_o1 n d0 _ y t m k m0 k0 1 f s w hE (by decide) (by decide) KA KT
end Go.Proofs.YtmjifmlibgpjiaaGreatDoor
