/- CalDurations, as a call. -/
import Derived.Test.YtmjifmlibgpjiaaGreatDoorEn
import Derived.Test.YtmjifmlibgpjiaaGreatDoorTd
import Derived.Test.YtmjifmlibgpjiaaGreatDoorTe
namespace Go.Proofs.YtmjifmlibgpjiaaGreatDoor
open Go.RowKit Go.Shelf Tx Go.Maps
set_option linter.unusedVariables false
set_option maxRecDepth 100000

theorem dates_both (D E : Int) (hD : 0 ≤ D ∧ D ≤ 3652058) (hE : 0 ≤ E ∧ E ≤ 3652058) : ∃ lSa lSb lIa lIb : List UInt8, (∀ W, Env W → Calls Tryz.prog 28 #[.int .i64 D, .int .u8 83] W (GivesSE W lSa)) ∧ (∀ W, Env W → Calls Tryz.prog 28 #[.int .i64 E, .int .u8 83] W (GivesSE W lSb)) ∧ (∀ W, Env W → Calls Tryz.prog 28 #[.int .i64 D, .int .u8 73] W (GivesSE W lIa)) ∧ (∀ W, Env W → Calls Tryz.prog 28 #[.int .i64 E, .int .u8 73] W (GivesSE W lIb)) ∧ Op.bytesLess lSa lSb = decide (D < E) ∧ Op.bytesLess lIa lIb = decide (D < E) := by
  obtain ⟨d, rfl⟩ : ∃ k : Nat, D = (k : Int) := ⟨D.toNat, by omega⟩
  obtain ⟨e, rfl⟩ : ∃ k : Nat, E = (k : Int) := ⟨E.toNat, by omega⟩
  obtain ⟨y, m, k, hd⟩ := isDate_ex d
  obtain ⟨y', m', k', he⟩ := isDate_ex e
  have h9 : y ≤ 9999 := hd.isYear.le (by omega)
  have h9' : y' ≤ 9999 := he.isYear.le (by omega)
  have c : decide (d < e) = decide ((d : Int) < (e : Int)) := by rw [decide_eq_decide]; omega
  exact ⟨_, _, _, _, fun W hW => Date_S d y m k W hd h9 hW, fun W hW => Date_S e y' m' k' W he h9' hW, fun W hW => Date_I d y m k W hd h9 hW, fun W hW => Date_I e y' m' k' W he h9' hW, (longL_lt [] hd he h9 h9').trans c, (longL_lt [45] hd he h9 h9').trans c⟩
theorem durPartB (D U E V : Int) :
    ((∀ W, Calls Tryz.prog 40 #[.agg #[.int .i64 D, .int .i64 U], .agg #[.int .i64 E, .int .i64 V]] W (Gives W #[.int .i64 0, .int .i64 0, .int .i64 1])) ∧ (∀ W, Calls Tryz.prog 40 #[.agg #[.int .i64 E, .int .i64 V], .agg #[.int .i64 D, .int .i64 U]] W (Gives W #[.int .i64 0, .int .i64 0, .int .i64 1]))) ∨
    (∃ d2 u2 p q r s s2 : Int, (∀ W, Calls Tryz.prog 40 #[.agg #[.int .i64 D, .int .i64 U], .agg #[.int .i64 E, .int .i64 V]] W (Gives W #[.int .i64 d2, .int .i64 u2, .int .i64 0])) ∧ (∀ W, Calls Tryz.prog 40 #[.agg #[.int .i64 E, .int .i64 V], .agg #[.int .i64 D, .int .i64 U]] W (Gives W #[.int .i64 p, .int .i64 q, .int .i64 0])) ∧ (IntKind.i64.wrap (d2 + p) = r ∧ wrap64 (d2 + p) = r) ∧ (IntKind.i64.wrap (r * 86400000000) = s ∧ wrap64 (r * 86400000000) = s) ∧ (IntKind.i64.wrap (s + u2) = s2 ∧ wrap64 (s + u2) = s2) ∧ (IntKind.i64.wrap (s2 + q) = 0 ∧ wrap64 (s2 + q) = 0) ∧ ¬ u2 < 0 ∧ ¬ 86400000000 ≤ u2 ∧ (0 ≤ D ∧ D ≤ 3652058) ∧ (0 ≤ E ∧ E ≤ 3652058)) := by
  by_cases ha : IsMom D U
  · by_cases hb : IsMom E V
    · right
      have ha' := ha
      have hb' := hb
      unfold IsMom at ha' hb'
      rcases Int.lt_or_le V U with q | q
      · refine ⟨_, _, _, _, -1, -86400000000, V - U, fun W => Between_lo D U E V W ha hb q, fun W => Between_hi E V D U W hb ha (by omega), ⟨?_, ?_⟩, ⟨?_, ?_⟩, ⟨?_, ?_⟩, ⟨?_, ?_⟩, by omega, by omega, ha'.1, hb'.1⟩
        · rw [show E - D - 1 + (D - E) = -1 by omega]; exact i64i' (by omega) (by omega)
        · rw [show E - D - 1 + (D - E) = -1 by omega]; exact w64 (by omega) (by omega)
        · rw [show (-1 : Int) * 86400000000 = -86400000000 by omega]; exact i64i' (by omega) (by omega)
        · rw [show (-1 : Int) * 86400000000 = -86400000000 by omega]; exact w64 (by omega) (by omega)
        · rw [show (-86400000000 : Int) + (V - U + 86400000000) = V - U by omega]; exact i64i' (by omega) (by omega)
        · rw [show (-86400000000 : Int) + (V - U + 86400000000) = V - U by omega]; exact w64 (by omega) (by omega)
        · rw [show V - U + (U - V) = 0 by omega]; exact i64i' (by omega) (by omega)
        · rw [show V - U + (U - V) = 0 by omega]; exact w64 (by omega) (by omega)
      · rcases Int.lt_or_le U V with q' | q'
        · refine ⟨_, _, _, _, -1, -86400000000, V - U - 86400000000, fun W => Between_hi D U E V W ha hb q, fun W => Between_lo E V D U W hb ha q', ⟨?_, ?_⟩, ⟨?_, ?_⟩, ⟨?_, ?_⟩, ⟨?_, ?_⟩, by omega, by omega, ha'.1, hb'.1⟩
          · rw [show E - D + (D - E - 1) = -1 by omega]; exact i64i' (by omega) (by omega)
          · rw [show E - D + (D - E - 1) = -1 by omega]; exact w64 (by omega) (by omega)
          · rw [show (-1 : Int) * 86400000000 = -86400000000 by omega]; exact i64i' (by omega) (by omega)
          · rw [show (-1 : Int) * 86400000000 = -86400000000 by omega]; exact w64 (by omega) (by omega)
          · rw [show (-86400000000 : Int) + (V - U) = V - U - 86400000000 by omega]; exact i64i' (by omega) (by omega)
          · rw [show (-86400000000 : Int) + (V - U) = V - U - 86400000000 by omega]; exact w64 (by omega) (by omega)
          · rw [show V - U - 86400000000 + (U - V + 86400000000) = 0 by omega]; exact i64i' (by omega) (by omega)
          · rw [show V - U - 86400000000 + (U - V + 86400000000) = 0 by omega]; exact w64 (by omega) (by omega)
        · refine ⟨_, _, _, _, 0, 0, V - U, fun W => Between_hi D U E V W ha hb q, fun W => Between_hi E V D U W hb ha q', ⟨?_, ?_⟩, ⟨?_, ?_⟩, ⟨?_, ?_⟩, ⟨?_, ?_⟩, by omega, by omega, ha'.1, hb'.1⟩
          · rw [show E - D + (D - E) = 0 by omega]; exact i64i' (by omega) (by omega)
          · rw [show E - D + (D - E) = 0 by omega]; exact w64 (by omega) (by omega)
          · rw [show (0 : Int) * 86400000000 = 0 by omega]; exact i64i' (by omega) (by omega)
          · rw [show (0 : Int) * 86400000000 = 0 by omega]; exact w64 (by omega) (by omega)
          · rw [show (0 : Int) + (V - U) = V - U by omega]; exact i64i' (by omega) (by omega)
          · rw [show (0 : Int) + (V - U) = V - U by omega]; exact w64 (by omega) (by omega)
          · rw [show V - U + (U - V) = 0 by omega]; exact i64i' (by omega) (by omega)
          · rw [show V - U + (U - V) = 0 by omega]; exact w64 (by omega) (by omega)
    · exact .inl ⟨fun W => Between_b D U E V W ha hb, fun W => Between_a E V D U W hb⟩
  · left
    refine ⟨fun W => Between_a D U E V W ha, fun W => ?_⟩
    by_cases hb : IsMom E V
    · exact Between_b E V D U W hb ha
    · exact Between_a E V D U W hb
theorem durPartA (D U n m t : Int) :
    (∃ X Y e0 : Int, (e0 == 0) = false ∧ ¬ e0 = 0 ∧ (∀ W, Calls Tryz.prog 38 #[.agg #[.int .i64 D, .int .i64 U], .int .i64 n, .int .i64 t] W (GivesQ W X Y e0))) ∨
    (∃ X Y d u g h : Int, (∀ W, Calls Tryz.prog 38 #[.agg #[.int .i64 D, .int .i64 U], .int .i64 n, .int .i64 t] W (GivesQ W X Y 0)) ∧ ¬ d < 0 ∧ (IntKind.i64.wrap (d * 86400000000) = g ∧ wrap64 (d * 86400000000) = g) ∧ (IntKind.i64.wrap (g + u) = h ∧ wrap64 (g + u) = h) ∧ (IntKind.i64.wrap (n * t) = h ∧ wrap64 (n * t) = h) ∧ (∀ W, Calls Tryz.prog 40 #[.agg #[.int .i64 D, .int .i64 U], .agg #[.int .i64 X, .int .i64 Y]] W (Gives W #[.int .i64 d, .int .i64 u, .int .i64 0])) ∧
      (¬ 0 ≤ m ∨ (0 ≤ m ∧ ¬ m ≤ n) ∨ (0 ≤ m ∧ m ≤ n ∧ ∃ P Q nm : Int, (IntKind.i64.wrap (n - m) = nm ∧ wrap64 (n - m) = nm) ∧ (∀ W, Calls Tryz.prog 38 #[.agg #[.int .i64 D, .int .i64 U], .int .i64 m, .int .i64 t] W (GivesQ W P Q 0)) ∧ (∀ W, Calls Tryz.prog 38 #[.agg #[.int .i64 P, .int .i64 Q], .int .i64 nm, .int .i64 t] W (GivesQ W X Y 0))))) := by
  by_cases hm : IsMom D U
  · by_cases h1 : 0 ≤ n ∧ n ≤ 100000
    · by_cases h2 : 0 ≤ t ∧ t ≤ 1000000000000
      · obtain ⟨d, rfl⟩ : ∃ k : Nat, D = (k : Int) := ⟨D.toNat, by have := hm.1; omega⟩
        obtain ⟨u, rfl⟩ : ∃ k : Nat, U = (k : Int) := ⟨U.toNat, by have := hm.2; omega⟩
        obtain ⟨N, rfl⟩ : ∃ k : Nat, n = (k : Int) := ⟨n.toNat, by omega⟩
        obtain ⟨T, rfl⟩ : ∃ k : Nat, t = (k : Int) := ⟨t.toNat, by omega⟩
        have hm' := hm
        unfold IsMom at hm'
        obtain ⟨k, hk⟩ : ∃ k, k = N * T := ⟨_, rfl⟩
        have hk9 : k ≤ 100000 * 1000000000000 := by rw [hk]; exact Nat.mul_le_mul (by omega) (by omega)
        have hki : (N : Int) * (T : Int) = (k : Int) := by rw [hk, Int.natCast_mul]
        rcases Nat.lt_or_ge 3652058 (d + (u + k) / 86400000000) with q | q
        · exact .inl ⟨0, 0, 8, by decide, by decide, fun W => After_rng d u N T (u + k) _ _ _ W (by omega) (by omega) (by omega) (by omega) (by rw [hk]) rfl rfl rfl q⟩
        · right
          obtain ⟨x, hx⟩ : ∃ x, x = d + (u + k) / 86400000000 := ⟨_, rfl⟩
          obtain ⟨y, hy⟩ : ∃ y, y = (u + k) % 86400000000 := ⟨_, rfl⟩
          have hxm : IsMom (x : Int) (y : Int) := ⟨by omega, by omega⟩
          have K1 := fun W => After_ok d u N T (u + k) _ y x W (by omega) (by omega) (by omega) (by omega) (by rw [hk]) rfl hy hx (by omega)
          have KL : ¬ 0 ≤ m ∨ (0 ≤ m ∧ ¬ m ≤ (N : Int)) ∨ (0 ≤ m ∧ m ≤ (N : Int) ∧ ∃ P Q nm : Int, (IntKind.i64.wrap ((N : Int) - m) = nm ∧ wrap64 ((N : Int) - m) = nm) ∧ (∀ W, Calls Tryz.prog 38 #[.agg #[.int .i64 (d : Int), .int .i64 (u : Int)], .int .i64 m, .int .i64 (T : Int)] W (GivesQ W P Q 0)) ∧ (∀ W, Calls Tryz.prog 38 #[.agg #[.int .i64 P, .int .i64 Q], .int .i64 nm, .int .i64 (T : Int)] W (GivesQ W (x : Int) (y : Int) 0))) := by
            by_cases m0 : 0 ≤ m
            · by_cases m1 : m ≤ (N : Int)
              · refine .inr (.inr ⟨m0, m1, ?_⟩)
                obtain ⟨M, rfl⟩ : ∃ k : Nat, m = (k : Int) := ⟨m.toNat, by omega⟩
                obtain ⟨p, hp⟩ : ∃ p, p = M * T := ⟨_, rfl⟩
                obtain ⟨r, hr⟩ : ∃ r, r = (N - M) * T := ⟨_, rfl⟩
                have hpr : k = p + r := by rw [hk, hp, hr]; exact durM (by omega)
                obtain ⟨c1, c2⟩ := durC d u p r
                rw [← hpr, ← hx] at c1
                rw [← hpr, ← hy] at c2
                have e1 : IntKind.i64.wrap ((N : Int) - (M : Int)) = ((N - M : Nat) : Int) := by rw [show (N : Int) - (M : Int) = ((N - M : Nat) : Int) by omega]; exact i64i' (by omega) (by omega)
                have e2 : wrap64 ((N : Int) - (M : Int)) = ((N - M : Nat) : Int) := by rw [show (N : Int) - (M : Int) = ((N - M : Nat) : Int) by omega]; exact w64 (by omega) (by omega)
                exact ⟨_, _, _, ⟨e1, e2⟩, fun W => After_ok d u M T (u + p) _ _ _ W (by omega) (by omega) (by omega) (by omega) (by rw [hp]) rfl rfl rfl (by omega), fun W => After_ok _ _ (N - M) T ((u + p) % 86400000000 + r) _ y x W (by omega) (by omega) (by omega) (by omega) (by rw [hr]) rfl c2.symm c1.symm (by omega)⟩
              · exact .inr (.inl ⟨m0, m1⟩)
            · exact .inl m0
          rcases Nat.lt_or_ge y u with c | c
          · refine ⟨_, _, _, _, ((x : Int) - (d : Int) - 1) * 86400000000, (k : Int), K1, ?_, ⟨?_, ?_⟩, ⟨?_, ?_⟩, ⟨?_, ?_⟩, fun W => Between_lo d u x y W hm hxm (by omega), KL⟩
            · omega
            · exact i64i' (by omega) (by omega)
            · exact w64 (by omega) (by omega)
            · rw [show ((x : Int) - (d : Int) - 1) * 86400000000 + ((y : Int) - (u : Int) + 86400000000) = (k : Int) by omega]; exact i64i' (by omega) (by omega)
            · rw [show ((x : Int) - (d : Int) - 1) * 86400000000 + ((y : Int) - (u : Int) + 86400000000) = (k : Int) by omega]; exact w64 (by omega) (by omega)
            · rw [hki]; exact i64i' (by omega) (by omega)
            · rw [hki]; exact w64 (by omega) (by omega)
          · refine ⟨_, _, _, _, ((x : Int) - (d : Int)) * 86400000000, (k : Int), K1, ?_, ⟨?_, ?_⟩, ⟨?_, ?_⟩, ⟨?_, ?_⟩, fun W => Between_hi d u x y W hm hxm (by omega), KL⟩
            · omega
            · exact i64i' (by omega) (by omega)
            · exact w64 (by omega) (by omega)
            · rw [show ((x : Int) - (d : Int)) * 86400000000 + ((y : Int) - (u : Int)) = (k : Int) by omega]; exact i64i' (by omega) (by omega)
            · rw [show ((x : Int) - (d : Int)) * 86400000000 + ((y : Int) - (u : Int)) = (k : Int) by omega]; exact w64 (by omega) (by omega)
            · rw [hki]; exact i64i' (by omega) (by omega)
            · rw [hki]; exact w64 (by omega) (by omega)
      · exact .inl ⟨0, 0, 1, by decide, by decide, fun W => After_bt D U n t W hm h1 h2⟩
    · exact .inl ⟨0, 0, 1, by decide, by decide, fun W => After_bn D U n t W hm h1⟩
  · exact .inl ⟨0, 0, 1, by decide, by decide, fun W => After_bm D U n t W hm⟩
theorem CalDurations_any (D U E V n m t : Int) (w : World) (hE : Env w) : Calls Tryz.prog 12 #[.agg #[.int .i64 D, .int .i64 U], .agg #[.int .i64 E, .int .i64 V], .int .i64 n, .int .i64 m, .int .i64 t] w fun e w' => e = .returned (.bool true) ∧ Below w.heap.size w w' := by
  rcases durPartB D U E V with ⟨KF, KG⟩ | ⟨d2, u2, p, q, r, s, s2, KF, KG, ⟨g1, g2⟩, ⟨g3, g4⟩, ⟨g5, g6⟩, ⟨g7, g8⟩, u0, u9, hD, hEE⟩
  · rcases durPartA D U n m t with ⟨X, Y, e0, he, he2, K1⟩ | ⟨X, Y, d, u, g, h, K1, d0, ⟨f1, f2⟩, ⟨f3, f4⟩, ⟨f5, f6⟩, KB, m0 | ⟨m0, m1⟩ | ⟨m0, m1, P, Q, nm, ⟨f7, f8⟩, KM, KN⟩⟩
    · exact cdu_A0B0 D U E V n m t X Y e0 w hE he he2 K1 KF KG
    · exact cdu_A1B0 D U E V n m t X Y d u g h w hE K1 d0 f1 f2 f3 f4 f5 f6 KB m0 KF KG
    · exact cdu_A2B0 D U E V n m t X Y d u g h w hE K1 d0 f1 f2 f3 f4 f5 f6 KB m0 m1 KF KG
    · exact cdu_A3B0 D U E V n m t X Y d u g h P Q nm w hE K1 d0 f1 f2 f3 f4 f5 f6 KB m0 m1 f7 f8 KM KN KF KG
  · obtain ⟨lSa, lSb, lIa, lIb, KSa, KSb, KIa, KIb, hS, hI⟩ := dates_both D E hD hEE
    by_cases hd : D < E
    · rw [decide_eq_true hd] at hS hI
      rcases durPartA D U n m t with ⟨X, Y, e0, he, he2, K1⟩ | ⟨X, Y, d, u, g, h, K1, d0, ⟨f1, f2⟩, ⟨f3, f4⟩, ⟨f5, f6⟩, KB, m0 | ⟨m0, m1⟩ | ⟨m0, m1, P, Q, nm, ⟨f7, f8⟩, KM, KN⟩⟩
      · exact cdu_A0B1 D U E V n m t X Y e0 d2 u2 p q r s s2 lSa lSb lIa lIb w hE he he2 K1 KF KG g1 g2 g3 g4 g5 g6 g7 g8 u0 u9 hd KSa KSb hS KIa KIb hI
      · exact cdu_A1B1 D U E V n m t X Y d u g h d2 u2 p q r s s2 lSa lSb lIa lIb w hE K1 d0 f1 f2 f3 f4 f5 f6 KB m0 KF KG g1 g2 g3 g4 g5 g6 g7 g8 u0 u9 hd KSa KSb hS KIa KIb hI
      · exact cdu_A2B1 D U E V n m t X Y d u g h d2 u2 p q r s s2 lSa lSb lIa lIb w hE K1 d0 f1 f2 f3 f4 f5 f6 KB m0 m1 KF KG g1 g2 g3 g4 g5 g6 g7 g8 u0 u9 hd KSa KSb hS KIa KIb hI
      · exact cdu_A3B1 D U E V n m t X Y d u g h P Q nm d2 u2 p q r s s2 lSa lSb lIa lIb w hE K1 d0 f1 f2 f3 f4 f5 f6 KB m0 m1 f7 f8 KM KN KF KG g1 g2 g3 g4 g5 g6 g7 g8 u0 u9 hd KSa KSb hS KIa KIb hI
    · rw [decide_eq_false hd] at hS hI
      rcases durPartA D U n m t with ⟨X, Y, e0, he, he2, K1⟩ | ⟨X, Y, d, u, g, h, K1, d0, ⟨f1, f2⟩, ⟨f3, f4⟩, ⟨f5, f6⟩, KB, m0 | ⟨m0, m1⟩ | ⟨m0, m1, P, Q, nm, ⟨f7, f8⟩, KM, KN⟩⟩
      · exact cdu_A0B2 D U E V n m t X Y e0 d2 u2 p q r s s2 lSa lSb lIa lIb w hE he he2 K1 KF KG g1 g2 g3 g4 g5 g6 g7 g8 u0 u9 hd KSa KSb hS KIa KIb hI
      · exact cdu_A1B2 D U E V n m t X Y d u g h d2 u2 p q r s s2 lSa lSb lIa lIb w hE K1 d0 f1 f2 f3 f4 f5 f6 KB m0 KF KG g1 g2 g3 g4 g5 g6 g7 g8 u0 u9 hd KSa KSb hS KIa KIb hI
      · exact cdu_A2B2 D U E V n m t X Y d u g h d2 u2 p q r s s2 lSa lSb lIa lIb w hE K1 d0 f1 f2 f3 f4 f5 f6 KB m0 m1 KF KG g1 g2 g3 g4 g5 g6 g7 g8 u0 u9 hd KSa KSb hS KIa KIb hI
      · exact cdu_A3B2 D U E V n m t X Y d u g h P Q nm d2 u2 p q r s s2 lSa lSb lIa lIb w hE K1 d0 f1 f2 f3 f4 f5 f6 KB m0 m1 f7 f8 KM KN KF KG g1 g2 g3 g4 g5 g6 g7 g8 u0 u9 hd KSa KSb hS KIa KIb hI
end Go.Proofs.YtmjifmlibgpjiaaGreatDoor
