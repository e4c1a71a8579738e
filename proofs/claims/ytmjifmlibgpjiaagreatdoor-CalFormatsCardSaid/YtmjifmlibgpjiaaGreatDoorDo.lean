/- Dates with short years, read. -/
import Derived.Test.YtmjifmlibgpjiaaGreatDoorDn
import Derived.Test.YtmjifmlibgpjiaaGreatDoorDk
namespace Go.Proofs.YtmjifmlibgpjiaaGreatDoor
open Go.RowKit Go.Shelf Tx Go.Maps
set_option linter.unusedVariables false
set_option maxRecDepth 100000

theorem look_no {P : Program} {w : World} {t k e : TypeId} {b n : Nat} {D : DataW Value} {l : List (UInt8 × Value)} {z : Value} (K : Keyed P k) (ht : P.underlying t = some (.map k e)) (hz : (zeroValue e).run P w = .ok z w)
    (hown : w.ownsMap P k Rv b n D) (hF : FMap D l) (x : UInt8) (hk : P.underlying k = some (.int .u8)) :
    (Instr.lookup t (.map (some b)) (.int .u8 (x.toNat : Int)) false).run P w = .ok (match l.lookup x with | some v => v | none => z) w := by
  have hkey : keyOf P k (.int .u8 (x.toNat : Int)) = some (.int .u8 (x.toNat : Int)) := keyOf_int_mk hk (u8_wf' x)
  obtain ⟨es, clock, hb, F, _, rfl⟩ := hown
  rcases Maps.fit_look false K ht hz hb F hkey with ⟨hrun, _, hat⟩ | ⟨e0, y, _, _, hrun, hRv, hat, _⟩
  · rw [hrun]
    have q := hF.2 x .nil
    rw [hat] at q
    cases hl : l.lookup x with
    | none => rfl
    | some v => rw [hl] at q; cases q
  · rw [hrun]
    have q := hF.2 x .nil
    rw [hat] at q
    have hy : y = (.held e0.val, []) := (Option.some.inj hRv).symm
    subst hy
    cases hl : l.lookup x with
    | none => rw [hl] at q; cases q
    | some v => rw [hl] at q; injection q with q; subst q; rfl
namespace Tx
/-- The year with these last digits that is near. -/
def fyR (y : Nat) (v : Int) : Int := if (y / 100 * 100 : Nat) + v < (y : Int) - 50 then (y / 100 * 100 : Nat) + v + 100 else if (y : Int) + 49 < (y / 100 * 100 : Nat) + v then (y / 100 * 100 : Nat) + v - 100 else (y / 100 * 100 : Nat) + v
/-- What inCalendar tells of three numbers. -/
def CalRes (y m k n : Int) (b : Bool) : Prop := (b = true ∧ ∃ n' : Nat, n = (n' : Int) ∧ IsCal n' y m k) ∨ (b = false ∧ n = 0 ∧ ∀ n', ¬ IsCal n' y m k)
end Tx
def GivesC (y m k : Int) (w : World) (e : Ending) (w' : World) : Prop := ∃ (n : Int) (b : Bool), e = .returned (.tuple #[.int .i64 n, .bool b]) ∧ Hid (CalRes y m k n b) ∧ Below w.heap.size w w'
theorem inCal_any (y m k : Int) (w : World) : Calls Tryz.prog 47 #[.agg #[.int .i64 y, .int .i64 m, .int .i64 k]] w (GivesC y m k w) := by
  by_cases h : ∃ n, IsCal n y m k
  · obtain ⟨n, hn⟩ := h
    obtain ⟨y', m', k', rfl, rfl, rfl, hd, h9⟩ := id hn
    obtain ⟨p, rfl⟩ : ∃ p, y' = p + 1 := ⟨y' - 1, by have := hd.y1; omega⟩
    refine (inCal_ok n p m' k' w hd h9).mono ?_
    rintro e w' ⟨rfl, hb⟩
    exact ⟨n, true, rfl, Lib.hid (.inl ⟨rfl, n, rfl, hn⟩), hb⟩
  · have h' : ∀ n, ¬ IsCal n y m k := fun n hn => h ⟨n, hn⟩
    refine (inCal_bad y m k w h').mono ?_
    rintro e w' ⟨rfl, hb⟩
    exact ⟨0, false, rfl, Lib.hid (.inr ⟨rfl, rfl, h'⟩), hb⟩
theorem numV_ge (l : List UInt8) : -1 ≤ numV l ∧ numV l ≤ 1000000000000 := by
  unfold numV
  split
  · omega
  · rename_i h
    split
    · rename_i n hn
      have h2 := Lib.decNat_some hn
      have h3 := Lib.decFrom_lt _ _ _ h2.2
      have h4 : (10 : Nat) ^ (nTake l).length ≤ 10 ^ 11 := Nat.pow_le_pow_right (by decide) (by omega)
      rw [Nat.zero_add, Nat.one_mul] at h3
      have h5 : (10 : Nat) ^ 11 = 100000000000 := by decide
      omega
    · omega
theorem fyFacts (y g : Nat) (v a : Int) (ha : a = (g : Int) * 100 + v) (hy : y ≤ 9999) (hg : g = y / 100) (h1 : -1 ≤ v) (h2 : v ≤ 1000000000000) : (y : Int) / 100 = (g : Int) ∧ (y : Int).tdiv 100 = (g : Int) ∧ IntKind.i64.wrap (g : Int) = (g : Int) ∧ wrap64 (g : Int) = (g : Int) ∧ IntKind.i64.wrap ((g : Int) * 100) = (g : Int) * 100 ∧ wrap64 ((g : Int) * 100) = (g : Int) * 100 ∧ IntKind.i64.wrap ((g : Int) * 100 + v) = a ∧ wrap64 ((g : Int) * 100 + v) = a ∧
    IntKind.i64.wrap ((y : Int) - 50) = (y : Int) - 50 ∧ wrap64 ((y : Int) - 50) = (y : Int) - 50 ∧ IntKind.i64.wrap ((y : Int) + 49) = (y : Int) + 49 ∧ wrap64 ((y : Int) + 49) = (y : Int) + 49 ∧ ((y / 100 * 100 : Nat) : Int) = (g : Int) * 100 := by
  have e : (y : Int) / 100 = (g : Int) := by omega
  subst ha
  exact ⟨e, by rw [Int.tdiv_eq_ediv_of_nonneg (by omega)]; exact e, i64i' (by omega) (by omega), w64 (by omega) (by omega), i64i' (by omega) (by omega), w64 (by omega) (by omega), i64i' (by omega) (by omega), w64 (by omega) (by omega), i64i' (by omega) (by omega), w64 (by omega) (by omega), i64i' (by omega) (by omega), w64 (by omega) (by omega), by omega⟩
theorem fyFacts2 (a : Int) (h1 : -1 ≤ a) (h2 : a ≤ 2000000000000) : IntKind.i64.wrap (a + 100) = a + 100 ∧ wrap64 (a + 100) = a + 100 ∧ IntKind.i64.wrap (a - 100) = a - 100 ∧ wrap64 (a - 100) = a - 100 := ⟨i64i' (by omega) (by omega), w64 (by omega) (by omega), i64i' (by omega) (by omega), w64 (by omega) (by omega)⟩
set_option maxHeartbeats 2000000 in
theorem fullY_any (s : ByteArray) (y : Nat) (v : Int) (w : World) (hy : y ≤ 9999) (h1 : -1 ≤ v) (h2 : v ≤ 1000000000000) :
    Calls Tryz.prog 153 #[.agg #[.string s, .int .i64 (y : Int)], .int .i64 v] w fun e w' => e = .returned (.int .i64 (fyR y v)) ∧ Below w.heap.size w w' := by
  obtain ⟨g, hg⟩ : ∃ g, g = y / 100 := ⟨_, rfl⟩
  obtain ⟨a, ha⟩ : ∃ a, a = (g : Int) * 100 + v := ⟨_, rfl⟩
  have F := Lib.hid (fyFacts y g v a ha hy hg h1 h2)
  have F2 := Lib.hid (fyFacts2 a (by omega) (by omega))
  have hv : fyR y v = if a < (y : Int) - 50 then a + 100 else if (y : Int) + 49 < a then a - 100 else a := by unfold fyR; rw [F.out.2.2.2.2.2.2.2.2.2.2.2.2, ← ha]
  rw [hv]
  by_cases c1 : a < (y : Int) - 50
  · rw [if_pos c1]
    clear hy h1 h2 hg ha hv
    obtain ⟨f1, f2, f3, f4, f5, f6, f7, f8, f9, f10, f11, f12, _⟩ := F.out
    obtain ⟨e1, e2, e3, e4⟩ := F2.out
    clear F F2
    go_enter Tryz.func153, Tryz.ntmps153
    go_wp2
    go_ret
    exact ⟨by first | rfl | simp [*], Bl.alloc (Below.refl _ w) _⟩
  · rw [if_neg c1]
    by_cases c2 : (y : Int) + 49 < a
    · rw [if_pos c2]
      clear hy h1 h2 hg ha hv
      obtain ⟨f1, f2, f3, f4, f5, f6, f7, f8, f9, f10, f11, f12, _⟩ := F.out
      obtain ⟨e1, e2, e3, e4⟩ := F2.out
      clear F F2
      go_enter Tryz.func153, Tryz.ntmps153
      go_wp2
      go_ret
      exact ⟨by first | rfl | simp [*], Bl.alloc (Below.refl _ w) _⟩
    · rw [if_neg c2]
      clear hy h1 h2 hg ha hv
      obtain ⟨f1, f2, f3, f4, f5, f6, f7, f8, f9, f10, f11, f12, _⟩ := F.out
      obtain ⟨e1, e2, e3, e4⟩ := F2.out
      clear F F2
      go_enter Tryz.func153, Tryz.ntmps153
      go_wp2
      go_ret
      exact ⟨by first | rfl | simp [*], Bl.alloc (Below.refl _ w) _⟩
set_option maxHeartbeats 2000000 in
theorem shortRE_any (q : Nat) (s : ByteArray) (y : Nat) (w : World) (hs : s.size ≤ 1000000) (hS : SufOk s) (hy : y ≤ 9999) (hq : BoxC w q 3 #[.int .i64 2, .int .i64 1, .int .i64 0]) :
    Calls Tryz.prog 133 #[.agg #[.string s, .int .i64 (y : Int)], .slice (some ⟨q, 0, none⟩) 3 3] w (GivesC (fyR y (num3 (bts s))) (num2 (bts s)) (num1 (bts s)) w) := by
  have hlt := hq.lt
  have hN : -1 ≤ (num3 (bts s)) ∧ (num3 (bts s)) ≤ 1000000000000 := numV_ge (numR (numR (bts s)))
  have KO := fun (W : World) (h : BoxC W q 3 #[.int .i64 2, .int .i64 1, .int .i64 0]) => Lib.hid (inOrderE_any q s y W hs hS h)
  obtain ⟨a, ha⟩ : ∃ a, a = (num3 (bts s)) := ⟨_, rfl⟩
  obtain ⟨b, hb⟩ : ∃ b, b = (num2 (bts s)) := ⟨_, rfl⟩
  obtain ⟨c, hc⟩ : ∃ c, c = (num1 (bts s)) := ⟨_, rfl⟩
  rw [← ha] at hN
  rw [← ha, ← hb, ← hc] at KO ⊢
  have KF := fun W => Lib.hid (fullY_any s y a W hy hN.1 hN.2)
  have KI := fun W => Lib.hid (inCal_any (fyR y a) b c W)
  obtain ⟨g, hg⟩ : ∃ g, g = fyR y a := ⟨_, rfl⟩
  rw [← hg] at KF KI ⊢
  have HQ := Lib.hid (hq.alloc (.cells #[.string s, .int .i64 (y : Int)] 88))
  clear hs hS hy hq hN ha hb hc hg
  obtain ⟨W0, hW0⟩ : ∃ W0, W0 = w.alloc (.cells #[.string s, .int .i64 (y : Int)] 88) := ⟨_, rfl⟩
  rw [← hW0] at HQ
  have bT := BoxC.new w 88 #[.string s, .int .i64 (y : Int)]
  have bl0 := Bl.alloc (Below.refl _ w) (.cells #[.string s, .int .i64 (y : Int)] 88)
  rw [← hW0] at bT bl0
  have HT := Lib.hid bT
  have HB0 := Lib.hid bl0
  have HW := Lib.hid hW0
  clear bT bl0 hW0
  go_enter Tryz.func133, Tryz.ntmps133
  go_wp2_with (first
    | (go_at_call 134; rw [← HW.out]; refine Calls.mono (KO _ HQ.out).out ?_; rintro e V1 ⟨rfl, hb1⟩; have hT1 := HT.out.below hb1 HT.out.lt; have B1 := Lib.hid (HB0.out.trans (hb1.mono HB0.out.size)); have x0 := hT1.cell (i := 0) rfl; have x1 := hT1.cell (i := 1) rfl; have hTV := hT1.lt; clear hb1 hT1)
    | (go_at_call 153; refine Calls.mono (KF _).out ?_; rintro e V2 ⟨rfl, hb2⟩; have B2 := Lib.hid (Bl.step (Bl.alloc B1.out _) hb2); have bd := (BoxC.new V1 70 #[.int .i64 a, .int .i64 b, .int .i64 c]).below hb2 (by simp); have y0 := bd.cell (i := 0) rfl; have y1 := bd.cell (i := 1) rfl; have y2 := bd.cell (i := 2) rfl; have v0 := bd.frozen 0; have bd' := bd.set 0 (.int .i64 g); have z0 := bd'.cell (i := 0) rfl; have z1 := bd'.cell (i := 1) rfl; have z2 := bd'.cell (i := 2) rfl; clear hb2 bd bd')
    | (go_at_call 47; refine Calls.mono (KI _).out ?_; rintro e V3 ⟨n, bb, rfl, hr, hb3⟩))
  go_ret2
  exact ⟨n, bb, rfl, hr, Bl.step (B2.out.setCell (p := ⟨V1.heap.size, 0, none⟩) (by simp; have := B1.out.size; omega) _) hb3⟩
set_option maxHeartbeats 1000000 in
theorem r_european_any (s : ByteArray) (y : Nat) (w : World) (hs : s.size ≤ 1000000) (hS : SufOk s) (hy : y ≤ 9999) :
    Calls Tryz.prog 100 #[.agg #[.string s, .int .i64 (y : Int)]] w (GivesC (fyR y (num3 (bts s))) (num2 (bts s)) (num1 (bts s)) w) := by
  have KS := fun (W : World) (q : Nat) (hq : BoxC W q 3 #[.int .i64 2, .int .i64 1, .int .i64 0]) => Lib.hid (shortRE_any q s y W hs hS hy hq)
  clear hs hS hy
  go_enter Tryz.func100, Tryz.ntmps100
  go_wp2_with (first
    | (go_at_call 133; refine Calls.mono (KS _ _ (by repeat (first | exact BoxC.newAt (by simp) | refine BoxC.drew ?_ | refine BoxC.alloc ?_ _))).out ?_; rintro e V3 ⟨n, bb, rfl, hr, hb3⟩))
  go_ret2
  exact ⟨n, bb, rfl, hr, Bl.step (by repeat (first | exact Below.refl _ _ | refine Bl.alloc ?_ _ | refine Bl.drew ?_)) hb3⟩
set_option maxHeartbeats 2000000 in
theorem shortRO_any (q : Nat) (s : ByteArray) (y : Nat) (w : World) (hs : s.size ≤ 1000000) (hS : SufOk s) (hy : y ≤ 9999) (hq : BoxC w q 3 #[.int .i64 0, .int .i64 1, .int .i64 2]) :
    Calls Tryz.prog 133 #[.agg #[.string s, .int .i64 (y : Int)], .slice (some ⟨q, 0, none⟩) 3 3] w (GivesC (fyR y (num1 (bts s))) (num2 (bts s)) (num3 (bts s)) w) := by
  have hlt := hq.lt
  have hN : -1 ≤ (num1 (bts s)) ∧ (num1 (bts s)) ≤ 1000000000000 := numV_ge (bts s)
  have KO := fun (W : World) (h : BoxC W q 3 #[.int .i64 0, .int .i64 1, .int .i64 2]) => Lib.hid (inOrderO_any q s y W hs hS h)
  obtain ⟨a, ha⟩ : ∃ a, a = (num1 (bts s)) := ⟨_, rfl⟩
  obtain ⟨b, hb⟩ : ∃ b, b = (num2 (bts s)) := ⟨_, rfl⟩
  obtain ⟨c, hc⟩ : ∃ c, c = (num3 (bts s)) := ⟨_, rfl⟩
  rw [← ha] at hN
  rw [← ha, ← hb, ← hc] at KO ⊢
  have KF := fun W => Lib.hid (fullY_any s y a W hy hN.1 hN.2)
  have KI := fun W => Lib.hid (inCal_any (fyR y a) b c W)
  obtain ⟨g, hg⟩ : ∃ g, g = fyR y a := ⟨_, rfl⟩
  rw [← hg] at KF KI ⊢
  have HQ := Lib.hid (hq.alloc (.cells #[.string s, .int .i64 (y : Int)] 88))
  clear hs hS hy hq hN ha hb hc hg
  obtain ⟨W0, hW0⟩ : ∃ W0, W0 = w.alloc (.cells #[.string s, .int .i64 (y : Int)] 88) := ⟨_, rfl⟩
  rw [← hW0] at HQ
  have bT := BoxC.new w 88 #[.string s, .int .i64 (y : Int)]
  have bl0 := Bl.alloc (Below.refl _ w) (.cells #[.string s, .int .i64 (y : Int)] 88)
  rw [← hW0] at bT bl0
  have HT := Lib.hid bT
  have HB0 := Lib.hid bl0
  have HW := Lib.hid hW0
  clear bT bl0 hW0
  go_enter Tryz.func133, Tryz.ntmps133
  go_wp2_with (first
    | (go_at_call 134; rw [← HW.out]; refine Calls.mono (KO _ HQ.out).out ?_; rintro e V1 ⟨rfl, hb1⟩; have hT1 := HT.out.below hb1 HT.out.lt; have B1 := Lib.hid (HB0.out.trans (hb1.mono HB0.out.size)); have x0 := hT1.cell (i := 0) rfl; have x1 := hT1.cell (i := 1) rfl; have hTV := hT1.lt; clear hb1 hT1)
    | (go_at_call 153; refine Calls.mono (KF _).out ?_; rintro e V2 ⟨rfl, hb2⟩; have B2 := Lib.hid (Bl.step (Bl.alloc B1.out _) hb2); have bd := (BoxC.new V1 70 #[.int .i64 a, .int .i64 b, .int .i64 c]).below hb2 (by simp); have y0 := bd.cell (i := 0) rfl; have y1 := bd.cell (i := 1) rfl; have y2 := bd.cell (i := 2) rfl; have v0 := bd.frozen 0; have bd' := bd.set 0 (.int .i64 g); have z0 := bd'.cell (i := 0) rfl; have z1 := bd'.cell (i := 1) rfl; have z2 := bd'.cell (i := 2) rfl; clear hb2 bd bd')
    | (go_at_call 47; refine Calls.mono (KI _).out ?_; rintro e V3 ⟨n, bb, rfl, hr, hb3⟩))
  go_ret2
  exact ⟨n, bb, rfl, hr, Bl.step (B2.out.setCell (p := ⟨V1.heap.size, 0, none⟩) (by simp; have := B1.out.size; omega) _) hb3⟩
set_option maxHeartbeats 1000000 in
theorem r_ordered_any (s : ByteArray) (y : Nat) (w : World) (hs : s.size ≤ 1000000) (hS : SufOk s) (hy : y ≤ 9999) :
    Calls Tryz.prog 103 #[.agg #[.string s, .int .i64 (y : Int)]] w (GivesC (fyR y (num1 (bts s))) (num2 (bts s)) (num3 (bts s)) w) := by
  have KS := fun (W : World) (q : Nat) (hq : BoxC W q 3 #[.int .i64 0, .int .i64 1, .int .i64 2]) => Lib.hid (shortRO_any q s y W hs hS hy hq)
  clear hs hS hy
  go_enter Tryz.func103, Tryz.ntmps103
  go_wp2_with (first
    | (go_at_call 133; refine Calls.mono (KS _ _ (by repeat (first | exact BoxC.newAt (by simp) | refine BoxC.drew ?_ | refine BoxC.alloc ?_ _))).out ?_; rintro e V3 ⟨n, bb, rfl, hr, hb3⟩))
  go_ret2
  exact ⟨n, bb, rfl, hr, Bl.step (by repeat (first | exact Below.refl _ _ | refine Bl.alloc ?_ _ | refine Bl.drew ?_)) hb3⟩
set_option maxHeartbeats 2000000 in
theorem shortRU_any (q : Nat) (s : ByteArray) (y : Nat) (w : World) (hs : s.size ≤ 1000000) (hS : SufOk s) (hy : y ≤ 9999) (hq : BoxC w q 3 #[.int .i64 1, .int .i64 2, .int .i64 0]) :
    Calls Tryz.prog 133 #[.agg #[.string s, .int .i64 (y : Int)], .slice (some ⟨q, 0, none⟩) 3 3] w (GivesC (fyR y (num3 (bts s))) (num1 (bts s)) (num2 (bts s)) w) := by
  have hlt := hq.lt
  have hN : -1 ≤ (num3 (bts s)) ∧ (num3 (bts s)) ≤ 1000000000000 := numV_ge (numR (numR (bts s)))
  have KO := fun (W : World) (h : BoxC W q 3 #[.int .i64 1, .int .i64 2, .int .i64 0]) => Lib.hid (inOrderU_any q s y W hs hS h)
  obtain ⟨a, ha⟩ : ∃ a, a = (num3 (bts s)) := ⟨_, rfl⟩
  obtain ⟨b, hb⟩ : ∃ b, b = (num1 (bts s)) := ⟨_, rfl⟩
  obtain ⟨c, hc⟩ : ∃ c, c = (num2 (bts s)) := ⟨_, rfl⟩
  rw [← ha] at hN
  rw [← ha, ← hb, ← hc] at KO ⊢
  have KF := fun W => Lib.hid (fullY_any s y a W hy hN.1 hN.2)
  have KI := fun W => Lib.hid (inCal_any (fyR y a) b c W)
  obtain ⟨g, hg⟩ : ∃ g, g = fyR y a := ⟨_, rfl⟩
  rw [← hg] at KF KI ⊢
  have HQ := Lib.hid (hq.alloc (.cells #[.string s, .int .i64 (y : Int)] 88))
  clear hs hS hy hq hN ha hb hc hg
  obtain ⟨W0, hW0⟩ : ∃ W0, W0 = w.alloc (.cells #[.string s, .int .i64 (y : Int)] 88) := ⟨_, rfl⟩
  rw [← hW0] at HQ
  have bT := BoxC.new w 88 #[.string s, .int .i64 (y : Int)]
  have bl0 := Bl.alloc (Below.refl _ w) (.cells #[.string s, .int .i64 (y : Int)] 88)
  rw [← hW0] at bT bl0
  have HT := Lib.hid bT
  have HB0 := Lib.hid bl0
  have HW := Lib.hid hW0
  clear bT bl0 hW0
  go_enter Tryz.func133, Tryz.ntmps133
  go_wp2_with (first
    | (go_at_call 134; rw [← HW.out]; refine Calls.mono (KO _ HQ.out).out ?_; rintro e V1 ⟨rfl, hb1⟩; have hT1 := HT.out.below hb1 HT.out.lt; have B1 := Lib.hid (HB0.out.trans (hb1.mono HB0.out.size)); have x0 := hT1.cell (i := 0) rfl; have x1 := hT1.cell (i := 1) rfl; have hTV := hT1.lt; clear hb1 hT1)
    | (go_at_call 153; refine Calls.mono (KF _).out ?_; rintro e V2 ⟨rfl, hb2⟩; have B2 := Lib.hid (Bl.step (Bl.alloc B1.out _) hb2); have bd := (BoxC.new V1 70 #[.int .i64 a, .int .i64 b, .int .i64 c]).below hb2 (by simp); have y0 := bd.cell (i := 0) rfl; have y1 := bd.cell (i := 1) rfl; have y2 := bd.cell (i := 2) rfl; have v0 := bd.frozen 0; have bd' := bd.set 0 (.int .i64 g); have z0 := bd'.cell (i := 0) rfl; have z1 := bd'.cell (i := 1) rfl; have z2 := bd'.cell (i := 2) rfl; clear hb2 bd bd')
    | (go_at_call 47; refine Calls.mono (KI _).out ?_; rintro e V3 ⟨n, bb, rfl, hr, hb3⟩))
  go_ret2
  exact ⟨n, bb, rfl, hr, Bl.step (B2.out.setCell (p := ⟨V1.heap.size, 0, none⟩) (by simp; have := B1.out.size; omega) _) hb3⟩
set_option maxHeartbeats 1000000 in
theorem r_usa_any (s : ByteArray) (y : Nat) (w : World) (hs : s.size ≤ 1000000) (hS : SufOk s) (hy : y ≤ 9999) :
    Calls Tryz.prog 105 #[.agg #[.string s, .int .i64 (y : Int)]] w (GivesC (fyR y (num3 (bts s))) (num1 (bts s)) (num2 (bts s)) w) := by
  have KS := fun (W : World) (q : Nat) (hq : BoxC W q 3 #[.int .i64 1, .int .i64 2, .int .i64 0]) => Lib.hid (shortRU_any q s y W hs hS hy hq)
  clear hs hS hy
  go_enter Tryz.func105, Tryz.ntmps105
  go_wp2_with (first
    | (go_at_call 133; refine Calls.mono (KS _ _ (by repeat (first | exact BoxC.newAt (by simp) | refine BoxC.drew ?_ | refine BoxC.alloc ?_ _))).out ?_; rintro e V3 ⟨n, bb, rfl, hr, hb3⟩))
  go_ret2
  exact ⟨n, bb, rfl, hr, Bl.step (by repeat (first | exact Below.refl _ _ | refine Bl.alloc ?_ _ | refine Bl.drew ?_)) hb3⟩
end Go.Proofs.YtmjifmlibgpjiaaGreatDoor
