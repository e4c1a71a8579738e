/- The reference's Time, Elapsed and ReadTime. -/
import Derived.Test.YtmjifmlibgpjiaaGreatDoorHq
import Derived.Test.YtmjifmlibgpjiaaGreatDoorCj
namespace Go.Proofs.YtmjifmlibgpjiaaGreatDoor
open Go.RowKit Go.Shelf Tx
set_option linter.unusedVariables false
set_option maxRecDepth 100000

/-- The reference gives a text and an error. -/
def GivesAT (w : World) (l : List UInt8) (x : Int) (e : Ending) (w' : World) : Prop := ∃ t : ByteArray, e = .returned (.agg #[.string t, .int .i64 x]) ∧ Hid (bts t = l) ∧ Below w.heap.size w w'
theorem BoxC.stayC {W W' : World} {B : Nat} {t : TypeId} {cs : Array Value} (h : BoxC W B t cs) (hb : Below W.heap.size W W') : BoxC W' B t cs := h.below hb h.lt
theorem padd19 {n k : Nat} (hn : n ≤ 9223372036854775807) (hk : k ≤ 19) : (padd n k).length ≤ 19 := by rw [padd_len]; have := dd_len19 hn; omega
theorem tsize {t : ByteArray} {n k : Nat} (h : Hid (bts t = padd n k)) (hn : n ≤ 9223372036854775807) (hk : k ≤ 19) : t.size ≤ 19 := by rw [← bts_length, h.out]; exact padd19 hn hk
theorem tsize1 {t : ByteArray} {n : Nat} (h : Hid (bts t = Lib.decDigits n)) (hn : n ≤ 9223372036854775807) : t.size ≤ 19 := by rw [← bts_length, h.out]; exact dd_len19 hn
theorem tdlit (a q : Nat) (k : Int) (b : Nat) (hk : k = (b : Int)) (hq : q = a / b) (ha : a ≤ 9223372036854775807) : (a : Int).tdiv k = (q : Int) ∧ (a : Int) / k = (q : Int) ∧ wrap64 (q : Int) = (q : Int) ∧ IntKind.i64.wrap (q : Int) = (q : Int) := by
  have h : q ≤ a := by rw [hq]; exact Nat.div_le_self _ _
  have e1 : (a : Int).tdiv k = (q : Int) := by rw [hk, hq]; exact tdivN a b
  have e2 : (a : Int) / k = (q : Int) := by rw [hk, hq, Int.natCast_ediv]
  exact ⟨e1, e2, w64 (by omega) (by omega), i64i' (by omega) (by omega)⟩
theorem tmlit (a q : Nat) (k : Int) (b : Nat) (hk : k = (b : Int)) (hq : q = a % b) (ha : a ≤ 9223372036854775807) : (a : Int).tmod k = (q : Int) ∧ (a : Int) % k = (q : Int) ∧ wrap64 (q : Int) = (q : Int) ∧ IntKind.i64.wrap (q : Int) = (q : Int) := by
  have h : q ≤ a := by rw [hq]; exact Nat.mod_le _ _
  have e1 : (a : Int).tmod k = (q : Int) := by rw [hk, hq]; exact tmodN a b
  have e2 : (a : Int) % k = (q : Int) := by rw [hk, hq, Int.natCast_emod]
  exact ⟨e1, e2, w64 (by omega) (by omega), i64i' (by omega) (by omega)⟩
theorem inDay (c : Nat) (hc : c ≤ 86399999999) : ¬ (c : Int) < 0 ∧ (c : Int) < 86400000000 ∧ ¬ (86400000000 : Int) ≤ (c : Int) := by omega
theorem halfI (g : Nat) : (g < 12 → ¬ (12 : Int) ≤ (g : Int)) ∧ (¬ g < 12 → (12 : Int) ≤ (g : Int)) := by omega
theorem hourF12 (g q x : Nat) (hg : g < 24) (hq : q = (g + 11) % 12) (hx : x = 1 + q) : IntKind.i64.wrap ((g : Int) + 11) = (g : Int) + 11 ∧ wrap64 ((g : Int) + 11) = (g : Int) + 11 ∧ ((g : Int) + 11).tmod 12 = (q : Int) ∧ ((g : Int) + 11) % 12 = (q : Int) ∧ wrap64 (q : Int) = (q : Int) ∧ IntKind.i64.wrap ((q : Int) + 1) = (x : Int) ∧ wrap64 ((q : Int) + 1) = (x : Int) := by
  have e : (q : Int) + 1 = (x : Int) := by omega
  rw [e]
  exact ⟨i64i' (by omega) (by omega), w64 (by omega) (by omega), by rw [Int.tmod_eq_emod_of_nonneg (by omega)]; omega, by omega, w64 (by omega) (by omega), i64i' (by omega) (by omega), w64 (by omega) (by omega)⟩
theorem timF (c a b g m s : Nat) (hc : c ≤ 86399999999) (ha : a = c / 1000000) (hb : b = a / 60) (hg : g = b / 60) (hm : m = b % 60) (hs : s = a % 60) :
    (c / 3600000000 = g ∧ minF c = m ∧ secF c = s ∧ c / 60000000 = b) ∧ (a ≤ 86399 ∧ b ≤ 1439 ∧ g < 24 ∧ m < 60 ∧ s < 60) := by
  have eb : c / 60000000 = b := by rw [hb, ha, Nat.div_div_eq_div_mul]
  have eg : c / 3600000000 = g := by rw [hg, ← eb, Nat.div_div_eq_div_mul]
  have em : minF c = m := by unfold minF; rw [eb, hm]
  have es : secF c = s := by unfold secF; rw [hs, ha]
  have ba : a ≤ 86399 := by rw [ha]; omega
  have bb : b ≤ 1439 := by rw [hb]; omega
  have bg : g < 24 := by rw [hg]; omega
  exact ⟨⟨eg, em, es, eb⟩, ba, bb, bg, by rw [hm]; exact Nat.mod_lt _ (by decide), by rw [hs]; exact Nat.mod_lt _ (by decide)⟩
set_option maxHeartbeats 4000000 in
theorem RTime_N (c : Nat) (w : World) (hc : c ≤ 86399999999) : Calls Tryz.prog 33 #[.int .i64 (c : Int), .int .u8 78] w (GivesAT w (hmsL c) 0) := by
  obtain ⟨a, ha⟩ : ∃ a, a = c / 1000000 := ⟨_, rfl⟩
  obtain ⟨b, hb⟩ : ∃ b, b = a / 60 := ⟨_, rfl⟩
  obtain ⟨g, hg⟩ : ∃ g, g = b / 60 := ⟨_, rfl⟩
  obtain ⟨m, hm⟩ : ∃ m, m = b % 60 := ⟨_, rfl⟩
  obtain ⟨s, hs⟩ : ∃ s, s = a % 60 := ⟨_, rfl⟩
  obtain ⟨⟨eg, em, es, eb⟩, ba, bb, bg, bm, bs⟩ := timF c a b g m s hc ha hb hg hm hs
  have LC : c ≤ 9223372036854775807 := Nat.le_trans hc (by decide)
  have LA : a ≤ 9223372036854775807 := Nat.le_trans ba (by decide)
  have LB : b ≤ 9223372036854775807 := Nat.le_trans bb (by decide)
  have LG : g ≤ 9223372036854775807 := Nat.le_trans (Nat.le_of_lt bg) (by decide)
  have LM : m ≤ 9223372036854775807 := Nat.le_trans (Nat.le_of_lt bm) (by decide)
  have LS : s ≤ 9223372036854775807 := Nat.le_trans (Nat.le_of_lt bs) (by decide)
  obtain ⟨d1, d2, d3, d4⟩ := tdlit c a 1000000 1000000 (by decide) ha LC
  obtain ⟨i1, i2, i3, i4⟩ := tdlit a b 60 60 (by decide) hb LA
  obtain ⟨j1, j2, j3, j4⟩ := tdlit b g 60 60 (by decide) hg LB
  obtain ⟨k1, k2, k3, k4⟩ := tmlit b m 60 60 (by decide) hm LB
  obtain ⟨n1, n2, n3, n4⟩ := tmlit a s 60 60 (by decide) hs LA
  have KG := fun W => Lib.hid (rpadded_any g 2 W LG (by decide))
  have KM := fun W => Lib.hid (rpadded_any m 2 W LM (by decide))
  have KS := fun W => Lib.hid (rpadded_any s 2 W LS (by decide))
  have SG := Lib.hid (show g ≤ 9223372036854775807 from LG)
  have SM := Lib.hid (show m ≤ 9223372036854775807 from LM)
  have SS := Lib.hid (show s ≤ 9223372036854775807 from LS)
  have HL := Lib.hid (hmsL_eq c)
  rw [eg, em, es] at HL
  obtain ⟨c1, c2, c3⟩ := inDay c hc
  clear ha hb hg hm hs eg em es eb ba bb bg bm bs hc LC LA LB LG LM LS
  go_enter Tryz.func33, Tryz.ntmps33
  go_wp2_with (first
    | (go_at_call 61; first
        | ((with_reducible refine Calls.mono (KG _).out ?_); rintro e w1 ⟨t1, rfl, ht1, hbb⟩; clear KG; have B1 := Lib.hid (Bl.step (show Below w.heap.size w _ by repeat (first | exact Below.refl _ _ | refine Bl.alloc ?_ _ | refine Bl.drew ?_ | refine Below.setCell ?_ (by simp) _)) hbb); have X1 := Lib.hid ((BoxC.new w 44 #[.string ⟨#[]⟩, .int .i64 0]).stayC hbb); clear hbb; have Z1 := Lib.hid (tsize ht1 SG.out (by decide)); have z1 : ¬ 9223372036854775807 < t1.size + 1 := (by have := Z1.out; omega))
        | ((with_reducible refine Calls.mono (KM _).out ?_); rintro e w2 ⟨t2, rfl, ht2, hbb⟩; clear KM; have B2 := Lib.hid (Bl.step (show Below w.heap.size w _ by repeat (first | exact Below.refl _ _ | exact B1.out | refine Bl.alloc ?_ _ | refine Bl.drew ?_ | refine Below.setCell ?_ (by simp) _)) hbb); have X2 := Lib.hid (X1.out.stayC hbb); clear hbb; have Z2 := Lib.hid (tsize ht2 SM.out (by decide)); have z2 : ¬ 9223372036854775807 < t1.size + 1 + t2.size := (by have := Z1.out; have := Z2.out; omega); have z3 : ¬ 9223372036854775807 < t1.size + 1 + t2.size + 1 := (by have := Z1.out; have := Z2.out; omega))
        | ((with_reducible refine Calls.mono (KS _).out ?_); rintro e w3 ⟨t3, rfl, ht3, hbb⟩; clear KS; have B3 := Lib.hid (Bl.step (show Below w.heap.size w _ by repeat (first | exact Below.refl _ _ | exact B2.out | exact B1.out | refine Bl.alloc ?_ _ | refine Bl.drew ?_ | refine Below.setCell ?_ (by simp) _)) hbb); have X3 := Lib.hid (X2.out.stayC hbb); clear hbb; have Z3 := Lib.hid (tsize ht3 SS.out (by decide)); have z4 : ¬ 9223372036854775807 < t1.size + 1 + t2.size + 1 + t3.size := (by have := Z1.out; have := Z2.out; have := Z3.out; omega); have y0 := X3.out.cell (i := 0) rfl; have y1 := X3.out.cell (i := 1) rfl; have z0 := X3.out.frozen 0; have zz1 := X3.out.frozen 1; have s1 := X3.out.lt)))
  have e0 := ((X3.out.set 0 (.string (t1 ++ ⟨#[58]⟩ ++ t2 ++ ⟨#[58]⟩ ++ t3)))).cell (i := 0) rfl
  have e1 := (((X3.out.set 0 (.string (t1 ++ ⟨#[58]⟩ ++ t2 ++ ⟨#[58]⟩ ++ t3))).set 1 (.int .i64 0))).cell (i := 1) rfl
  refine bodyPost_ret (v := .agg #[.string (t1 ++ ⟨#[58]⟩ ++ t2 ++ ⟨#[58]⟩ ++ t3), .int .i64 0]) (by simp [results, Tryz.results33, go_sem, e0, e1]) rfl ?_
  exact ⟨_, rfl, Lib.hid (by rw [HL.out, bts_append, bts_append, bts_append, bts_append, ht1.out, ht2.out, ht3.out]; simp [bts_lit]), by repeat (first | exact Below.refl _ _ | exact B3.out | exact B2.out | exact B1.out | refine Bl.alloc ?_ _ | refine Bl.drew ?_ | refine Below.setCell ?_ (by simp) _)⟩
end Go.Proofs.YtmjifmlibgpjiaaGreatDoor
namespace Go.Proofs.YtmjifmlibgpjiaaGreatDoor
open Go.RowKit Go.Shelf Tx
set_option linter.unusedVariables false
set_option maxRecDepth 100000

set_option maxHeartbeats 4000000 in
theorem RTime_F (c : Nat) (w : World) (hc : c ≤ 86399999999) : Calls Tryz.prog 33 #[.int .i64 (c : Int), .int .u8 70] w (GivesAT w (Lib.decDigits (c / 1)) 0) := by
  obtain ⟨a, ha⟩ : ∃ a, a = c / 1000000 := ⟨_, rfl⟩
  obtain ⟨b, hb⟩ : ∃ b, b = a / 60 := ⟨_, rfl⟩
  obtain ⟨g, hg⟩ : ∃ g, g = b / 60 := ⟨_, rfl⟩
  obtain ⟨m, hm⟩ : ∃ m, m = b % 60 := ⟨_, rfl⟩
  obtain ⟨s, hs⟩ : ∃ s, s = a % 60 := ⟨_, rfl⟩
  obtain ⟨⟨eg, em, es, eb⟩, ba, bb, bg, bm, bs⟩ := timF c a b g m s hc ha hb hg hm hs
  have LC : c ≤ 9223372036854775807 := Nat.le_trans hc (by decide)
  have LA : a ≤ 9223372036854775807 := Nat.le_trans ba (by decide)
  have LB : b ≤ 9223372036854775807 := Nat.le_trans bb (by decide)
  have LG : g ≤ 9223372036854775807 := Nat.le_trans (Nat.le_of_lt bg) (by decide)
  have LM : m ≤ 9223372036854775807 := Nat.le_trans (Nat.le_of_lt bm) (by decide)
  have LS : s ≤ 9223372036854775807 := Nat.le_trans (Nat.le_of_lt bs) (by decide)
  obtain ⟨d1, d2, d3, d4⟩ := tdlit c a 1000000 1000000 (by decide) ha LC
  obtain ⟨i1, i2, i3, i4⟩ := tdlit a b 60 60 (by decide) hb LA
  obtain ⟨j1, j2, j3, j4⟩ := tdlit b g 60 60 (by decide) hg LB
  obtain ⟨k1, k2, k3, k4⟩ := tmlit b m 60 60 (by decide) hm LB
  obtain ⟨n1, n2, n3, n4⟩ := tmlit a s 60 60 (by decide) hs LA
  have KG := fun W => Lib.hid (rpadded_any g 2 W LG (by decide))
  have KM := fun W => Lib.hid (rpadded_any m 2 W LM (by decide))
  have KS := fun W => Lib.hid (rpadded_any s 2 W LS (by decide))
  have SG := Lib.hid (show g ≤ 9223372036854775807 from LG)
  have SM := Lib.hid (show m ≤ 9223372036854775807 from LM)
  have SS := Lib.hid (show s ≤ 9223372036854775807 from LS)
  have HL := Lib.hid (hmsL_eq c)
  rw [eg, em, es] at HL
  obtain ⟨c1, c2, c3⟩ := inDay c hc
  rw [Nat.div_one]
  have KX := fun W => Lib.hid (rtext_any c LC W)
  clear ha hb hg hm hs eg em es eb ba bb bg bm bs hc LC LA LB LG LM LS
  go_enter Tryz.func33, Tryz.ntmps33
  go_wp2_with (first
    | (go_at_call 61; first
        | ((with_reducible refine Calls.mono (KG _).out ?_); rintro e w1 ⟨t1, rfl, ht1, hbb⟩; clear KG; have B1 := Lib.hid (Bl.step (show Below w.heap.size w _ by repeat (first | exact Below.refl _ _ | refine Bl.alloc ?_ _ | refine Bl.drew ?_ | refine Below.setCell ?_ (by simp) _)) hbb); have X1 := Lib.hid ((BoxC.new w 44 #[.string ⟨#[]⟩, .int .i64 0]).stayC hbb); clear hbb; have Z1 := Lib.hid (tsize ht1 SG.out (by decide)); have z1 : ¬ 9223372036854775807 < t1.size + 1 := (by have := Z1.out; omega))
        | ((with_reducible refine Calls.mono (KM _).out ?_); rintro e w2 ⟨t2, rfl, ht2, hbb⟩; clear KM; have B2 := Lib.hid (Bl.step (show Below w.heap.size w _ by repeat (first | exact Below.refl _ _ | exact B1.out | refine Bl.alloc ?_ _ | refine Bl.drew ?_ | refine Below.setCell ?_ (by simp) _)) hbb); have X2 := Lib.hid (X1.out.stayC hbb); clear hbb; have Z2 := Lib.hid (tsize ht2 SM.out (by decide)); have z2 : ¬ 9223372036854775807 < t1.size + 1 + t2.size := (by have := Z1.out; have := Z2.out; omega); have z3 : ¬ 9223372036854775807 < t1.size + 1 + t2.size + 1 := (by have := Z1.out; have := Z2.out; omega))
        | ((with_reducible refine Calls.mono (KS _).out ?_); rintro e w3 ⟨t3, rfl, ht3, hbb⟩; clear KS; have B3 := Lib.hid (Bl.step (show Below w.heap.size w _ by repeat (first | exact Below.refl _ _ | exact B2.out | exact B1.out | refine Bl.alloc ?_ _ | refine Bl.drew ?_ | refine Below.setCell ?_ (by simp) _)) hbb); have X3 := Lib.hid (X2.out.stayC hbb); clear hbb; have Z3 := Lib.hid (tsize ht3 SS.out (by decide)); have z4 : ¬ 9223372036854775807 < t1.size + 1 + t2.size + 1 + t3.size := (by have := Z1.out; have := Z2.out; have := Z3.out; omega)))
    | (go_at_call 62; first
        | ((with_reducible refine Calls.mono (KX _).out ?_); rintro e w4 ⟨t4, rfl, ht4, hbb⟩; clear KX; have B4 := Lib.hid (Bl.step (show Below w.heap.size w _ by repeat (first | exact Below.refl _ _ | exact B3.out | exact B2.out | exact B1.out | refine Bl.alloc ?_ _ | refine Bl.drew ?_ | refine Below.setCell ?_ (by simp) _)) hbb); have X4 := Lib.hid (X3.out.stayC hbb); clear hbb; have y0 := X4.out.cell (i := 0) rfl; have y1 := X4.out.cell (i := 1) rfl; have z0 := X4.out.frozen 0; have zz1 := X4.out.frozen 1; have s1 := X4.out.lt)))
  have e0 := ((X4.out.set 0 (.string t4))).cell (i := 0) rfl
  have e1 := (((X4.out.set 0 (.string t4)).set 1 (.int .i64 0))).cell (i := 1) rfl
  refine bodyPost_ret (v := .agg #[.string t4, .int .i64 0]) (by simp [results, Tryz.results33, go_sem, e0, e1]) rfl ?_
  exact ⟨_, rfl, Lib.hid (by exact ht4.out), by repeat (first | exact Below.refl _ _ | exact B4.out | refine Bl.alloc ?_ _ | refine Bl.drew ?_ | refine Below.setCell ?_ (by simp) _)⟩
set_option maxHeartbeats 4000000 in
theorem RTime_H (c : Nat) (w : World) (hc : c ≤ 86399999999) : Calls Tryz.prog 33 #[.int .i64 (c : Int), .int .u8 72] w (GivesAT w (Lib.decDigits (c / 3600000000)) 0) := by
  obtain ⟨a, ha⟩ : ∃ a, a = c / 1000000 := ⟨_, rfl⟩
  obtain ⟨b, hb⟩ : ∃ b, b = a / 60 := ⟨_, rfl⟩
  obtain ⟨g, hg⟩ : ∃ g, g = b / 60 := ⟨_, rfl⟩
  obtain ⟨m, hm⟩ : ∃ m, m = b % 60 := ⟨_, rfl⟩
  obtain ⟨s, hs⟩ : ∃ s, s = a % 60 := ⟨_, rfl⟩
  obtain ⟨⟨eg, em, es, eb⟩, ba, bb, bg, bm, bs⟩ := timF c a b g m s hc ha hb hg hm hs
  have LC : c ≤ 9223372036854775807 := Nat.le_trans hc (by decide)
  have LA : a ≤ 9223372036854775807 := Nat.le_trans ba (by decide)
  have LB : b ≤ 9223372036854775807 := Nat.le_trans bb (by decide)
  have LG : g ≤ 9223372036854775807 := Nat.le_trans (Nat.le_of_lt bg) (by decide)
  have LM : m ≤ 9223372036854775807 := Nat.le_trans (Nat.le_of_lt bm) (by decide)
  have LS : s ≤ 9223372036854775807 := Nat.le_trans (Nat.le_of_lt bs) (by decide)
  obtain ⟨d1, d2, d3, d4⟩ := tdlit c a 1000000 1000000 (by decide) ha LC
  obtain ⟨i1, i2, i3, i4⟩ := tdlit a b 60 60 (by decide) hb LA
  obtain ⟨j1, j2, j3, j4⟩ := tdlit b g 60 60 (by decide) hg LB
  obtain ⟨k1, k2, k3, k4⟩ := tmlit b m 60 60 (by decide) hm LB
  obtain ⟨n1, n2, n3, n4⟩ := tmlit a s 60 60 (by decide) hs LA
  have KG := fun W => Lib.hid (rpadded_any g 2 W LG (by decide))
  have KM := fun W => Lib.hid (rpadded_any m 2 W LM (by decide))
  have KS := fun W => Lib.hid (rpadded_any s 2 W LS (by decide))
  have SG := Lib.hid (show g ≤ 9223372036854775807 from LG)
  have SM := Lib.hid (show m ≤ 9223372036854775807 from LM)
  have SS := Lib.hid (show s ≤ 9223372036854775807 from LS)
  have HL := Lib.hid (hmsL_eq c)
  rw [eg, em, es] at HL
  obtain ⟨c1, c2, c3⟩ := inDay c hc
  rw [eg]
  have KX := fun W => Lib.hid (rtext_any g LG W)
  clear ha hb hg hm hs eg em es eb ba bb bg bm bs hc LC LA LB LG LM LS
  go_enter Tryz.func33, Tryz.ntmps33
  go_wp2_with (first
    | (go_at_call 61; first
        | ((with_reducible refine Calls.mono (KG _).out ?_); rintro e w1 ⟨t1, rfl, ht1, hbb⟩; clear KG; have B1 := Lib.hid (Bl.step (show Below w.heap.size w _ by repeat (first | exact Below.refl _ _ | refine Bl.alloc ?_ _ | refine Bl.drew ?_ | refine Below.setCell ?_ (by simp) _)) hbb); have X1 := Lib.hid ((BoxC.new w 44 #[.string ⟨#[]⟩, .int .i64 0]).stayC hbb); clear hbb; have Z1 := Lib.hid (tsize ht1 SG.out (by decide)); have z1 : ¬ 9223372036854775807 < t1.size + 1 := (by have := Z1.out; omega))
        | ((with_reducible refine Calls.mono (KM _).out ?_); rintro e w2 ⟨t2, rfl, ht2, hbb⟩; clear KM; have B2 := Lib.hid (Bl.step (show Below w.heap.size w _ by repeat (first | exact Below.refl _ _ | exact B1.out | refine Bl.alloc ?_ _ | refine Bl.drew ?_ | refine Below.setCell ?_ (by simp) _)) hbb); have X2 := Lib.hid (X1.out.stayC hbb); clear hbb; have Z2 := Lib.hid (tsize ht2 SM.out (by decide)); have z2 : ¬ 9223372036854775807 < t1.size + 1 + t2.size := (by have := Z1.out; have := Z2.out; omega); have z3 : ¬ 9223372036854775807 < t1.size + 1 + t2.size + 1 := (by have := Z1.out; have := Z2.out; omega))
        | ((with_reducible refine Calls.mono (KS _).out ?_); rintro e w3 ⟨t3, rfl, ht3, hbb⟩; clear KS; have B3 := Lib.hid (Bl.step (show Below w.heap.size w _ by repeat (first | exact Below.refl _ _ | exact B2.out | exact B1.out | refine Bl.alloc ?_ _ | refine Bl.drew ?_ | refine Below.setCell ?_ (by simp) _)) hbb); have X3 := Lib.hid (X2.out.stayC hbb); clear hbb; have Z3 := Lib.hid (tsize ht3 SS.out (by decide)); have z4 : ¬ 9223372036854775807 < t1.size + 1 + t2.size + 1 + t3.size := (by have := Z1.out; have := Z2.out; have := Z3.out; omega)))
    | (go_at_call 62; first
        | ((with_reducible refine Calls.mono (KX _).out ?_); rintro e w4 ⟨t4, rfl, ht4, hbb⟩; clear KX; have B4 := Lib.hid (Bl.step (show Below w.heap.size w _ by repeat (first | exact Below.refl _ _ | exact B3.out | exact B2.out | exact B1.out | refine Bl.alloc ?_ _ | refine Bl.drew ?_ | refine Below.setCell ?_ (by simp) _)) hbb); have X4 := Lib.hid (X3.out.stayC hbb); clear hbb; have y0 := X4.out.cell (i := 0) rfl; have y1 := X4.out.cell (i := 1) rfl; have z0 := X4.out.frozen 0; have zz1 := X4.out.frozen 1; have s1 := X4.out.lt)))
  have e0 := ((X4.out.set 0 (.string t4))).cell (i := 0) rfl
  have e1 := (((X4.out.set 0 (.string t4)).set 1 (.int .i64 0))).cell (i := 1) rfl
  refine bodyPost_ret (v := .agg #[.string t4, .int .i64 0]) (by simp [results, Tryz.results33, go_sem, e0, e1]) rfl ?_
  exact ⟨_, rfl, Lib.hid (by exact ht4.out), by repeat (first | exact Below.refl _ _ | exact B4.out | refine Bl.alloc ?_ _ | refine Bl.drew ?_ | refine Below.setCell ?_ (by simp) _)⟩
set_option maxHeartbeats 4000000 in
theorem RTime_M (c : Nat) (w : World) (hc : c ≤ 86399999999) : Calls Tryz.prog 33 #[.int .i64 (c : Int), .int .u8 77] w (GivesAT w (Lib.decDigits (c / 60000000)) 0) := by
  obtain ⟨a, ha⟩ : ∃ a, a = c / 1000000 := ⟨_, rfl⟩
  obtain ⟨b, hb⟩ : ∃ b, b = a / 60 := ⟨_, rfl⟩
  obtain ⟨g, hg⟩ : ∃ g, g = b / 60 := ⟨_, rfl⟩
  obtain ⟨m, hm⟩ : ∃ m, m = b % 60 := ⟨_, rfl⟩
  obtain ⟨s, hs⟩ : ∃ s, s = a % 60 := ⟨_, rfl⟩
  obtain ⟨⟨eg, em, es, eb⟩, ba, bb, bg, bm, bs⟩ := timF c a b g m s hc ha hb hg hm hs
  have LC : c ≤ 9223372036854775807 := Nat.le_trans hc (by decide)
  have LA : a ≤ 9223372036854775807 := Nat.le_trans ba (by decide)
  have LB : b ≤ 9223372036854775807 := Nat.le_trans bb (by decide)
  have LG : g ≤ 9223372036854775807 := Nat.le_trans (Nat.le_of_lt bg) (by decide)
  have LM : m ≤ 9223372036854775807 := Nat.le_trans (Nat.le_of_lt bm) (by decide)
  have LS : s ≤ 9223372036854775807 := Nat.le_trans (Nat.le_of_lt bs) (by decide)
  obtain ⟨d1, d2, d3, d4⟩ := tdlit c a 1000000 1000000 (by decide) ha LC
  obtain ⟨i1, i2, i3, i4⟩ := tdlit a b 60 60 (by decide) hb LA
  obtain ⟨j1, j2, j3, j4⟩ := tdlit b g 60 60 (by decide) hg LB
  obtain ⟨k1, k2, k3, k4⟩ := tmlit b m 60 60 (by decide) hm LB
  obtain ⟨n1, n2, n3, n4⟩ := tmlit a s 60 60 (by decide) hs LA
  have KG := fun W => Lib.hid (rpadded_any g 2 W LG (by decide))
  have KM := fun W => Lib.hid (rpadded_any m 2 W LM (by decide))
  have KS := fun W => Lib.hid (rpadded_any s 2 W LS (by decide))
  have SG := Lib.hid (show g ≤ 9223372036854775807 from LG)
  have SM := Lib.hid (show m ≤ 9223372036854775807 from LM)
  have SS := Lib.hid (show s ≤ 9223372036854775807 from LS)
  have HL := Lib.hid (hmsL_eq c)
  rw [eg, em, es] at HL
  obtain ⟨c1, c2, c3⟩ := inDay c hc
  rw [eb]
  have KX := fun W => Lib.hid (rtext_any b LB W)
  clear ha hb hg hm hs eg em es eb ba bb bg bm bs hc LC LA LB LG LM LS
  go_enter Tryz.func33, Tryz.ntmps33
  go_wp2_with (first
    | (go_at_call 61; first
        | ((with_reducible refine Calls.mono (KG _).out ?_); rintro e w1 ⟨t1, rfl, ht1, hbb⟩; clear KG; have B1 := Lib.hid (Bl.step (show Below w.heap.size w _ by repeat (first | exact Below.refl _ _ | refine Bl.alloc ?_ _ | refine Bl.drew ?_ | refine Below.setCell ?_ (by simp) _)) hbb); have X1 := Lib.hid ((BoxC.new w 44 #[.string ⟨#[]⟩, .int .i64 0]).stayC hbb); clear hbb; have Z1 := Lib.hid (tsize ht1 SG.out (by decide)); have z1 : ¬ 9223372036854775807 < t1.size + 1 := (by have := Z1.out; omega))
        | ((with_reducible refine Calls.mono (KM _).out ?_); rintro e w2 ⟨t2, rfl, ht2, hbb⟩; clear KM; have B2 := Lib.hid (Bl.step (show Below w.heap.size w _ by repeat (first | exact Below.refl _ _ | exact B1.out | refine Bl.alloc ?_ _ | refine Bl.drew ?_ | refine Below.setCell ?_ (by simp) _)) hbb); have X2 := Lib.hid (X1.out.stayC hbb); clear hbb; have Z2 := Lib.hid (tsize ht2 SM.out (by decide)); have z2 : ¬ 9223372036854775807 < t1.size + 1 + t2.size := (by have := Z1.out; have := Z2.out; omega); have z3 : ¬ 9223372036854775807 < t1.size + 1 + t2.size + 1 := (by have := Z1.out; have := Z2.out; omega))
        | ((with_reducible refine Calls.mono (KS _).out ?_); rintro e w3 ⟨t3, rfl, ht3, hbb⟩; clear KS; have B3 := Lib.hid (Bl.step (show Below w.heap.size w _ by repeat (first | exact Below.refl _ _ | exact B2.out | exact B1.out | refine Bl.alloc ?_ _ | refine Bl.drew ?_ | refine Below.setCell ?_ (by simp) _)) hbb); have X3 := Lib.hid (X2.out.stayC hbb); clear hbb; have Z3 := Lib.hid (tsize ht3 SS.out (by decide)); have z4 : ¬ 9223372036854775807 < t1.size + 1 + t2.size + 1 + t3.size := (by have := Z1.out; have := Z2.out; have := Z3.out; omega)))
    | (go_at_call 62; first
        | ((with_reducible refine Calls.mono (KX _).out ?_); rintro e w4 ⟨t4, rfl, ht4, hbb⟩; clear KX; have B4 := Lib.hid (Bl.step (show Below w.heap.size w _ by repeat (first | exact Below.refl _ _ | exact B3.out | exact B2.out | exact B1.out | refine Bl.alloc ?_ _ | refine Bl.drew ?_ | refine Below.setCell ?_ (by simp) _)) hbb); have X4 := Lib.hid (X3.out.stayC hbb); clear hbb; have y0 := X4.out.cell (i := 0) rfl; have y1 := X4.out.cell (i := 1) rfl; have z0 := X4.out.frozen 0; have zz1 := X4.out.frozen 1; have s1 := X4.out.lt)))
  have e0 := ((X4.out.set 0 (.string t4))).cell (i := 0) rfl
  have e1 := (((X4.out.set 0 (.string t4)).set 1 (.int .i64 0))).cell (i := 1) rfl
  refine bodyPost_ret (v := .agg #[.string t4, .int .i64 0]) (by simp [results, Tryz.results33, go_sem, e0, e1]) rfl ?_
  exact ⟨_, rfl, Lib.hid (by exact ht4.out), by repeat (first | exact Below.refl _ _ | exact B4.out | refine Bl.alloc ?_ _ | refine Bl.drew ?_ | refine Below.setCell ?_ (by simp) _)⟩
set_option maxHeartbeats 4000000 in
theorem RTime_S (c : Nat) (w : World) (hc : c ≤ 86399999999) : Calls Tryz.prog 33 #[.int .i64 (c : Int), .int .u8 83] w (GivesAT w (Lib.decDigits (c / 1000000)) 0) := by
  obtain ⟨a, ha⟩ : ∃ a, a = c / 1000000 := ⟨_, rfl⟩
  obtain ⟨b, hb⟩ : ∃ b, b = a / 60 := ⟨_, rfl⟩
  obtain ⟨g, hg⟩ : ∃ g, g = b / 60 := ⟨_, rfl⟩
  obtain ⟨m, hm⟩ : ∃ m, m = b % 60 := ⟨_, rfl⟩
  obtain ⟨s, hs⟩ : ∃ s, s = a % 60 := ⟨_, rfl⟩
  obtain ⟨⟨eg, em, es, eb⟩, ba, bb, bg, bm, bs⟩ := timF c a b g m s hc ha hb hg hm hs
  have LC : c ≤ 9223372036854775807 := Nat.le_trans hc (by decide)
  have LA : a ≤ 9223372036854775807 := Nat.le_trans ba (by decide)
  have LB : b ≤ 9223372036854775807 := Nat.le_trans bb (by decide)
  have LG : g ≤ 9223372036854775807 := Nat.le_trans (Nat.le_of_lt bg) (by decide)
  have LM : m ≤ 9223372036854775807 := Nat.le_trans (Nat.le_of_lt bm) (by decide)
  have LS : s ≤ 9223372036854775807 := Nat.le_trans (Nat.le_of_lt bs) (by decide)
  obtain ⟨d1, d2, d3, d4⟩ := tdlit c a 1000000 1000000 (by decide) ha LC
  obtain ⟨i1, i2, i3, i4⟩ := tdlit a b 60 60 (by decide) hb LA
  obtain ⟨j1, j2, j3, j4⟩ := tdlit b g 60 60 (by decide) hg LB
  obtain ⟨k1, k2, k3, k4⟩ := tmlit b m 60 60 (by decide) hm LB
  obtain ⟨n1, n2, n3, n4⟩ := tmlit a s 60 60 (by decide) hs LA
  have KG := fun W => Lib.hid (rpadded_any g 2 W LG (by decide))
  have KM := fun W => Lib.hid (rpadded_any m 2 W LM (by decide))
  have KS := fun W => Lib.hid (rpadded_any s 2 W LS (by decide))
  have SG := Lib.hid (show g ≤ 9223372036854775807 from LG)
  have SM := Lib.hid (show m ≤ 9223372036854775807 from LM)
  have SS := Lib.hid (show s ≤ 9223372036854775807 from LS)
  have HL := Lib.hid (hmsL_eq c)
  rw [eg, em, es] at HL
  obtain ⟨c1, c2, c3⟩ := inDay c hc
  rw [← ha]
  have KX := fun W => Lib.hid (rtext_any a LA W)
  clear ha hb hg hm hs eg em es eb ba bb bg bm bs hc LC LA LB LG LM LS
  go_enter Tryz.func33, Tryz.ntmps33
  go_wp2_with (first
    | (go_at_call 61; first
        | ((with_reducible refine Calls.mono (KG _).out ?_); rintro e w1 ⟨t1, rfl, ht1, hbb⟩; clear KG; have B1 := Lib.hid (Bl.step (show Below w.heap.size w _ by repeat (first | exact Below.refl _ _ | refine Bl.alloc ?_ _ | refine Bl.drew ?_ | refine Below.setCell ?_ (by simp) _)) hbb); have X1 := Lib.hid ((BoxC.new w 44 #[.string ⟨#[]⟩, .int .i64 0]).stayC hbb); clear hbb; have Z1 := Lib.hid (tsize ht1 SG.out (by decide)); have z1 : ¬ 9223372036854775807 < t1.size + 1 := (by have := Z1.out; omega))
        | ((with_reducible refine Calls.mono (KM _).out ?_); rintro e w2 ⟨t2, rfl, ht2, hbb⟩; clear KM; have B2 := Lib.hid (Bl.step (show Below w.heap.size w _ by repeat (first | exact Below.refl _ _ | exact B1.out | refine Bl.alloc ?_ _ | refine Bl.drew ?_ | refine Below.setCell ?_ (by simp) _)) hbb); have X2 := Lib.hid (X1.out.stayC hbb); clear hbb; have Z2 := Lib.hid (tsize ht2 SM.out (by decide)); have z2 : ¬ 9223372036854775807 < t1.size + 1 + t2.size := (by have := Z1.out; have := Z2.out; omega); have z3 : ¬ 9223372036854775807 < t1.size + 1 + t2.size + 1 := (by have := Z1.out; have := Z2.out; omega))
        | ((with_reducible refine Calls.mono (KS _).out ?_); rintro e w3 ⟨t3, rfl, ht3, hbb⟩; clear KS; have B3 := Lib.hid (Bl.step (show Below w.heap.size w _ by repeat (first | exact Below.refl _ _ | exact B2.out | exact B1.out | refine Bl.alloc ?_ _ | refine Bl.drew ?_ | refine Below.setCell ?_ (by simp) _)) hbb); have X3 := Lib.hid (X2.out.stayC hbb); clear hbb; have Z3 := Lib.hid (tsize ht3 SS.out (by decide)); have z4 : ¬ 9223372036854775807 < t1.size + 1 + t2.size + 1 + t3.size := (by have := Z1.out; have := Z2.out; have := Z3.out; omega)))
    | (go_at_call 62; first
        | ((with_reducible refine Calls.mono (KX _).out ?_); rintro e w4 ⟨t4, rfl, ht4, hbb⟩; clear KX; have B4 := Lib.hid (Bl.step (show Below w.heap.size w _ by repeat (first | exact Below.refl _ _ | exact B3.out | exact B2.out | exact B1.out | refine Bl.alloc ?_ _ | refine Bl.drew ?_ | refine Below.setCell ?_ (by simp) _)) hbb); have X4 := Lib.hid (X3.out.stayC hbb); clear hbb; have y0 := X4.out.cell (i := 0) rfl; have y1 := X4.out.cell (i := 1) rfl; have z0 := X4.out.frozen 0; have zz1 := X4.out.frozen 1; have s1 := X4.out.lt)))
  have e0 := ((X4.out.set 0 (.string t4))).cell (i := 0) rfl
  have e1 := (((X4.out.set 0 (.string t4)).set 1 (.int .i64 0))).cell (i := 1) rfl
  refine bodyPost_ret (v := .agg #[.string t4, .int .i64 0]) (by simp [results, Tryz.results33, go_sem, e0, e1]) rfl ?_
  exact ⟨_, rfl, Lib.hid (by exact ht4.out), by repeat (first | exact Below.refl _ _ | exact B4.out | refine Bl.alloc ?_ _ | refine Bl.drew ?_ | refine Below.setCell ?_ (by simp) _)⟩
end Go.Proofs.YtmjifmlibgpjiaaGreatDoor
namespace Go.Proofs.YtmjifmlibgpjiaaGreatDoor
open Go.RowKit Go.Shelf Tx
set_option linter.unusedVariables false
set_option maxRecDepth 100000

set_option maxHeartbeats 4000000 in
theorem RTime_L (c : Nat) (w : World) (hc : c ≤ 86399999999) : Calls Tryz.prog 33 #[.int .i64 (c : Int), .int .u8 76] w (GivesAT w (longT c) 0) := by
  obtain ⟨a, ha⟩ : ∃ a, a = c / 1000000 := ⟨_, rfl⟩
  obtain ⟨b, hb⟩ : ∃ b, b = a / 60 := ⟨_, rfl⟩
  obtain ⟨g, hg⟩ : ∃ g, g = b / 60 := ⟨_, rfl⟩
  obtain ⟨m, hm⟩ : ∃ m, m = b % 60 := ⟨_, rfl⟩
  obtain ⟨s, hs⟩ : ∃ s, s = a % 60 := ⟨_, rfl⟩
  obtain ⟨⟨eg, em, es, eb⟩, ba, bb, bg, bm, bs⟩ := timF c a b g m s hc ha hb hg hm hs
  have LC : c ≤ 9223372036854775807 := Nat.le_trans hc (by decide)
  have LA : a ≤ 9223372036854775807 := Nat.le_trans ba (by decide)
  have LB : b ≤ 9223372036854775807 := Nat.le_trans bb (by decide)
  have LG : g ≤ 9223372036854775807 := Nat.le_trans (Nat.le_of_lt bg) (by decide)
  have LM : m ≤ 9223372036854775807 := Nat.le_trans (Nat.le_of_lt bm) (by decide)
  have LS : s ≤ 9223372036854775807 := Nat.le_trans (Nat.le_of_lt bs) (by decide)
  obtain ⟨d1, d2, d3, d4⟩ := tdlit c a 1000000 1000000 (by decide) ha LC
  obtain ⟨i1, i2, i3, i4⟩ := tdlit a b 60 60 (by decide) hb LA
  obtain ⟨j1, j2, j3, j4⟩ := tdlit b g 60 60 (by decide) hg LB
  obtain ⟨k1, k2, k3, k4⟩ := tmlit b m 60 60 (by decide) hm LB
  obtain ⟨n1, n2, n3, n4⟩ := tmlit a s 60 60 (by decide) hs LA
  have KG := fun W => Lib.hid (rpadded_any g 2 W LG (by decide))
  have KM := fun W => Lib.hid (rpadded_any m 2 W LM (by decide))
  have KS := fun W => Lib.hid (rpadded_any s 2 W LS (by decide))
  have SG := Lib.hid (show g ≤ 9223372036854775807 from LG)
  have SM := Lib.hid (show m ≤ 9223372036854775807 from LM)
  have SS := Lib.hid (show s ≤ 9223372036854775807 from LS)
  have HL := Lib.hid (hmsL_eq c)
  rw [eg, em, es] at HL
  obtain ⟨c1, c2, c3⟩ := inDay c hc
  obtain ⟨x, hx⟩ : ∃ x, x = c % 1000000 := ⟨_, rfl⟩
  obtain ⟨u1, u2, u3, u4⟩ := tmlit c x 1000000 1000000 (by decide) hx LC
  have bx : x < 1000000 := by rw [hx]; exact Nat.mod_lt _ (by decide)
  have LX : x ≤ 9223372036854775807 := Nat.le_trans (Nat.le_of_lt bx) (by decide)
  have HC := Lib.hid (show longT c = hmsL c ++ [46] ++ padd x 6 by unfold longT; rw [hx])
  have KX := fun W => Lib.hid (rpadded_any x 6 W LX (by decide))
  have SX := Lib.hid (show x ≤ 9223372036854775807 from LX)
  clear hx bx LX
  clear ha hb hg hm hs eg em es eb ba bb bg bm bs hc LC LA LB LG LM LS
  go_enter Tryz.func33, Tryz.ntmps33
  go_wp2_with (first
    | (go_at_call 61; first
        | ((with_reducible refine Calls.mono (KG _).out ?_); rintro e w1 ⟨t1, rfl, ht1, hbb⟩; clear KG; have B1 := Lib.hid (Bl.step (show Below w.heap.size w _ by repeat (first | exact Below.refl _ _ | refine Bl.alloc ?_ _ | refine Bl.drew ?_ | refine Below.setCell ?_ (by simp) _)) hbb); have X1 := Lib.hid ((BoxC.new w 44 #[.string ⟨#[]⟩, .int .i64 0]).stayC hbb); clear hbb; have Z1 := Lib.hid (tsize ht1 SG.out (by decide)); have z1 : ¬ 9223372036854775807 < t1.size + 1 := (by have := Z1.out; omega))
        | ((with_reducible refine Calls.mono (KM _).out ?_); rintro e w2 ⟨t2, rfl, ht2, hbb⟩; clear KM; have B2 := Lib.hid (Bl.step (show Below w.heap.size w _ by repeat (first | exact Below.refl _ _ | exact B1.out | refine Bl.alloc ?_ _ | refine Bl.drew ?_ | refine Below.setCell ?_ (by simp) _)) hbb); have X2 := Lib.hid (X1.out.stayC hbb); clear hbb; have Z2 := Lib.hid (tsize ht2 SM.out (by decide)); have z2 : ¬ 9223372036854775807 < t1.size + 1 + t2.size := (by have := Z1.out; have := Z2.out; omega); have z3 : ¬ 9223372036854775807 < t1.size + 1 + t2.size + 1 := (by have := Z1.out; have := Z2.out; omega))
        | ((with_reducible refine Calls.mono (KS _).out ?_); rintro e w3 ⟨t3, rfl, ht3, hbb⟩; clear KS; have B3 := Lib.hid (Bl.step (show Below w.heap.size w _ by repeat (first | exact Below.refl _ _ | exact B2.out | exact B1.out | refine Bl.alloc ?_ _ | refine Bl.drew ?_ | refine Below.setCell ?_ (by simp) _)) hbb); have X3 := Lib.hid (X2.out.stayC hbb); clear hbb; have Z3 := Lib.hid (tsize ht3 SS.out (by decide)); have z4 : ¬ 9223372036854775807 < t1.size + 1 + t2.size + 1 + t3.size := (by have := Z1.out; have := Z2.out; have := Z3.out; omega); have z5 : ¬ 9223372036854775807 < t1.size + 1 + t2.size + 1 + t3.size + 1 := (by have := Z1.out; have := Z2.out; have := Z3.out; omega))
        | ((with_reducible refine Calls.mono (KX _).out ?_); rintro e w4 ⟨t4, rfl, ht4, hbb⟩; clear KX; have B4 := Lib.hid (Bl.step (show Below w.heap.size w _ by repeat (first | exact Below.refl _ _ | exact B3.out | refine Bl.alloc ?_ _ | refine Bl.drew ?_ | refine Below.setCell ?_ (by simp) _)) hbb); have X4 := Lib.hid (X3.out.stayC hbb); clear hbb; have Z4 := Lib.hid (tsize ht4 SX.out (by decide)); have z6 : ¬ 9223372036854775807 < t1.size + 1 + t2.size + 1 + t3.size + 1 + t4.size := (by have := Z1.out; have := Z2.out; have := Z3.out; have := Z4.out; omega); have y0 := X4.out.cell (i := 0) rfl; have y1 := X4.out.cell (i := 1) rfl; have z0 := X4.out.frozen 0; have zz1 := X4.out.frozen 1; have s1 := X4.out.lt)))
  have e0 := ((X4.out.set 0 (.string (t1 ++ ⟨#[58]⟩ ++ t2 ++ ⟨#[58]⟩ ++ t3 ++ ⟨#[46]⟩ ++ t4)))).cell (i := 0) rfl
  have e1 := (((X4.out.set 0 (.string (t1 ++ ⟨#[58]⟩ ++ t2 ++ ⟨#[58]⟩ ++ t3 ++ ⟨#[46]⟩ ++ t4))).set 1 (.int .i64 0))).cell (i := 1) rfl
  refine bodyPost_ret (v := .agg #[.string (t1 ++ ⟨#[58]⟩ ++ t2 ++ ⟨#[58]⟩ ++ t3 ++ ⟨#[46]⟩ ++ t4), .int .i64 0]) (by simp [results, Tryz.results33, go_sem, e0, e1]) rfl ?_
  exact ⟨_, rfl, Lib.hid (by rw [HC.out, HL.out, bts_append, bts_append, bts_append, bts_append, bts_append, bts_append, ht1.out, ht2.out, ht3.out, ht4.out]; simp [bts_lit]), by repeat (first | exact Below.refl _ _ | exact B4.out | refine Bl.alloc ?_ _ | refine Bl.drew ?_ | refine Below.setCell ?_ (by simp) _)⟩
set_option maxHeartbeats 4000000 in
theorem RTime_none (c : Nat) (x : Int) (x67 : (x == 67) = false) (y67 : ¬ x = 67) (x70 : (x == 70) = false) (y70 : ¬ x = 70) (x72 : (x == 72) = false) (y72 : ¬ x = 72) (x76 : (x == 76) = false) (y76 : ¬ x = 76) (x77 : (x == 77) = false) (y77 : ¬ x = 77) (x78 : (x == 78) = false) (y78 : ¬ x = 78) (x83 : (x == 83) = false) (y83 : ¬ x = 83) (w : World) (hc : c ≤ 86399999999) : Calls Tryz.prog 33 #[.int .i64 (c : Int), .int .u8 x] w (GivesAT w ([]) 1) := by
  obtain ⟨a, ha⟩ : ∃ a, a = c / 1000000 := ⟨_, rfl⟩
  obtain ⟨b, hb⟩ : ∃ b, b = a / 60 := ⟨_, rfl⟩
  obtain ⟨g, hg⟩ : ∃ g, g = b / 60 := ⟨_, rfl⟩
  obtain ⟨m, hm⟩ : ∃ m, m = b % 60 := ⟨_, rfl⟩
  obtain ⟨s, hs⟩ : ∃ s, s = a % 60 := ⟨_, rfl⟩
  obtain ⟨⟨eg, em, es, eb⟩, ba, bb, bg, bm, bs⟩ := timF c a b g m s hc ha hb hg hm hs
  have LC : c ≤ 9223372036854775807 := Nat.le_trans hc (by decide)
  have LA : a ≤ 9223372036854775807 := Nat.le_trans ba (by decide)
  have LB : b ≤ 9223372036854775807 := Nat.le_trans bb (by decide)
  have LG : g ≤ 9223372036854775807 := Nat.le_trans (Nat.le_of_lt bg) (by decide)
  have LM : m ≤ 9223372036854775807 := Nat.le_trans (Nat.le_of_lt bm) (by decide)
  have LS : s ≤ 9223372036854775807 := Nat.le_trans (Nat.le_of_lt bs) (by decide)
  obtain ⟨d1, d2, d3, d4⟩ := tdlit c a 1000000 1000000 (by decide) ha LC
  obtain ⟨i1, i2, i3, i4⟩ := tdlit a b 60 60 (by decide) hb LA
  obtain ⟨j1, j2, j3, j4⟩ := tdlit b g 60 60 (by decide) hg LB
  obtain ⟨k1, k2, k3, k4⟩ := tmlit b m 60 60 (by decide) hm LB
  obtain ⟨n1, n2, n3, n4⟩ := tmlit a s 60 60 (by decide) hs LA
  have KG := fun W => Lib.hid (rpadded_any g 2 W LG (by decide))
  have KM := fun W => Lib.hid (rpadded_any m 2 W LM (by decide))
  have KS := fun W => Lib.hid (rpadded_any s 2 W LS (by decide))
  have SG := Lib.hid (show g ≤ 9223372036854775807 from LG)
  have SM := Lib.hid (show m ≤ 9223372036854775807 from LM)
  have SS := Lib.hid (show s ≤ 9223372036854775807 from LS)
  have HL := Lib.hid (hmsL_eq c)
  rw [eg, em, es] at HL
  obtain ⟨c1, c2, c3⟩ := inDay c hc
  clear ha hb hg hm hs eg em es eb ba bb bg bm bs hc LC LA LB LG LM LS
  go_enter Tryz.func33, Tryz.ntmps33
  go_wp2_with (first
    | (go_at_call 61; first
        | ((with_reducible refine Calls.mono (KG _).out ?_); rintro e w1 ⟨t1, rfl, ht1, hbb⟩; clear KG; have B1 := Lib.hid (Bl.step (show Below w.heap.size w _ by repeat (first | exact Below.refl _ _ | refine Bl.alloc ?_ _ | refine Bl.drew ?_ | refine Below.setCell ?_ (by simp) _)) hbb); have X1 := Lib.hid ((BoxC.new w 44 #[.string ⟨#[]⟩, .int .i64 0]).stayC hbb); clear hbb; have Z1 := Lib.hid (tsize ht1 SG.out (by decide)); have z1 : ¬ 9223372036854775807 < t1.size + 1 := (by have := Z1.out; omega))
        | ((with_reducible refine Calls.mono (KM _).out ?_); rintro e w2 ⟨t2, rfl, ht2, hbb⟩; clear KM; have B2 := Lib.hid (Bl.step (show Below w.heap.size w _ by repeat (first | exact Below.refl _ _ | exact B1.out | refine Bl.alloc ?_ _ | refine Bl.drew ?_ | refine Below.setCell ?_ (by simp) _)) hbb); have X2 := Lib.hid (X1.out.stayC hbb); clear hbb; have Z2 := Lib.hid (tsize ht2 SM.out (by decide)); have z2 : ¬ 9223372036854775807 < t1.size + 1 + t2.size := (by have := Z1.out; have := Z2.out; omega); have z3 : ¬ 9223372036854775807 < t1.size + 1 + t2.size + 1 := (by have := Z1.out; have := Z2.out; omega))
        | ((with_reducible refine Calls.mono (KS _).out ?_); rintro e w3 ⟨t3, rfl, ht3, hbb⟩; clear KS; have B3 := Lib.hid (Bl.step (show Below w.heap.size w _ by repeat (first | exact Below.refl _ _ | exact B2.out | exact B1.out | refine Bl.alloc ?_ _ | refine Bl.drew ?_ | refine Below.setCell ?_ (by simp) _)) hbb); have X3 := Lib.hid (X2.out.stayC hbb); clear hbb; have Z3 := Lib.hid (tsize ht3 SS.out (by decide)); have z4 : ¬ 9223372036854775807 < t1.size + 1 + t2.size + 1 + t3.size := (by have := Z1.out; have := Z2.out; have := Z3.out; omega); have y0 := X3.out.cell (i := 0) rfl; have y1 := X3.out.cell (i := 1) rfl; have z0 := X3.out.frozen 0; have zz1 := X3.out.frozen 1; have s1 := X3.out.lt)))
  have e0 := ((X3.out.set 0 (.string ⟨#[]⟩))).cell (i := 0) rfl
  have e1 := (((X3.out.set 0 (.string ⟨#[]⟩)).set 1 (.int .i64 1))).cell (i := 1) rfl
  refine bodyPost_ret (v := .agg #[.string ⟨#[]⟩, .int .i64 1]) (by simp [results, Tryz.results33, go_sem, e0, e1]) rfl ?_
  exact ⟨_, rfl, Lib.hid (by rfl), by repeat (first | exact Below.refl _ _ | exact B3.out | exact B2.out | exact B1.out | refine Bl.alloc ?_ _ | refine Bl.drew ?_ | refine Below.setCell ?_ (by simp) _)⟩
end Go.Proofs.YtmjifmlibgpjiaaGreatDoor
namespace Go.Proofs.YtmjifmlibgpjiaaGreatDoor
open Go.RowKit Go.Shelf Tx
set_option linter.unusedVariables false
set_option maxRecDepth 100000

set_option maxHeartbeats 4000000 in
theorem RTime_Cam (c : Nat) (hh : c / 3600000000 < 12) (w : World) (hc : c ≤ 86399999999) : Calls Tryz.prog 33 #[.int .i64 (c : Int), .int .u8 67] w (GivesAT w (civL c) 0) := by
  obtain ⟨a, ha⟩ : ∃ a, a = c / 1000000 := ⟨_, rfl⟩
  obtain ⟨b, hb⟩ : ∃ b, b = a / 60 := ⟨_, rfl⟩
  obtain ⟨g, hg⟩ : ∃ g, g = b / 60 := ⟨_, rfl⟩
  obtain ⟨m, hm⟩ : ∃ m, m = b % 60 := ⟨_, rfl⟩
  obtain ⟨s, hs⟩ : ∃ s, s = a % 60 := ⟨_, rfl⟩
  obtain ⟨⟨eg, em, es, eb⟩, ba, bb, bg, bm, bs⟩ := timF c a b g m s hc ha hb hg hm hs
  have LC : c ≤ 9223372036854775807 := Nat.le_trans hc (by decide)
  have LA : a ≤ 9223372036854775807 := Nat.le_trans ba (by decide)
  have LB : b ≤ 9223372036854775807 := Nat.le_trans bb (by decide)
  have LG : g ≤ 9223372036854775807 := Nat.le_trans (Nat.le_of_lt bg) (by decide)
  have LM : m ≤ 9223372036854775807 := Nat.le_trans (Nat.le_of_lt bm) (by decide)
  have LS : s ≤ 9223372036854775807 := Nat.le_trans (Nat.le_of_lt bs) (by decide)
  obtain ⟨d1, d2, d3, d4⟩ := tdlit c a 1000000 1000000 (by decide) ha LC
  obtain ⟨i1, i2, i3, i4⟩ := tdlit a b 60 60 (by decide) hb LA
  obtain ⟨j1, j2, j3, j4⟩ := tdlit b g 60 60 (by decide) hg LB
  obtain ⟨k1, k2, k3, k4⟩ := tmlit b m 60 60 (by decide) hm LB
  obtain ⟨n1, n2, n3, n4⟩ := tmlit a s 60 60 (by decide) hs LA
  have KG := fun W => Lib.hid (rpadded_any g 2 W LG (by decide))
  have KM := fun W => Lib.hid (rpadded_any m 2 W LM (by decide))
  have KS := fun W => Lib.hid (rpadded_any s 2 W LS (by decide))
  have SG := Lib.hid (show g ≤ 9223372036854775807 from LG)
  have SM := Lib.hid (show m ≤ 9223372036854775807 from LM)
  have SS := Lib.hid (show s ≤ 9223372036854775807 from LS)
  have HL := Lib.hid (hmsL_eq c)
  rw [eg, em, es] at HL
  obtain ⟨c1, c2, c3⟩ := inDay c hc
  obtain ⟨x, hx⟩ : ∃ x, x = 1 + (g + 11) % 12 := ⟨_, rfl⟩
  have bx : x ≤ 12 := by rw [hx]; have := Nat.mod_lt (g + 11) (show 0 < 12 by decide); clear d1 d2 d3 d4 i1 i2 i3 i4 j1 j2 j3 j4 k1 k2 k3 k4 n1 n2 n3 n4; omega
  have LX : x ≤ 9223372036854775807 := Nat.le_trans bx (by decide)
  have HC := Lib.hid (civL_eq c)
  rw [show hourF c = g from eg, em, ← hx] at HC
  obtain ⟨q, hq⟩ : ∃ q, q = (g + 11) % 12 := ⟨_, rfl⟩
  obtain ⟨u1, u2, u3, u4, u5, u6, u7⟩ := hourF12 g q x bg hq (by rw [hx, hq])
  have KX := fun W => Lib.hid (rtext_any x LX W)
  have SX := Lib.hid (show x ≤ 9223372036854775807 from LX)
  have KM2 := fun W => Lib.hid (rpadded_any m 2 W LM (by decide))
  rw [if_pos (eg ▸ hh)] at HC
  have v1 : decide ((12 : Int) ≤ (g : Int)) = false := decide_eq_false ((halfI g).1 (eg ▸ hh))
  clear hx bx hq hh LX
  clear ha hb hg hm hs eg em es eb ba bb bg bm bs hc LC LA LB LG LM LS
  go_enter Tryz.func33, Tryz.ntmps33
  go_wp2_with (first
    | (go_at_call 61; first
        | ((with_reducible refine Calls.mono (KG _).out ?_); rintro e w1 ⟨t1, rfl, ht1, hbb⟩; clear KG; have B1 := Lib.hid (Bl.step (show Below w.heap.size w _ by repeat (first | exact Below.refl _ _ | refine Bl.alloc ?_ _ | refine Bl.drew ?_ | refine Below.setCell ?_ (by simp) _)) hbb); have X1 := Lib.hid ((BoxC.new w 44 #[.string ⟨#[]⟩, .int .i64 0]).stayC hbb); clear hbb; have Z1 := Lib.hid (tsize ht1 SG.out (by decide)); have z1 : ¬ 9223372036854775807 < t1.size + 1 := (by have := Z1.out; omega))
        | ((with_reducible refine Calls.mono (KM _).out ?_); rintro e w2 ⟨t2, rfl, ht2, hbb⟩; clear KM; have B2 := Lib.hid (Bl.step (show Below w.heap.size w _ by repeat (first | exact Below.refl _ _ | exact B1.out | refine Bl.alloc ?_ _ | refine Bl.drew ?_ | refine Below.setCell ?_ (by simp) _)) hbb); have X2 := Lib.hid (X1.out.stayC hbb); clear hbb; have Z2 := Lib.hid (tsize ht2 SM.out (by decide)); have z2 : ¬ 9223372036854775807 < t1.size + 1 + t2.size := (by have := Z1.out; have := Z2.out; omega); have z3 : ¬ 9223372036854775807 < t1.size + 1 + t2.size + 1 := (by have := Z1.out; have := Z2.out; omega))
        | ((with_reducible refine Calls.mono (KS _).out ?_); rintro e w3 ⟨t3, rfl, ht3, hbb⟩; clear KS; have B3 := Lib.hid (Bl.step (show Below w.heap.size w _ by repeat (first | exact Below.refl _ _ | exact B2.out | exact B1.out | refine Bl.alloc ?_ _ | refine Bl.drew ?_ | refine Below.setCell ?_ (by simp) _)) hbb); have X3 := Lib.hid (X2.out.stayC hbb); clear hbb; have Z3 := Lib.hid (tsize ht3 SS.out (by decide)); have z4 : ¬ 9223372036854775807 < t1.size + 1 + t2.size + 1 + t3.size := (by have := Z1.out; have := Z2.out; have := Z3.out; omega))
        | ((with_reducible refine Calls.mono (KM2 _).out ?_); rintro e w5 ⟨t5, rfl, ht5, hbb⟩; clear KM2; have B5 := Lib.hid (Bl.step (show Below w.heap.size w _ by repeat (first | exact Below.refl _ _ | exact B4.out | refine Bl.alloc ?_ _ | refine Bl.drew ?_ | refine Below.setCell ?_ (by simp) _)) hbb); have X5 := Lib.hid (X4.out.stayC hbb); clear hbb; have Z5 := Lib.hid (tsize ht5 SM.out (by decide)); have z6 : ¬ 9223372036854775807 < t4.size + 1 + t5.size := (by have := Z4.out; have := Z5.out; omega); have z7 : ¬ 9223372036854775807 < t4.size + 1 + t5.size + 2 := (by have := Z4.out; have := Z5.out; omega); have y0 := X5.out.cell (i := 0) rfl; have y1 := X5.out.cell (i := 1) rfl; have z0 := X5.out.frozen 0; have zz1 := X5.out.frozen 1; have s1 := X5.out.lt))
    | (go_at_call 62; first
        | ((with_reducible refine Calls.mono (KX _).out ?_); rintro e w4 ⟨t4, rfl, ht4, hbb⟩; clear KX; have B4 := Lib.hid (Bl.step (show Below w.heap.size w _ by repeat (first | exact Below.refl _ _ | exact B3.out | exact B2.out | exact B1.out | refine Bl.alloc ?_ _ | refine Bl.drew ?_ | refine Below.setCell ?_ (by simp) _)) hbb); have X4 := Lib.hid (X3.out.stayC hbb); clear hbb; have Z4 := Lib.hid (tsize1 ht4 SX.out); have z5 : ¬ 9223372036854775807 < t4.size + 1 := (by have := Z4.out; omega))))
  have e0 := ((X5.out.set 0 (.string (t4 ++ ⟨#[58]⟩ ++ t5 ++ ⟨#[97, 109]⟩)))).cell (i := 0) rfl
  have e1 := (((X5.out.set 0 (.string (t4 ++ ⟨#[58]⟩ ++ t5 ++ ⟨#[97, 109]⟩))).set 1 (.int .i64 0))).cell (i := 1) rfl
  refine bodyPost_ret (v := .agg #[.string (t4 ++ ⟨#[58]⟩ ++ t5 ++ ⟨#[97, 109]⟩), .int .i64 0]) (by simp [results, Tryz.results33, go_sem, e0, e1]) rfl ?_
  exact ⟨_, rfl, Lib.hid (by rw [HC.out, bts_append, bts_append, bts_append, ht4.out, ht5.out, padd_low]; simp [bts_lit]), by repeat (first | exact Below.refl _ _ | exact B5.out | exact B4.out | refine Bl.alloc ?_ _ | refine Bl.drew ?_ | refine Below.setCell ?_ (by simp) _)⟩
set_option maxHeartbeats 4000000 in
theorem RTime_Cpm (c : Nat) (hh : ¬ c / 3600000000 < 12) (w : World) (hc : c ≤ 86399999999) : Calls Tryz.prog 33 #[.int .i64 (c : Int), .int .u8 67] w (GivesAT w (civL c) 0) := by
  obtain ⟨a, ha⟩ : ∃ a, a = c / 1000000 := ⟨_, rfl⟩
  obtain ⟨b, hb⟩ : ∃ b, b = a / 60 := ⟨_, rfl⟩
  obtain ⟨g, hg⟩ : ∃ g, g = b / 60 := ⟨_, rfl⟩
  obtain ⟨m, hm⟩ : ∃ m, m = b % 60 := ⟨_, rfl⟩
  obtain ⟨s, hs⟩ : ∃ s, s = a % 60 := ⟨_, rfl⟩
  obtain ⟨⟨eg, em, es, eb⟩, ba, bb, bg, bm, bs⟩ := timF c a b g m s hc ha hb hg hm hs
  have LC : c ≤ 9223372036854775807 := Nat.le_trans hc (by decide)
  have LA : a ≤ 9223372036854775807 := Nat.le_trans ba (by decide)
  have LB : b ≤ 9223372036854775807 := Nat.le_trans bb (by decide)
  have LG : g ≤ 9223372036854775807 := Nat.le_trans (Nat.le_of_lt bg) (by decide)
  have LM : m ≤ 9223372036854775807 := Nat.le_trans (Nat.le_of_lt bm) (by decide)
  have LS : s ≤ 9223372036854775807 := Nat.le_trans (Nat.le_of_lt bs) (by decide)
  obtain ⟨d1, d2, d3, d4⟩ := tdlit c a 1000000 1000000 (by decide) ha LC
  obtain ⟨i1, i2, i3, i4⟩ := tdlit a b 60 60 (by decide) hb LA
  obtain ⟨j1, j2, j3, j4⟩ := tdlit b g 60 60 (by decide) hg LB
  obtain ⟨k1, k2, k3, k4⟩ := tmlit b m 60 60 (by decide) hm LB
  obtain ⟨n1, n2, n3, n4⟩ := tmlit a s 60 60 (by decide) hs LA
  have KG := fun W => Lib.hid (rpadded_any g 2 W LG (by decide))
  have KM := fun W => Lib.hid (rpadded_any m 2 W LM (by decide))
  have KS := fun W => Lib.hid (rpadded_any s 2 W LS (by decide))
  have SG := Lib.hid (show g ≤ 9223372036854775807 from LG)
  have SM := Lib.hid (show m ≤ 9223372036854775807 from LM)
  have SS := Lib.hid (show s ≤ 9223372036854775807 from LS)
  have HL := Lib.hid (hmsL_eq c)
  rw [eg, em, es] at HL
  obtain ⟨c1, c2, c3⟩ := inDay c hc
  obtain ⟨x, hx⟩ : ∃ x, x = 1 + (g + 11) % 12 := ⟨_, rfl⟩
  have bx : x ≤ 12 := by rw [hx]; have := Nat.mod_lt (g + 11) (show 0 < 12 by decide); clear d1 d2 d3 d4 i1 i2 i3 i4 j1 j2 j3 j4 k1 k2 k3 k4 n1 n2 n3 n4; omega
  have LX : x ≤ 9223372036854775807 := Nat.le_trans bx (by decide)
  have HC := Lib.hid (civL_eq c)
  rw [show hourF c = g from eg, em, ← hx] at HC
  obtain ⟨q, hq⟩ : ∃ q, q = (g + 11) % 12 := ⟨_, rfl⟩
  obtain ⟨u1, u2, u3, u4, u5, u6, u7⟩ := hourF12 g q x bg hq (by rw [hx, hq])
  have KX := fun W => Lib.hid (rtext_any x LX W)
  have SX := Lib.hid (show x ≤ 9223372036854775807 from LX)
  have KM2 := fun W => Lib.hid (rpadded_any m 2 W LM (by decide))
  rw [if_neg (eg ▸ hh)] at HC
  have v1 : (12 : Int) ≤ (g : Int) := (halfI g).2 (eg ▸ hh)
  clear hx bx hq hh LX
  clear ha hb hg hm hs eg em es eb ba bb bg bm bs hc LC LA LB LG LM LS
  go_enter Tryz.func33, Tryz.ntmps33
  go_wp2_with (first
    | (go_at_call 61; first
        | ((with_reducible refine Calls.mono (KG _).out ?_); rintro e w1 ⟨t1, rfl, ht1, hbb⟩; clear KG; have B1 := Lib.hid (Bl.step (show Below w.heap.size w _ by repeat (first | exact Below.refl _ _ | refine Bl.alloc ?_ _ | refine Bl.drew ?_ | refine Below.setCell ?_ (by simp) _)) hbb); have X1 := Lib.hid ((BoxC.new w 44 #[.string ⟨#[]⟩, .int .i64 0]).stayC hbb); clear hbb; have Z1 := Lib.hid (tsize ht1 SG.out (by decide)); have z1 : ¬ 9223372036854775807 < t1.size + 1 := (by have := Z1.out; omega))
        | ((with_reducible refine Calls.mono (KM _).out ?_); rintro e w2 ⟨t2, rfl, ht2, hbb⟩; clear KM; have B2 := Lib.hid (Bl.step (show Below w.heap.size w _ by repeat (first | exact Below.refl _ _ | exact B1.out | refine Bl.alloc ?_ _ | refine Bl.drew ?_ | refine Below.setCell ?_ (by simp) _)) hbb); have X2 := Lib.hid (X1.out.stayC hbb); clear hbb; have Z2 := Lib.hid (tsize ht2 SM.out (by decide)); have z2 : ¬ 9223372036854775807 < t1.size + 1 + t2.size := (by have := Z1.out; have := Z2.out; omega); have z3 : ¬ 9223372036854775807 < t1.size + 1 + t2.size + 1 := (by have := Z1.out; have := Z2.out; omega))
        | ((with_reducible refine Calls.mono (KS _).out ?_); rintro e w3 ⟨t3, rfl, ht3, hbb⟩; clear KS; have B3 := Lib.hid (Bl.step (show Below w.heap.size w _ by repeat (first | exact Below.refl _ _ | exact B2.out | exact B1.out | refine Bl.alloc ?_ _ | refine Bl.drew ?_ | refine Below.setCell ?_ (by simp) _)) hbb); have X3 := Lib.hid (X2.out.stayC hbb); clear hbb; have Z3 := Lib.hid (tsize ht3 SS.out (by decide)); have z4 : ¬ 9223372036854775807 < t1.size + 1 + t2.size + 1 + t3.size := (by have := Z1.out; have := Z2.out; have := Z3.out; omega))
        | ((with_reducible refine Calls.mono (KM2 _).out ?_); rintro e w5 ⟨t5, rfl, ht5, hbb⟩; clear KM2; have B5 := Lib.hid (Bl.step (show Below w.heap.size w _ by repeat (first | exact Below.refl _ _ | exact B4.out | refine Bl.alloc ?_ _ | refine Bl.drew ?_ | refine Below.setCell ?_ (by simp) _)) hbb); have X5 := Lib.hid (X4.out.stayC hbb); clear hbb; have Z5 := Lib.hid (tsize ht5 SM.out (by decide)); have z6 : ¬ 9223372036854775807 < t4.size + 1 + t5.size := (by have := Z4.out; have := Z5.out; omega); have z7 : ¬ 9223372036854775807 < t4.size + 1 + t5.size + 2 := (by have := Z4.out; have := Z5.out; omega); have y0 := X5.out.cell (i := 0) rfl; have y1 := X5.out.cell (i := 1) rfl; have z0 := X5.out.frozen 0; have zz1 := X5.out.frozen 1; have s1 := X5.out.lt))
    | (go_at_call 62; first
        | ((with_reducible refine Calls.mono (KX _).out ?_); rintro e w4 ⟨t4, rfl, ht4, hbb⟩; clear KX; have B4 := Lib.hid (Bl.step (show Below w.heap.size w _ by repeat (first | exact Below.refl _ _ | exact B3.out | exact B2.out | exact B1.out | refine Bl.alloc ?_ _ | refine Bl.drew ?_ | refine Below.setCell ?_ (by simp) _)) hbb); have X4 := Lib.hid (X3.out.stayC hbb); clear hbb; have Z4 := Lib.hid (tsize1 ht4 SX.out); have z5 : ¬ 9223372036854775807 < t4.size + 1 := (by have := Z4.out; omega))))
  have e0 := ((X5.out.set 0 (.string (t4 ++ ⟨#[58]⟩ ++ t5 ++ ⟨#[112, 109]⟩)))).cell (i := 0) rfl
  have e1 := (((X5.out.set 0 (.string (t4 ++ ⟨#[58]⟩ ++ t5 ++ ⟨#[112, 109]⟩))).set 1 (.int .i64 0))).cell (i := 1) rfl
  refine bodyPost_ret (v := .agg #[.string (t4 ++ ⟨#[58]⟩ ++ t5 ++ ⟨#[112, 109]⟩), .int .i64 0]) (by simp [results, Tryz.results33, go_sem, e0, e1]) rfl ?_
  exact ⟨_, rfl, Lib.hid (by rw [HC.out, bts_append, bts_append, bts_append, ht4.out, ht5.out, padd_low]; simp [bts_lit]), by repeat (first | exact Below.refl _ _ | exact B5.out | exact B4.out | refine Bl.alloc ?_ _ | refine Bl.drew ?_ | refine Below.setCell ?_ (by simp) _)⟩
end Go.Proofs.YtmjifmlibgpjiaaGreatDoor
namespace Go.Proofs.YtmjifmlibgpjiaaGreatDoor
open Go.RowKit Go.Shelf Tx
set_option linter.unusedVariables false
set_option maxRecDepth 100000

theorem RTime_C (c : Nat) (w : World) (hc : c ≤ 86399999999) : Calls Tryz.prog 33 #[.int .i64 (c : Int), .int .u8 67] w (GivesAT w (civL c) 0) := by
  by_cases hh : c / 3600000000 < 12
  · exact RTime_Cam c hh w hc
  · exact RTime_Cpm c hh w hc
set_option maxHeartbeats 1000000 in
theorem RTime_bad (c x : Int) (w : World) (hc : ¬ (0 ≤ c ∧ c ≤ 86399999999)) : Calls Tryz.prog 33 #[.int .i64 c, .int .u8 x] w (GivesAT w [] 1) := by
  rcases Int.lt_or_le c 0 with h | h
  · clear hc
    go_enter Tryz.func33, Tryz.ntmps33
    go_wp2
    refine bodyPost_ret (v := .agg #[.string ⟨#[]⟩, .int .i64 1]) (by simp [results, Tryz.results33, go_sem]) rfl ?_
    exact ⟨_, rfl, Lib.hid rfl, by repeat (first | exact Below.refl _ _ | refine Bl.alloc ?_ _ | refine Bl.drew ?_ | refine Below.setCell ?_ (by simp) _)⟩
  · have h1 : ¬ c < 0 := by omega
    have h2 : (86400000000 : Int) ≤ c := by omega
    have h3 : ¬ c < 86400000000 := by omega
    clear hc h
    go_enter Tryz.func33, Tryz.ntmps33
    go_wp2
    refine bodyPost_ret (v := .agg #[.string ⟨#[]⟩, .int .i64 1]) (by simp [results, Tryz.results33, go_sem]) rfl ?_
    exact ⟨_, rfl, Lib.hid rfl, by repeat (first | exact Below.refl _ _ | refine Bl.alloc ?_ _ | refine Bl.drew ?_ | refine Below.setCell ?_ (by simp) _)⟩
set_option maxHeartbeats 1000000 in
theorem RElapsed_bad (c : Int) (w : World) (h : c < 0) : Calls Tryz.prog 37 #[.int .i64 c] w (GivesAT w [] 1) := by
  go_enter Tryz.func37, Tryz.ntmps37
  go_wp2
  refine bodyPost_ret (v := .agg #[.string ⟨#[]⟩, .int .i64 1]) (by simp [results, Tryz.results37, go_sem]) rfl ?_
  exact ⟨_, rfl, Lib.hid rfl, by repeat (first | exact Below.refl _ _ | refine Bl.alloc ?_ _ | refine Bl.drew ?_ | refine Below.setCell ?_ (by simp) _)⟩
set_option maxHeartbeats 1000000 in
theorem RElapsed_zero (w : World) : Calls Tryz.prog 37 #[.int .i64 0] w (GivesAT w [48] 0) := by
  go_enter Tryz.func37, Tryz.ntmps37
  go_wp2
  refine bodyPost_ret (v := .agg #[.string ⟨#[48]⟩, .int .i64 0]) (by simp [results, Tryz.results37, go_sem]) rfl ?_
  exact ⟨_, rfl, Lib.hid rfl, by repeat (first | exact Below.refl _ _ | refine Bl.alloc ?_ _ | refine Bl.drew ?_ | refine Below.setCell ?_ (by simp) _)⟩
set_option maxHeartbeats 2000000 in
theorem RElapsed_pos (c : Nat) (w : World) (h0 : 1 ≤ c) (hc : c ≤ 9223372036854775807) : Calls Tryz.prog 37 #[.int .i64 (c : Int)] w (GivesAT w (Lib.join [padd (c / 1000000) 1, padd (c % 1000000) 6] [46]) 0) := by
  obtain ⟨a, ha⟩ : ∃ a, a = c / 1000000 := ⟨_, rfl⟩
  obtain ⟨x, hx⟩ : ∃ x, x = c % 1000000 := ⟨_, rfl⟩
  obtain ⟨d1, d2, d3, d4⟩ := tdlit c a 1000000 1000000 (by decide) ha (by omega)
  obtain ⟨u1, u2, u3, u4⟩ := tmlit c x 1000000 1000000 (by decide) hx (by omega)
  have KA := fun W => Lib.hid (rtext_any a (by omega) W)
  have KX := fun W => Lib.hid (rpadded_any x 6 W (by omega) (by decide))
  have SA := Lib.hid (show a ≤ 9223372036854775807 by omega)
  have SX := Lib.hid (show x ≤ 9223372036854775807 by omega)
  have f1 : ¬ (c : Int) < 0 := by omega
  have f2 : ((c : Int) == 0) = false := beq_eq_false_iff_ne.2 (by omega)
  have f3 : ¬ (c : Int) = 0 := by omega
  rw [← ha, ← hx]
  clear ha hx h0 hc
  go_enter Tryz.func37, Tryz.ntmps37
  go_wp2_with (first
    | (go_at_call 62; ((with_reducible refine Calls.mono (KA _).out ?_); rintro e w1 ⟨t1, rfl, ht1, hbb⟩; clear KA; have B1 := Lib.hid (Bl.step (show Below w.heap.size w _ by repeat (first | exact Below.refl _ _ | refine Bl.alloc ?_ _ | refine Bl.drew ?_ | refine Below.setCell ?_ (by simp) _)) hbb); have X1 := Lib.hid ((BoxC.new w 44 #[.string ⟨#[]⟩, .int .i64 0]).stayC hbb); clear hbb; have Z1 := Lib.hid (tsize1 ht1 SA.out); have z1 : ¬ 9223372036854775807 < t1.size + 1 := (by have := Z1.out; omega)))
    | (go_at_call 61; ((with_reducible refine Calls.mono (KX _).out ?_); rintro e w2 ⟨t2, rfl, ht2, hbb⟩; clear KX; have B2 := Lib.hid (Bl.step (show Below w.heap.size w _ by repeat (first | exact Below.refl _ _ | exact B1.out | refine Bl.alloc ?_ _ | refine Bl.drew ?_ | refine Below.setCell ?_ (by simp) _)) hbb); have X2 := Lib.hid (X1.out.stayC hbb); clear hbb; have Z2 := Lib.hid (tsize ht2 SX.out (by decide)); have z2 : ¬ 9223372036854775807 < t1.size + 1 + t2.size := (by have := Z1.out; have := Z2.out; omega); have y0 := X2.out.cell (i := 0) rfl; have y1 := X2.out.cell (i := 1) rfl; have z0 := X2.out.frozen 0; have zz1 := X2.out.frozen 1; have s1 := X2.out.lt)))
  have e0 := (X2.out.set 0 (.string (t1 ++ ⟨#[46]⟩ ++ t2))).cell (i := 0) rfl
  have e1 := ((X2.out.set 0 (.string (t1 ++ ⟨#[46]⟩ ++ t2))).set 1 (.int .i64 0)).cell (i := 1) rfl
  refine bodyPost_ret (v := .agg #[.string (t1 ++ ⟨#[46]⟩ ++ t2), .int .i64 0]) (by simp [results, Tryz.results37, go_sem, e0, e1]) rfl ?_
  exact ⟨_, rfl, Lib.hid (by rw [bts_append, bts_append, ht1.out, ht2.out]; simp [bts_lit, Lib.join, padd_low]), by repeat (first | exact Below.refl _ _ | exact B2.out | refine Bl.alloc ?_ _ | refine Bl.drew ?_ | refine Below.setCell ?_ (by simp) _)⟩
end Go.Proofs.YtmjifmlibgpjiaaGreatDoor
namespace Go.Proofs.YtmjifmlibgpjiaaGreatDoor
open Go.RowKit Go.Shelf Tx
set_option linter.unusedVariables false
set_option maxRecDepth 100000

/-- What the reference's reader gives. -/
def refV (v : Int) : Int × Int := if v < 0 then (0, 2) else (v, 0)
set_option maxHeartbeats 1000000 in
theorem RReadTime_C_neg (s : ByteArray) (w : World) (hs : s.size ≤ 1000000) (hv : civilV (bts s) < 0) : Calls Tryz.prog 35 #[.string s, .int .u8 67] w (GivesA w #[.int .i64 0, .int .i64 2]) := by
  have HS := Lib.hid hs
  have KX := fun W => Lib.hid (Rcivil_any s W HS.out)
  obtain ⟨v, ev⟩ : ∃ v, v = civilV (bts s) := ⟨_, rfl⟩
  rw [← ev] at hv KX
  clear hs ev
  go_enter Tryz.func35, Tryz.ntmps35
  go_wp2_with (go_at_call 75; refine Calls.mono (KX _).out ?_; rintro e w1 ⟨rfl, rfl⟩)
  refine bodyPost_ret (v := .agg #[.int .i64 0, .int .i64 2]) (by simp [results, Tryz.results35, go_sem]) rfl ?_
  exact ⟨rfl, by repeat (first | exact Below.refl _ _ | refine Bl.alloc ?_ _ | refine Bl.drew ?_ | refine Below.setCell ?_ (by simp) _)⟩
set_option maxHeartbeats 1000000 in
theorem RReadTime_C_pos (s : ByteArray) (w : World) (hs : s.size ≤ 1000000) (hv : ¬ civilV (bts s) < 0) : Calls Tryz.prog 35 #[.string s, .int .u8 67] w (GivesA w #[.int .i64 (civilV (bts s)), .int .i64 0]) := by
  have HS := Lib.hid hs
  have KX := fun W => Lib.hid (Rcivil_any s W HS.out)
  obtain ⟨v, ev⟩ : ∃ v, v = civilV (bts s) := ⟨_, rfl⟩
  rw [← ev] at hv KX ⊢
  clear hs ev
  go_enter Tryz.func35, Tryz.ntmps35
  go_wp2_with (go_at_call 75; refine Calls.mono (KX _).out ?_; rintro e w1 ⟨rfl, rfl⟩)
  refine bodyPost_ret (v := .agg #[.int .i64 v, .int .i64 0]) (by simp [results, Tryz.results35, go_sem]) rfl ?_
  exact ⟨rfl, by repeat (first | exact Below.refl _ _ | refine Bl.alloc ?_ _ | refine Bl.drew ?_ | refine Below.setCell ?_ (by simp) _)⟩
theorem RReadTime_C (s : ByteArray) (w : World) (hs : s.size ≤ 1000000) : Calls Tryz.prog 35 #[.string s, .int .u8 67] w (GivesA w #[.int .i64 (refV (civilV (bts s))).1, .int .i64 (refV (civilV (bts s))).2]) := by
  by_cases hv : civilV (bts s) < 0
  · rw [show refV (civilV (bts s)) = (0, 2) by unfold refV; exact if_pos hv]
    exact RReadTime_C_neg s w hs hv
  · rw [show refV (civilV (bts s)) = (civilV (bts s), 0) by unfold refV; exact if_neg hv]
    exact RReadTime_C_pos s w hs hv
set_option maxHeartbeats 1000000 in
theorem RReadTime_F_neg (s : ByteArray) (w : World) (hs : s.size ≤ 1000000) (hv : unitV (bts s) 1 < 0) : Calls Tryz.prog 35 #[.string s, .int .u8 70] w (GivesA w #[.int .i64 0, .int .i64 2]) := by
  have HS := Lib.hid hs
  have KX := fun W => Lib.hid (Runit_1 s W)
  obtain ⟨v, ev⟩ : ∃ v, v = unitV (bts s) 1 := ⟨_, rfl⟩
  rw [← ev] at hv KX
  clear hs ev
  go_enter Tryz.func35, Tryz.ntmps35
  go_wp2_with (go_at_call 76; refine Calls.mono (KX _).out ?_; rintro e w1 ⟨rfl, rfl⟩)
  refine bodyPost_ret (v := .agg #[.int .i64 0, .int .i64 2]) (by simp [results, Tryz.results35, go_sem]) rfl ?_
  exact ⟨rfl, by repeat (first | exact Below.refl _ _ | refine Bl.alloc ?_ _ | refine Bl.drew ?_ | refine Below.setCell ?_ (by simp) _)⟩
set_option maxHeartbeats 1000000 in
theorem RReadTime_F_pos (s : ByteArray) (w : World) (hs : s.size ≤ 1000000) (hv : ¬ unitV (bts s) 1 < 0) : Calls Tryz.prog 35 #[.string s, .int .u8 70] w (GivesA w #[.int .i64 (unitV (bts s) 1), .int .i64 0]) := by
  have HS := Lib.hid hs
  have KX := fun W => Lib.hid (Runit_1 s W)
  obtain ⟨v, ev⟩ : ∃ v, v = unitV (bts s) 1 := ⟨_, rfl⟩
  rw [← ev] at hv KX ⊢
  clear hs ev
  go_enter Tryz.func35, Tryz.ntmps35
  go_wp2_with (go_at_call 76; refine Calls.mono (KX _).out ?_; rintro e w1 ⟨rfl, rfl⟩)
  refine bodyPost_ret (v := .agg #[.int .i64 v, .int .i64 0]) (by simp [results, Tryz.results35, go_sem]) rfl ?_
  exact ⟨rfl, by repeat (first | exact Below.refl _ _ | refine Bl.alloc ?_ _ | refine Bl.drew ?_ | refine Below.setCell ?_ (by simp) _)⟩
theorem RReadTime_F (s : ByteArray) (w : World) (hs : s.size ≤ 1000000) : Calls Tryz.prog 35 #[.string s, .int .u8 70] w (GivesA w #[.int .i64 (refV (unitV (bts s) 1)).1, .int .i64 (refV (unitV (bts s) 1)).2]) := by
  by_cases hv : unitV (bts s) 1 < 0
  · rw [show refV (unitV (bts s) 1) = (0, 2) by unfold refV; exact if_pos hv]
    exact RReadTime_F_neg s w hs hv
  · rw [show refV (unitV (bts s) 1) = (unitV (bts s) 1, 0) by unfold refV; exact if_neg hv]
    exact RReadTime_F_pos s w hs hv
set_option maxHeartbeats 1000000 in
theorem RReadTime_H_neg (s : ByteArray) (w : World) (hs : s.size ≤ 1000000) (hv : unitV (bts s) 3600000000 < 0) : Calls Tryz.prog 35 #[.string s, .int .u8 72] w (GivesA w #[.int .i64 0, .int .i64 2]) := by
  have HS := Lib.hid hs
  have KX := fun W => Lib.hid (Runit_3600000000 s W)
  obtain ⟨v, ev⟩ : ∃ v, v = unitV (bts s) 3600000000 := ⟨_, rfl⟩
  rw [← ev] at hv KX
  clear hs ev
  go_enter Tryz.func35, Tryz.ntmps35
  go_wp2_with (go_at_call 76; refine Calls.mono (KX _).out ?_; rintro e w1 ⟨rfl, rfl⟩)
  refine bodyPost_ret (v := .agg #[.int .i64 0, .int .i64 2]) (by simp [results, Tryz.results35, go_sem]) rfl ?_
  exact ⟨rfl, by repeat (first | exact Below.refl _ _ | refine Bl.alloc ?_ _ | refine Bl.drew ?_ | refine Below.setCell ?_ (by simp) _)⟩
set_option maxHeartbeats 1000000 in
theorem RReadTime_H_pos (s : ByteArray) (w : World) (hs : s.size ≤ 1000000) (hv : ¬ unitV (bts s) 3600000000 < 0) : Calls Tryz.prog 35 #[.string s, .int .u8 72] w (GivesA w #[.int .i64 (unitV (bts s) 3600000000), .int .i64 0]) := by
  have HS := Lib.hid hs
  have KX := fun W => Lib.hid (Runit_3600000000 s W)
  obtain ⟨v, ev⟩ : ∃ v, v = unitV (bts s) 3600000000 := ⟨_, rfl⟩
  rw [← ev] at hv KX ⊢
  clear hs ev
  go_enter Tryz.func35, Tryz.ntmps35
  go_wp2_with (go_at_call 76; refine Calls.mono (KX _).out ?_; rintro e w1 ⟨rfl, rfl⟩)
  refine bodyPost_ret (v := .agg #[.int .i64 v, .int .i64 0]) (by simp [results, Tryz.results35, go_sem]) rfl ?_
  exact ⟨rfl, by repeat (first | exact Below.refl _ _ | refine Bl.alloc ?_ _ | refine Bl.drew ?_ | refine Below.setCell ?_ (by simp) _)⟩
theorem RReadTime_H (s : ByteArray) (w : World) (hs : s.size ≤ 1000000) : Calls Tryz.prog 35 #[.string s, .int .u8 72] w (GivesA w #[.int .i64 (refV (unitV (bts s) 3600000000)).1, .int .i64 (refV (unitV (bts s) 3600000000)).2]) := by
  by_cases hv : unitV (bts s) 3600000000 < 0
  · rw [show refV (unitV (bts s) 3600000000) = (0, 2) by unfold refV; exact if_pos hv]
    exact RReadTime_H_neg s w hs hv
  · rw [show refV (unitV (bts s) 3600000000) = (unitV (bts s) 3600000000, 0) by unfold refV; exact if_neg hv]
    exact RReadTime_H_pos s w hs hv
set_option maxHeartbeats 1000000 in
theorem RReadTime_L_neg (s : ByteArray) (w : World) (hs : s.size ≤ 1000000) (hv : longV (bts s) < 0) : Calls Tryz.prog 35 #[.string s, .int .u8 76] w (GivesA w #[.int .i64 0, .int .i64 2]) := by
  have HS := Lib.hid hs
  have KX := fun W => Lib.hid (Rlong_any s W)
  obtain ⟨v, ev⟩ : ∃ v, v = longV (bts s) := ⟨_, rfl⟩
  rw [← ev] at hv KX
  clear hs ev
  go_enter Tryz.func35, Tryz.ntmps35
  go_wp2_with (go_at_call 77; refine Calls.mono (KX _).out ?_; rintro e w1 ⟨rfl, rfl⟩)
  refine bodyPost_ret (v := .agg #[.int .i64 0, .int .i64 2]) (by simp [results, Tryz.results35, go_sem]) rfl ?_
  exact ⟨rfl, by repeat (first | exact Below.refl _ _ | refine Bl.alloc ?_ _ | refine Bl.drew ?_ | refine Below.setCell ?_ (by simp) _)⟩
set_option maxHeartbeats 1000000 in
theorem RReadTime_L_pos (s : ByteArray) (w : World) (hs : s.size ≤ 1000000) (hv : ¬ longV (bts s) < 0) : Calls Tryz.prog 35 #[.string s, .int .u8 76] w (GivesA w #[.int .i64 (longV (bts s)), .int .i64 0]) := by
  have HS := Lib.hid hs
  have KX := fun W => Lib.hid (Rlong_any s W)
  obtain ⟨v, ev⟩ : ∃ v, v = longV (bts s) := ⟨_, rfl⟩
  rw [← ev] at hv KX ⊢
  clear hs ev
  go_enter Tryz.func35, Tryz.ntmps35
  go_wp2_with (go_at_call 77; refine Calls.mono (KX _).out ?_; rintro e w1 ⟨rfl, rfl⟩)
  refine bodyPost_ret (v := .agg #[.int .i64 v, .int .i64 0]) (by simp [results, Tryz.results35, go_sem]) rfl ?_
  exact ⟨rfl, by repeat (first | exact Below.refl _ _ | refine Bl.alloc ?_ _ | refine Bl.drew ?_ | refine Below.setCell ?_ (by simp) _)⟩
theorem RReadTime_L (s : ByteArray) (w : World) (hs : s.size ≤ 1000000) : Calls Tryz.prog 35 #[.string s, .int .u8 76] w (GivesA w #[.int .i64 (refV (longV (bts s))).1, .int .i64 (refV (longV (bts s))).2]) := by
  by_cases hv : longV (bts s) < 0
  · rw [show refV (longV (bts s)) = (0, 2) by unfold refV; exact if_pos hv]
    exact RReadTime_L_neg s w hs hv
  · rw [show refV (longV (bts s)) = (longV (bts s), 0) by unfold refV; exact if_neg hv]
    exact RReadTime_L_pos s w hs hv
set_option maxHeartbeats 1000000 in
theorem RReadTime_M_neg (s : ByteArray) (w : World) (hs : s.size ≤ 1000000) (hv : unitV (bts s) 60000000 < 0) : Calls Tryz.prog 35 #[.string s, .int .u8 77] w (GivesA w #[.int .i64 0, .int .i64 2]) := by
  have HS := Lib.hid hs
  have KX := fun W => Lib.hid (Runit_60000000 s W)
  obtain ⟨v, ev⟩ : ∃ v, v = unitV (bts s) 60000000 := ⟨_, rfl⟩
  rw [← ev] at hv KX
  clear hs ev
  go_enter Tryz.func35, Tryz.ntmps35
  go_wp2_with (go_at_call 76; refine Calls.mono (KX _).out ?_; rintro e w1 ⟨rfl, rfl⟩)
  refine bodyPost_ret (v := .agg #[.int .i64 0, .int .i64 2]) (by simp [results, Tryz.results35, go_sem]) rfl ?_
  exact ⟨rfl, by repeat (first | exact Below.refl _ _ | refine Bl.alloc ?_ _ | refine Bl.drew ?_ | refine Below.setCell ?_ (by simp) _)⟩
set_option maxHeartbeats 1000000 in
theorem RReadTime_M_pos (s : ByteArray) (w : World) (hs : s.size ≤ 1000000) (hv : ¬ unitV (bts s) 60000000 < 0) : Calls Tryz.prog 35 #[.string s, .int .u8 77] w (GivesA w #[.int .i64 (unitV (bts s) 60000000), .int .i64 0]) := by
  have HS := Lib.hid hs
  have KX := fun W => Lib.hid (Runit_60000000 s W)
  obtain ⟨v, ev⟩ : ∃ v, v = unitV (bts s) 60000000 := ⟨_, rfl⟩
  rw [← ev] at hv KX ⊢
  clear hs ev
  go_enter Tryz.func35, Tryz.ntmps35
  go_wp2_with (go_at_call 76; refine Calls.mono (KX _).out ?_; rintro e w1 ⟨rfl, rfl⟩)
  refine bodyPost_ret (v := .agg #[.int .i64 v, .int .i64 0]) (by simp [results, Tryz.results35, go_sem]) rfl ?_
  exact ⟨rfl, by repeat (first | exact Below.refl _ _ | refine Bl.alloc ?_ _ | refine Bl.drew ?_ | refine Below.setCell ?_ (by simp) _)⟩
theorem RReadTime_M (s : ByteArray) (w : World) (hs : s.size ≤ 1000000) : Calls Tryz.prog 35 #[.string s, .int .u8 77] w (GivesA w #[.int .i64 (refV (unitV (bts s) 60000000)).1, .int .i64 (refV (unitV (bts s) 60000000)).2]) := by
  by_cases hv : unitV (bts s) 60000000 < 0
  · rw [show refV (unitV (bts s) 60000000) = (0, 2) by unfold refV; exact if_pos hv]
    exact RReadTime_M_neg s w hs hv
  · rw [show refV (unitV (bts s) 60000000) = (unitV (bts s) 60000000, 0) by unfold refV; exact if_neg hv]
    exact RReadTime_M_pos s w hs hv
set_option maxHeartbeats 1000000 in
theorem RReadTime_N_neg (s : ByteArray) (w : World) (hs : s.size ≤ 1000000) (hv : clockV (bts s) < 0) : Calls Tryz.prog 35 #[.string s, .int .u8 78] w (GivesA w #[.int .i64 0, .int .i64 2]) := by
  have HS := Lib.hid hs
  have KX := fun W => Lib.hid (Rclock_any s W)
  obtain ⟨v, ev⟩ : ∃ v, v = clockV (bts s) := ⟨_, rfl⟩
  rw [← ev] at hv KX
  clear hs ev
  go_enter Tryz.func35, Tryz.ntmps35
  go_wp2_with (go_at_call 78; refine Calls.mono (KX _).out ?_; rintro e w1 ⟨rfl, rfl⟩)
  refine bodyPost_ret (v := .agg #[.int .i64 0, .int .i64 2]) (by simp [results, Tryz.results35, go_sem]) rfl ?_
  exact ⟨rfl, by repeat (first | exact Below.refl _ _ | refine Bl.alloc ?_ _ | refine Bl.drew ?_ | refine Below.setCell ?_ (by simp) _)⟩
set_option maxHeartbeats 1000000 in
theorem RReadTime_N_pos (s : ByteArray) (w : World) (hs : s.size ≤ 1000000) (hv : ¬ clockV (bts s) < 0) : Calls Tryz.prog 35 #[.string s, .int .u8 78] w (GivesA w #[.int .i64 (clockV (bts s)), .int .i64 0]) := by
  have HS := Lib.hid hs
  have KX := fun W => Lib.hid (Rclock_any s W)
  obtain ⟨v, ev⟩ : ∃ v, v = clockV (bts s) := ⟨_, rfl⟩
  rw [← ev] at hv KX ⊢
  clear hs ev
  go_enter Tryz.func35, Tryz.ntmps35
  go_wp2_with (go_at_call 78; refine Calls.mono (KX _).out ?_; rintro e w1 ⟨rfl, rfl⟩)
  refine bodyPost_ret (v := .agg #[.int .i64 v, .int .i64 0]) (by simp [results, Tryz.results35, go_sem]) rfl ?_
  exact ⟨rfl, by repeat (first | exact Below.refl _ _ | refine Bl.alloc ?_ _ | refine Bl.drew ?_ | refine Below.setCell ?_ (by simp) _)⟩
theorem RReadTime_N (s : ByteArray) (w : World) (hs : s.size ≤ 1000000) : Calls Tryz.prog 35 #[.string s, .int .u8 78] w (GivesA w #[.int .i64 (refV (clockV (bts s))).1, .int .i64 (refV (clockV (bts s))).2]) := by
  by_cases hv : clockV (bts s) < 0
  · rw [show refV (clockV (bts s)) = (0, 2) by unfold refV; exact if_pos hv]
    exact RReadTime_N_neg s w hs hv
  · rw [show refV (clockV (bts s)) = (clockV (bts s), 0) by unfold refV; exact if_neg hv]
    exact RReadTime_N_pos s w hs hv
set_option maxHeartbeats 1000000 in
theorem RReadTime_S_neg (s : ByteArray) (w : World) (hs : s.size ≤ 1000000) (hv : unitV (bts s) 1000000 < 0) : Calls Tryz.prog 35 #[.string s, .int .u8 83] w (GivesA w #[.int .i64 0, .int .i64 2]) := by
  have HS := Lib.hid hs
  have KX := fun W => Lib.hid (Runit_1000000 s W)
  obtain ⟨v, ev⟩ : ∃ v, v = unitV (bts s) 1000000 := ⟨_, rfl⟩
  rw [← ev] at hv KX
  clear hs ev
  go_enter Tryz.func35, Tryz.ntmps35
  go_wp2_with (go_at_call 76; refine Calls.mono (KX _).out ?_; rintro e w1 ⟨rfl, rfl⟩)
  refine bodyPost_ret (v := .agg #[.int .i64 0, .int .i64 2]) (by simp [results, Tryz.results35, go_sem]) rfl ?_
  exact ⟨rfl, by repeat (first | exact Below.refl _ _ | refine Bl.alloc ?_ _ | refine Bl.drew ?_ | refine Below.setCell ?_ (by simp) _)⟩
set_option maxHeartbeats 1000000 in
theorem RReadTime_S_pos (s : ByteArray) (w : World) (hs : s.size ≤ 1000000) (hv : ¬ unitV (bts s) 1000000 < 0) : Calls Tryz.prog 35 #[.string s, .int .u8 83] w (GivesA w #[.int .i64 (unitV (bts s) 1000000), .int .i64 0]) := by
  have HS := Lib.hid hs
  have KX := fun W => Lib.hid (Runit_1000000 s W)
  obtain ⟨v, ev⟩ : ∃ v, v = unitV (bts s) 1000000 := ⟨_, rfl⟩
  rw [← ev] at hv KX ⊢
  clear hs ev
  go_enter Tryz.func35, Tryz.ntmps35
  go_wp2_with (go_at_call 76; refine Calls.mono (KX _).out ?_; rintro e w1 ⟨rfl, rfl⟩)
  refine bodyPost_ret (v := .agg #[.int .i64 v, .int .i64 0]) (by simp [results, Tryz.results35, go_sem]) rfl ?_
  exact ⟨rfl, by repeat (first | exact Below.refl _ _ | refine Bl.alloc ?_ _ | refine Bl.drew ?_ | refine Below.setCell ?_ (by simp) _)⟩
theorem RReadTime_S (s : ByteArray) (w : World) (hs : s.size ≤ 1000000) : Calls Tryz.prog 35 #[.string s, .int .u8 83] w (GivesA w #[.int .i64 (refV (unitV (bts s) 1000000)).1, .int .i64 (refV (unitV (bts s) 1000000)).2]) := by
  by_cases hv : unitV (bts s) 1000000 < 0
  · rw [show refV (unitV (bts s) 1000000) = (0, 2) by unfold refV; exact if_pos hv]
    exact RReadTime_S_neg s w hs hv
  · rw [show refV (unitV (bts s) 1000000) = (unitV (bts s) 1000000, 0) by unfold refV; exact if_neg hv]
    exact RReadTime_S_pos s w hs hv
set_option maxHeartbeats 1000000 in
theorem RReadTime_none (s : ByteArray) (x : Int) (x67 : (x == 67) = false) (y67 : ¬ x = 67) (x70 : (x == 70) = false) (y70 : ¬ x = 70) (x72 : (x == 72) = false) (y72 : ¬ x = 72) (x76 : (x == 76) = false) (y76 : ¬ x = 76) (x77 : (x == 77) = false) (y77 : ¬ x = 77) (x78 : (x == 78) = false) (y78 : ¬ x = 78) (x83 : (x == 83) = false) (y83 : ¬ x = 83) (w : World) : Calls Tryz.prog 35 #[.string s, .int .u8 x] w (GivesA w #[.int .i64 0, .int .i64 1]) := by
  go_enter Tryz.func35, Tryz.ntmps35
  go_wp2
  refine bodyPost_ret (v := .agg #[.int .i64 0, .int .i64 1]) (by simp [results, Tryz.results35, go_sem]) rfl ?_
  exact ⟨rfl, by repeat (first | exact Below.refl _ _ | refine Bl.alloc ?_ _ | refine Bl.drew ?_ | refine Below.setCell ?_ (by simp) _)⟩
end Go.Proofs.YtmjifmlibgpjiaaGreatDoor
