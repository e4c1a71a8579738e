/- Formats of dates. -/
import Derived.Test.YtmjifmlibgpjiaaGreatDoorDc
import Derived.Test.YtmjifmlibgpjiaaGreatDoorCg
namespace Go.Proofs.YtmjifmlibgpjiaaGreatDoor
open Go.RowKit Go.Shelf Tx
set_option linter.unusedVariables false
set_option maxRecDepth 100000

/-- A date's value. -/
abbrev dtV (y m k : Nat) : Value := .agg #[.int .i64 (y : Int), .int .i64 (m : Int), .int .i64 (k : Int)]
/-- A function gives a string. -/
def GivesS (w : World) (l : List UInt8) (e : Ending) (w' : World) : Prop := ∃ t : ByteArray, e = .returned (.string t) ∧ Hid (bts t = l) ∧ Below w.heap.size w w'
theorem BoxC.newAt {W : World} {t : TypeId} {cs : Array Value} {n : Nat} (h : n = W.heap.size) : BoxC (W.alloc (.cells cs t)) n t cs := by subst h; exact BoxC.new _ _ _
theorem BoxC.drew {W : World} {n : Nat} {t : TypeId} {cs : Array Value} (h : BoxC W n t cs) : BoxC W.drew n t cs := h
theorem i64i' {x : Int} (h1 : -9223372036854775808 ≤ x) (h2 : x ≤ 9223372036854775807) : IntKind.i64.wrap x = x := IntWalk.i64_in _ ⟨h1, h2⟩
theorem sinceFacts (n f r : Nat) (hn : n ≤ 4000000) (hf : f ≤ n) (hr : r = n - f + 1) : IntKind.i64.wrap (1 + (n : Int)) = 1 + (n : Int) ∧ IntKind.i64.wrap (1 + (n : Int) - (f : Int)) = (r : Int) ∧ wrap64 (wrap64 (1 + (n : Int)) - (f : Int)) = (r : Int) ∧ wrap64 (1 + (n : Int) - (f : Int)) = (r : Int) := by
  have e : 1 + (n : Int) - (f : Int) = (r : Int) := by omega
  refine ⟨i64i' (by omega) (by omega), ?_, ?_, ?_⟩
  · rw [e]; exact i64i' (by omega) (by omega)
  · rw [w64 (x := 1 + (n : Int)) (by omega) (by omega), e]; exact w64 (by omega) (by omega)
  · rw [e]; exact w64 (by omega) (by omega)
theorem cenFacts (y g c : Nat) (hy : y ≤ 9999) (hg : g = y / 100) (hc : c = max 1 (g * 100)) : (y : Int) / 100 = (g : Int) ∧ (y : Int).tdiv 100 = (g : Int) ∧ IntKind.i64.wrap ((g : Int) * 100) = (g : Int) * 100 ∧ wrap64 ((g : Int) * 100) = (g : Int) * 100 ∧ max (1 : Int) ((g : Int) * 100) = (c : Int) ∧ wrap64 (wrap64 (g : Int) * 100) = (g : Int) * 100 := by
  refine ⟨by omega, by rw [Int.tdiv_eq_ediv_of_nonneg (by omega)]; omega, i64i' (by omega) (by omega), w64 (by omega) (by omega), by omega, ?_⟩
  rw [w64 (x := (g : Int)) (by omega) (by omega)]; exact w64 (by omega) (by omega)
namespace Tx
def longL (sep : List UInt8) (y m k : Nat) : List UInt8 := Lib.join [padd y 4, padd m 2, padd k 2] sep
end Tx
set_option maxHeartbeats 4000000 in
theorem long_any (sep : ByteArray) (y m k : Nat) (w : World) (hy : y ≤ 9999) (hm : m ≤ 12) (hk : k ≤ 31) (hsep : sep.size ≤ 100) (hE : Env w) :
    Calls Tryz.prog 127 #[dtV y m k, .string sep] w (GivesS w (longL (bts sep) y m k)) := by
  have KF := fun W => Lib.hid (fullYear_any (y : Int) m k W)
  have KJ := fun (W : World) (B : Nat) (hB : BoxC W B 99 #[.int .i64 (y : Int), .int .i64 4, .int .i64 (m : Int), .int .i64 2, .int .i64 (k : Int), .int .i64 2]) (hW : Env W) => Lib.hid (joined_any sep B [(y, 4), (m, 2), (k, 2)] W (by simp) (by simp) (by
    intro f hf
    rw [pow19]
    simp at hf
    rcases hf with rfl | rfl | rfl <;> dsimp only <;> omega) hsep (fieldsAt_of y 4 m 2 k 2 hB) hB.lt hW)
  have HE := Lib.hid hE
  unfold dtV
  clear hE hy hm hk hsep
  go_enter Tryz.func127, Tryz.ntmps127
  go_wp2
  obtain ⟨W0, hW0⟩ : ∃ W0, W0 = w.alloc (.cells #[.int .i64 (y : Int), .int .i64 (m : Int), .int .i64 (k : Int)] 70) := ⟨_, rfl⟩
  have bF : BoxC W0 w.heap.size 70 #[.int .i64 (y : Int), .int .i64 (m : Int), .int .i64 (k : Int)] := by rw [hW0]; exact BoxC.new _ _ _
  have HB0 := Lib.hid (show Below w.heap.size w W0 by rw [hW0]; exact Bl.alloc (Below.refl _ w) _)
  rw [← hW0]
  have c0 := bF.cell (i := 0) rfl
  have c1 := bF.cell (i := 1) rfl
  have c2 := bF.cell (i := 2) rfl
  have HBF := Lib.hid bF
  have hlt := bF.lt
  have hS := Lib.hid (show ∀ W, Below W0.heap.size W0 W → W.cell? ⟨w.heap.size, 0, none⟩ = some (.int .i64 (y : Int)) ∧ W.cell? ⟨w.heap.size, 1, none⟩ = some (.int .i64 (m : Int)) ∧ W.cell? ⟨w.heap.size, 2, none⟩ = some (.int .i64 (k : Int)) from fun W hb => ⟨(bF.below hb hlt).cell (i := 0) rfl, (bF.below hb hlt).cell (i := 1) rfl, (bF.below hb hlt).cell (i := 2) rfl⟩)
  clear hW0 bF
  go_region_held3 (fun w' => w'.cell? ⟨w.heap.size, 0, none⟩ = some (.int .i64 (y : Int)) ∧ w'.cell? ⟨w.heap.size, 1, none⟩ = some (.int .i64 (m : Int)) ∧ w'.cell? ⟨w.heap.size, 2, none⟩ = some (.int .i64 (k : Int)))
    (first | exact ⟨c0, c1, c2⟩ | exact hS.out _ (by repeat (first | exact Below.refl _ _ | exact B3.out | refine Bl.alloc ?_ _ | refine Bl.drew ?_)))
    (first
      | (go_at_call 130; refine Calls.mono (KF _).out ?_; rintro e w2 ⟨rfl, rfl⟩)
      | (go_at_call 79; refine Calls.mono (KJ _ _ (by repeat (first | exact BoxC.newAt (by simp) | refine BoxC.drew ?_ | refine BoxC.alloc ?_ _)) (by exact (HE.out.below HB0.out).below (by repeat (first | exact Below.refl _ _ | refine Bl.alloc ?_ _ | refine Bl.drew ?_)))).out ?_; rintro e w3 ⟨t, rfl, ht, hb3⟩; have B3 := Lib.hid (Bl.step (show Below W0.heap.size W0 _ by repeat (first | exact Below.refl _ _ | refine Bl.alloc ?_ _ | refine Bl.drew ?_)) hb3); clear hb3))
  all_goals
    go_wp2
    go_ret
    exact ⟨t, rfl, Lib.hid (by rw [ht.out]; rfl), HB0.out.trans (B3.out.mono HB0.out.size)⟩
set_option maxHeartbeats 2000000 in
theorem iso_any (y m k : Nat) (w : World) (hy : y ≤ 9999) (hm : m ≤ 12) (hk : k ≤ 31) (hE : Env w) :
    Calls Tryz.prog 91 #[dtV y m k] w (GivesS w (longL [45] y m k)) := by
  have KL := fun (W : World) (hW : Env W) => Lib.hid (long_any ⟨#[45]⟩ y m k W hy hm hk (by decide) hW)
  have HE := Lib.hid hE
  unfold dtV
  clear hE hy hm hk
  go_enter Tryz.func91, Tryz.ntmps91
  go_wp2_with (first
    | (go_at_call 127; refine Calls.mono (KL _ (HE.out.alloc _)).out ?_; rintro e w1 ⟨t, rfl, ht, hb1⟩))
  go_ret
  exact ⟨t, rfl, ht, Bl.step (Bl.alloc (Below.refl _ w) _) hb1⟩
set_option maxHeartbeats 2000000 in
theorem standard_any (y m k : Nat) (w : World) (hy : y ≤ 9999) (hm : m ≤ 12) (hk : k ≤ 31) (hE : Env w) :
    Calls Tryz.prog 95 #[dtV y m k] w (GivesS w (longL [] y m k)) := by
  have KL := fun (W : World) (hW : Env W) => Lib.hid (long_any ⟨#[]⟩ y m k W hy hm hk (by decide) hW)
  have HE := Lib.hid hE
  unfold dtV
  clear hE hy hm hk
  go_enter Tryz.func95, Tryz.ntmps95
  go_wp2_with (first
    | (go_at_call 127; refine Calls.mono (KL _ (HE.out.alloc _)).out ?_; rintro e w1 ⟨t, rfl, ht, hb1⟩))
  go_ret
  exact ⟨t, rfl, ht, Bl.step (Bl.alloc (Below.refl _ w) _) hb1⟩
set_option maxHeartbeats 2000000 in
theorem since_any (n y m k q : Nat) (w : World) (hd : IsDate n y m k) (h9 : y ≤ 9999) (hq : q ≤ 9999) (hqn : bef q ≤ n) (hE : Env w) :
    Calls Tryz.prog 125 #[dtV y m k, .int .i64 ((q : Int) + 1)] w (GivesS w (Lib.decDigits (n - bef q + 1))) := by
  obtain ⟨p, rfl⟩ : ∃ p, y = p + 1 := ⟨y - 1, by have := hd.y1; omega⟩
  have hdm := dim_pos (p + 1) m
  have hkd := hd.kd
  have KN := fun W => Lib.hid (number_any p m k W h9 hd.m1 hd.m12 hd.k1 (by omega))
  have he := hd.eq
  rw [show p + 1 - 1 = p by omega] at he
  rw [← he] at KN
  have hn := isDate_max hd h9
  have KF := fun W => Lib.hid (firstDay_any q W (by omega))
  obtain ⟨f, hf⟩ : ∃ f, f = bef q := ⟨_, rfl⟩
  rw [← hf] at KF hqn ⊢
  obtain ⟨r, hr⟩ : ∃ r, r = n - f + 1 := ⟨_, rfl⟩
  rw [← hr]
  have KI := fun W hW => Lib.hid (itoa_any r W (by omega) hW)
  have SF := Lib.hid (sinceFacts n f r (by omega) hqn hr)
  have ec : ((p + 1 : Nat) : Int) = (p : Int) + 1 := by omega
  have HE := Lib.hid hE
  unfold dtV
  rw [ec]
  clear hd h9 hq hqn hE hdm hkd he hn hf hr ec
  obtain ⟨s1, s2, s3, s4⟩ := SF.out
  clear SF
  go_enter Tryz.func125, Tryz.ntmps125
  go_wp2_with (first
    | (go_at_call 82; refine Calls.mono (KN _).out ?_; rintro e w1 ⟨rfl, hb1⟩; have B1 : Below w.heap.size w w1 := Bl.step (Bl.alloc (Below.refl _ w) _) hb1)
    | (go_at_call 85; refine Calls.mono (KF _).out ?_; rintro e W2 ⟨rfl, rfl⟩)
    | (go_at_call 121; refine Calls.mono (KI _ (HE.out.below B1)).out ?_; rintro e w3 ⟨t, rfl, ht, hb3⟩))
  go_ret
  exact ⟨t, rfl, ht, Bl.step B1 hb3⟩
set_option maxHeartbeats 2000000 in
theorem base_any (n y m k : Nat) (w : World) (hd : IsDate n y m k) (h9 : y ≤ 9999) (hE : Env w) :
    Calls Tryz.prog 87 #[dtV y m k] w (GivesS w (Lib.decDigits n)) := by
  obtain ⟨p, rfl⟩ : ∃ p, y = p + 1 := ⟨y - 1, by have := hd.y1; omega⟩
  have hdm := dim_pos (p + 1) m
  have hkd := hd.kd
  have KN := fun W => Lib.hid (number_any p m k W h9 hd.m1 hd.m12 hd.k1 (by omega))
  have he := hd.eq
  rw [show p + 1 - 1 = p by omega] at he
  rw [← he] at KN
  have hn := isDate_max hd h9
  have KI := fun W hW => Lib.hid (itoa_any n W (by omega) hW)
  have ec : ((p + 1 : Nat) : Int) = (p : Int) + 1 := by omega
  have HE := Lib.hid hE
  unfold dtV
  rw [ec]
  clear hd h9 hE hdm hkd he hn ec
  go_enter Tryz.func87, Tryz.ntmps87
  go_wp2_with (first
    | (go_at_call 82; refine Calls.mono (KN _).out ?_; rintro e w1 ⟨rfl, hb1⟩; have B1 : Below w.heap.size w w1 := Bl.step (Bl.alloc (Below.refl _ w) _) hb1)
    | (go_at_call 121; refine Calls.mono (KI _ (HE.out.below B1)).out ?_; rintro e w3 ⟨t, rfl, ht, hb3⟩))
  go_ret
  exact ⟨t, rfl, ht, Bl.step B1 hb3⟩
set_option maxHeartbeats 2000000 in
theorem days_any (n y m k : Nat) (w : World) (hd : IsDate n y m k) (h9 : y ≤ 9999) (hE : Env w) :
    Calls Tryz.prog 89 #[dtV y m k] w (GivesS w (Lib.decDigits (n - bef (y - 1) + 1))) := by
  have KS := fun W hW => Lib.hid (since_any n y m k (y - 1) W hd h9 (by omega) hd.isYear.lo hW)
  have ec : ((y - 1 : Nat) : Int) + 1 = (y : Int) := by have := hd.y1; omega
  simp only [ec] at KS
  have HE := Lib.hid hE
  unfold dtV at KS ⊢
  clear hd h9 hE ec
  go_enter Tryz.func89, Tryz.ntmps89
  go_wp2_with (first
    | (go_at_call 125; refine Calls.mono (KS _ (HE.out.alloc _)).out ?_; rintro e w1 ⟨t, rfl, ht, hb1⟩))
  go_ret
  exact ⟨t, rfl, ht, Bl.step (Bl.alloc (Below.refl _ w) _) hb1⟩
namespace Tx
/-- The first year of a year's century. -/
def cenY (y : Nat) : Nat := max 1 (y / 100 * 100)
end Tx
set_option maxHeartbeats 2000000 in
theorem century_any (n y m k : Nat) (w : World) (hd : IsDate n y m k) (h9 : y ≤ 9999) (hE : Env w) :
    Calls Tryz.prog 88 #[dtV y m k] w (GivesS w (Lib.decDigits (n - bef (cenY y - 1) + 1))) := by
  have hy1 := hd.y1
  have hcy : 1 ≤ cenY y ∧ cenY y ≤ y := by unfold cenY; omega
  have hbl : bef (cenY y - 1) ≤ n := Nat.le_trans (bef_mono (by omega)) hd.isYear.lo
  have KS := fun W hW => Lib.hid (since_any n y m k (cenY y - 1) W hd h9 (by omega) hbl hW)
  have ec : ((cenY y - 1 : Nat) : Int) + 1 = (cenY y : Int) := by omega
  simp only [ec] at KS
  obtain ⟨c, hc⟩ : ∃ c, c = cenY y := ⟨_, rfl⟩
  rw [← hc] at KS ⊢
  obtain ⟨g, hg⟩ : ∃ g, g = y / 100 := ⟨_, rfl⟩
  have CF := Lib.hid (cenFacts y g c h9 hg (by rw [hc, hg]; rfl))
  have HE := Lib.hid hE
  unfold dtV at KS ⊢
  clear hd h9 hE ec hy1 hcy hbl hc hg
  obtain ⟨g1, g2, g3, g4, g5, g6⟩ := CF.out
  clear CF
  go_enter Tryz.func88, Tryz.ntmps88
  go_wp2_with (first
    | (go_at_call 125; refine Calls.mono (KS _ (HE.out.alloc _)).out ?_; rintro e w1 ⟨t, rfl, ht, hb1⟩))
  go_ret
  exact ⟨t, rfl, ht, Bl.step (Bl.alloc (Below.refl _ w) _) hb1⟩
end Go.Proofs.YtmjifmlibgpjiaaGreatDoor
