/- Readers of dates, at any text: the date in one number. -/
import Derived.Test.YtmjifmlibgpjiaaGreatDoorGj
namespace Go.Proofs.YtmjifmlibgpjiaaGreatDoor
open Go.RowKit Go.Shelf Tx Go.Maps
set_option linter.unusedVariables false
set_option maxRecDepth 100000

set_option maxHeartbeats 2000000 in
theorem d_standard_any (s : ByteArray) (y : Int) (w : World) (hs : s.size ≤ 1000000) : Calls Tryz.prog 104 #[.agg #[.string s, .int .i64 y]] w (GivesC ((num1 (bts s)).tdiv 10000) (((num1 (bts s)).tdiv 100).tmod 100) ((num1 (bts s)).tmod 100) w) := by
  have hN : -1 ≤ num1 (bts s) ∧ num1 (bts s) ≤ 1000000000000 := numV_ge (bts s)
  have bl := Lib.hid (Bl.alloc (Bl.alloc (Below.refl _ w) (.cells #[.string s, .int .i64 y] 88)) (.cells #[.string s] 9))
  have KN := Lib.hid (number_next s (w.heap.size + 1) ((w.alloc (.cells #[.string s, .int .i64 y] 88)).alloc (.cells #[.string s] 9)) hs (idxOk_any s hs) (BoxC.newAt (by simp)))
  obtain ⟨v, hv⟩ : ∃ v, v = num1 (bts s) := ⟨_, rfl⟩
  have HV := Lib.hid hv
  rw [← hv] at hN ⊢
  obtain ⟨f1, f2, f3, f4, f5, f6, f7, f8⟩ := stFacts v hN.1 hN.2
  obtain ⟨a, ha⟩ : ∃ a, a = v.tdiv 10000 := ⟨_, rfl⟩
  obtain ⟨q, hq⟩ : ∃ q, q = v.tdiv 100 := ⟨_, rfl⟩
  obtain ⟨b, hb⟩ : ∃ b, b = q.tmod 100 := ⟨_, rfl⟩
  obtain ⟨c, hc⟩ : ∃ c, c = v.tmod 100 := ⟨_, rfl⟩
  rw [← ha] at f1 f2
  rw [← hq] at f3 f4 f5 f6
  rw [← hb] at f5 f6
  rw [← hc] at f7 f8
  have KI := fun W => Lib.hid (inCal_any a b c W)
  have t1 : v.tdiv 10000 = a := ha.symm
  have t2 : v.tdiv 100 = q := hq.symm
  have t3 : q.tmod 100 = b := hb.symm
  have t4 : v.tmod 100 = c := hc.symm
  rw [t1, t2, t3, t4]
  clear hN hv hs ha hq hb hc
  go_enter Tryz.func104, Tryz.ntmps104
  go_wp2_with (first
    | (go_at_call 138; refine Calls.mono (numbersIn_any _ _) ?_; rintro e w9 ⟨rfl, rfl⟩)
    | (go_at_call 155; refine Calls.mono KN.out ?_; rintro e w2 ⟨r', rfl, hr', hb', hg'⟩; rw [show numV (bts s) = v from HV.out.symm]; have B2 := Lib.hid (bl.out.grown hg' bl.out.size (fun j hj => by simp at hj; omega)); clear hr' hb' hg')
    | (go_at_call 46; refine Calls.mono (dateFrom_any _ _ _ _) ?_; rintro e w5 ⟨rfl, rfl⟩)
    | (go_at_call 47; refine Calls.mono (KI _).out ?_; rintro e V3 ⟨n, bb, rfl, hr, hb3⟩; have B3 := Lib.hid (Bl.step (Bl.alloc B2.out _) hb3); clear hb3))
  go_ret2
  exact ⟨n, bb, rfl, hr, B3.out⟩
end Go.Proofs.YtmjifmlibgpjiaaGreatDoor
