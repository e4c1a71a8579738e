/- CalWeeks, as a call. -/
import Derived.Test.YtmjifmlibgpjiaaGreatDoorDu
namespace Go.Proofs.YtmjifmlibgpjiaaGreatDoor
open Go.RowKit Go.Shelf Tx Go.Maps
set_option linter.unusedVariables false
set_option maxRecDepth 100000

theorem BoxC.stay {W W' : World} {B : Nat} {t : TypeId} {cs : Array Value} (h : BoxC W B t cs) (hb : Below W.heap.size W W') : BoxC W' B t cs := h.below hb h.lt
set_option maxHeartbeats 4000000 in
theorem CalWeeks_any (n y wk x : Int) (w : World) (hE : Env w) : Calls Tryz.prog 4 #[.int .i64 n, .int .i64 y, .int .i64 wk, .int .i64 x] w fun e w' => e = .returned (.bool true) ∧ Below w.heap.size w w' := by
  obtain ⟨a, b, c, e0, KW, KR⟩ := week_both n
  obtain ⟨r, f, KD, KX⟩ := weekDay_both y wk x
  have K1 := fun W => Lib.hid (KW W)
  have K2 := fun W => Lib.hid (KR W)
  have K3 := fun W => Lib.hid (KD W)
  have K4 := fun W => Lib.hid (KX W)
  have K5 := fun W (hW : Env W) => Lib.hid (sane_any W hW)
  have HE := Lib.hid hE
  clear KW KR KD KX hE
  go_enter Tryz.func4, Tryz.ntmps4
  go_wp2_with (first
    | (go_at_call 24; refine Calls.mono (K1 _).out ?_; rintro e w1 ⟨rfl, hb⟩; have B1 := Lib.hid hb; clear hb)
    | (go_at_call 25; refine Calls.mono (K2 _).out ?_; rintro e w2 ⟨rfl, hb⟩; have B2 := Lib.hid (Bl.step B1.out hb); clear hb)
    | (go_at_call 26; refine Calls.mono (K3 _).out ?_; rintro e w3 ⟨rfl, hb⟩; have B3 := Lib.hid (Bl.step (Bl.alloc B2.out _) hb); have C3 := Lib.hid ((BoxC.new w2 34 #[.int .i64 a, .int .i64 b, .int .i64 c, .int .i64 e0]).stay hb); clear hb)
    | (go_at_call 27; refine Calls.mono (K4 _).out ?_; rintro e w4 ⟨rfl, hb⟩; have B4 := Lib.hid (Bl.step B3.out hb); have C4 := Lib.hid (C3.out.stay hb); clear hb)
    | (go_at_call 23; refine Calls.mono (K5 _ (HE.out.below (Bl.alloc B4.out _))).out ?_; rintro e w5 ⟨rfl, hb⟩; have B5 := Lib.hid (Bl.step (Bl.alloc B4.out _) hb); have C5 := Lib.hid ((C4.out.alloc _).stay hb); have D5 := Lib.hid ((BoxC.new w4 29 #[.int .i64 r, .int .i64 f]).stay hb); have c0 := C5.out.cell (i := 0) rfl; have c1 := C5.out.cell (i := 1) rfl; have c2 := C5.out.cell (i := 2) rfl; have c3 := C5.out.cell (i := 3) rfl; have d0 := D5.out.cell (i := 0) rfl; have d1 := D5.out.cell (i := 1) rfl; clear hb))
  go_ret
  exact ⟨by first | rfl | simp, B5.out⟩
end Go.Proofs.YtmjifmlibgpjiaaGreatDoor
