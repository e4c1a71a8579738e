/- The check of six examples. -/
import Derived.Test.YtoilgjlbpimcpaaDoorUa
import Derived.Test.YtoilgjlbpimcpaaDoorTp
import Derived.Test.YtoilgjlbpimcpaaDoorTt
namespace Go.Proofs.YtoilgjlbpimcpaaDoor
open Go.RowKit Go.Shelf Tx
set_option linter.unusedVariables false
set_option maxRecDepth 100000

theorem bts_eq {t : ByteArray} {l : List UInt8} (h : bts t = l) : t = ⟨l.toArray⟩ := by
  cases t with
  | mk d => unfold bts at h; subst h; simp
theorem givesS_lit {w : World} {l : List UInt8} {k : Int} {r : Res} (hr : r = (l, k)) {e : Ending} {w' : World} (h : GivesS w r e w') : e = .returned (.tuple #[.string ⟨l.toArray⟩, .int .i64 k]) ∧ Below w.heap.size w w' := by
  subst hr
  obtain ⟨t, rfl, ht, hb⟩ := h
  rw [← bts_eq ht.out]
  exact ⟨rfl, hb⟩
theorem ex1 : resR shC [97, 98, 99] 8 45 = ([45, 45, 97, 98, 99, 45, 45, 45], 0) := by decide +kernel
theorem ex2 : delWordR [78, 111, 119, 32, 105, 115, 32, 116, 104, 101, 32, 32, 116, 105, 109, 101] 2 2 = ([78, 111, 119, 32, 116, 105, 109, 101], 0) := by decide +kernel
theorem ex3 : lastPosR [32] [97, 98, 99, 32, 100, 101, 102, 32, 103, 104, 105] 7 = (4, 0) := by decide +kernel
theorem ex4 : translateR [97, 98, 99, 100, 101, 102] [49, 50] [101, 99] 46 = ([97, 98, 50, 100, 49, 102], 0) := by decide +kernel
theorem ex5 : bitsR opXor [65] [65] (-1) = ([], 8) := by decide +kernel
theorem ex6 : x2cR [54, 49, 54, 50] = ([97, 98], 0) := by decide +kernel
theorem ex7 : validL [97] = true := by decide +kernel
theorem ex8 : validL [10] = false := by decide +kernel

set_option maxHeartbeats 2000000 in
theorem head_any (w : World) : Calls Tryd.prog 16 #[] w fun e w' => e = .returned (.bool true) ∧ Below w.heap.size w w' := by
  have K1 := fun W => Lib.hid ((Center_any ⟨#[97, 98, 99]⟩ 8 45 W (by decide) (by decide) (by decide)).mono (fun e w' h => givesS_lit ex1 h))
  have K2 := fun W => Lib.hid ((DelWord_any ⟨#[78, 111, 119, 32, 105, 115, 32, 116, 104, 101, 32, 32, 116, 105, 109, 101]⟩ 2 2 W (by decide) (by decide) (by decide)).mono (fun e w' h => givesS_lit ex2 h))
  have K3 := fun W => Lib.hid (LastPos_any ⟨#[32]⟩ ⟨#[97, 98, 99, 32, 100, 101, 102, 32, 103, 104, 105]⟩ 7 W (by decide) (by decide) (by decide))
  have K4 := fun W => Lib.hid ((Translate_any ⟨#[97, 98, 99, 100, 101, 102]⟩ ⟨#[49, 50]⟩ ⟨#[101, 99]⟩ 46 W (by decide) (by decide) (by decide) (by decide) (by decide)).mono (fun e w' h => givesS_lit ex4 h))
  have K5 := fun W => Lib.hid ((BitXor_any ⟨#[65]⟩ ⟨#[65]⟩ (-1) W (by decide) (by decide) (by decide)).mono (fun e w' h => givesS_lit ex5 h))
  have K6 := fun W => Lib.hid ((X2C_any ⟨#[54, 49, 54, 50]⟩ W (by decide)).mono (fun e w' h => givesS_lit ex6 h))
  have K7 := fun W => Lib.hid (Valid_any ⟨#[97]⟩ W (by decide))
  have K8 := fun W => Lib.hid (Valid_any ⟨#[10]⟩ W (by decide))
  rw [show bts ⟨#[97]⟩ = [97] from rfl, ex7] at K7
  rw [show bts ⟨#[10]⟩ = [10] from rfl, ex8] at K8
  rw [show bts ⟨#[32]⟩ = [32] from rfl, show bts ⟨#[97, 98, 99, 32, 100, 101, 102, 32, 103, 104, 105]⟩ = [97, 98, 99, 32, 100, 101, 102, 32, 103, 104, 105] from rfl, ex3] at K3
  unfold GivesN at K3
  simp only [List.toArray] at K1
  go_enter Tryd.func16, Tryd.ntmps16
  go_wp2_with (first
    | (go_at_call 20; refine Calls.mono (K1 _).out ?_; rintro e w1 ⟨rfl, hb1⟩)
    | (go_at_call 61; refine Calls.mono (K2 _).out ?_; rintro e w2 ⟨rfl, hb2⟩)
    | (go_at_call 42; refine Calls.mono (K3 _).out ?_; rintro e w3 ⟨rfl, hb3⟩)
    | (go_at_call 74; refine Calls.mono (K4 _).out ?_; rintro e w4 ⟨rfl, hb4⟩)
    | (go_at_call 82; refine Calls.mono (K5 _).out ?_; rintro e w5 ⟨rfl, hb5⟩)
    | (go_at_call 85; refine Calls.mono (K6 _).out ?_; rintro e w6 ⟨rfl, hb6⟩)
    | (go_at_call 31; first | ((with_reducible refine Calls.mono (K7 _).out ?_); rintro e w7 ⟨rfl, hb7⟩) | ((with_reducible refine Calls.mono (K8 _).out ?_); rintro e w8 ⟨rfl, hb8⟩)))
  go_ret
  exact ⟨rfl, Bl.step (Bl.step (Bl.step (Bl.step (Bl.step (Bl.step (Bl.step hb1 hb2) hb3) hb4) hb5) hb6) hb7) hb8⟩
end Go.Proofs.YtoilgjlbpimcpaaDoor
