/- The law 'qanat/qanatlaw02.TextWordy' holds: for every input it returns true, and the input reads behind the call as before. Conditions: the package-level variables unicode/utf8.acceptRanges and unicode/utf8.first begin as the program's text lays them (the row's word 'laid'; the card ties it to the text). -/
import Derived.Test.YtoilgjlbpimcpaaDoorNb
import Derived.Test.YtoilgjlbpimcpaaDoorTie
import Derived.Test.YtoilgjlbpimcpaaDoorCards
import Derived.ProofKit
import Derived.OpenShut
import Derived.LaidMore
import Derived.Lay
import Derived.SevenTiedAt
import Derived.Stop.Joined
import Derived.ChangeMaps5
namespace Go.Proofs.YtoilgjlbpimcpaaDoor
open Go.ChangeShapes Go.WideShapes Go.ChangeAt Go.RowKit Go.ChangeMaps


theorem wordy_own : ownKnob Tryd.prog.godebug = none := by kernel_rfl

set_option maxRecDepth 100000 in
theorem wordy_lifted (os : Os) (started : os.Started) (H : Type) (enc : TypeId × Value → H) :
    ReturnsInHanded {} Tryd.checked os 14 .any (fun w args => (Rows.textWordySpec.pre enc Tryd.prog Tryd.f14 Rows.textWordyRow.domain false w args ∧ laidMetH Tryd.prog Rows.textWordyRow.laid w) ∧ sizedMet enc Tryd.prog Tryd.f14 (OpenSpec.ofChange Rows.textWordySpec) false w args)
      (Rows.textWordySpec.post enc Tryd.prog Tryd.f14 false true false false) := by
  refine returnsInHanded_of_change_and (C := Tryd.checked) (X := fun w _ => laidMetH Tryd.prog Rows.textWordyRow.laid w) (fun _ _ _ hh h => h.of_heap hh) wordy_own started (by kernel_rfl) Tryd.func14
    (ChangeSpec.witness_shaped (enc := enc) (C := Tryd.checked) (os := os) (X := fun w _ => laidMetH Tryd.prog Rows.textWordyRow.laid w) false (World.laidAll Tryd.prog os Rows.textWordyRow.laid) #[.string ⟨#[]⟩, .int .u8 0, .int .u8 0] 8 (World.laidAll_os _ _ _)
      (World.shaped_of_ZipB (by kernel_rfl) (by kernel_rfl)) (by kernel_rfl) (by kernel_rfl) (by kernel_rfl)
      (by rw [MakeChecks.laidMetH_plain _ _ _ (by kernel_rfl)]; exact laidMet_laidAll _ (by kernel_rfl) (by kernel_rfl))) ?_
  intro W base args ds gs before hval0 hW hc _ hL _
  have hval : ∀ (j : Nat) t v, Tryd.f14.params[j]? = some t → args[j]? = some v → Value.okWide Tryd.prog W .any base t v := hval0
  have hW' := hW
  obtain ⟨p, q, hA0, hV, rfl, _, _⟩ := hW
  have hA : DataW.TrodAll enc Tryd.prog W 0 (fun _ => true) true Tryd.f14.params.toList args.toList ds p := hA0
  rw [Tryd.params14] at hA hval
  obtain ⟨v0, v1, v2, d0, d1, d2, p0, p1, p2, rfl, rfl, rfl, h0, h1, h2⟩ := trodAll_three hA
  obtain ⟨rfl, rfl⟩ := trodVars_none hV
  obtain ⟨x0, rfl, rfl, rfl, wf0⟩ := open_string Tryd.underlying9 (hval 0 9 v0 rfl rfl) h0
  obtain ⟨x1, rfl, rfl, rfl, wf1⟩ := open_int Tryd.underlying5 (hval 1 5 v1 rfl rfl) h1
  have b1 : 0 ≤ x1 ∧ x1 ≤ 255 := by have h := wf1; simp only [Lit.wf, Bool.and_eq_true, decide_eq_true_eq] at h; rw [show IntKind.u8.min = 0 from rfl, show IntKind.u8.max = 255 from rfl] at h; exact h
  obtain ⟨c1, rfl⟩ : ∃ c : UInt8, x1 = (c.toNat : Int) := ⟨x1.toNat.toUInt8, by simp [Nat.toUInt8]; omega⟩
  obtain ⟨x2, rfl, rfl, rfl, wf2⟩ := open_int Tryd.underlying5 (hval 2 5 v2 rfl rfl) h2
  have b2 : 0 ≤ x2 ∧ x2 ≤ 255 := by have h := wf2; simp only [Lit.wf, Bool.and_eq_true, decide_eq_true_eq] at h; rw [show IntKind.u8.min = 0 from rfl, show IntKind.u8.max = 255 from rfl] at h; exact h
  obtain ⟨c2, rfl⟩ : ∃ c : UInt8, x2 = (c.toNat : Int) := ⟨x2.toNat.toUInt8, by simp [Nat.toUInt8]; omega⟩
  simp only [List.append_nil] at hW'
  refine (TextWordy_any x0 c1 c2 W wf0).mono fun e W' ⟨he, hb⟩ => ?_
  subst he
  refine ⟨_, rfl, _, _, _, [], [], [], hW', ?_, ?_, ?_, ?_, fun h => by cases h⟩
  · exact trodAll_mk1 (shut_bool Tryd.underlying4 true)
  · exact trodAll_mk3 (shut_string Tryd.underlying9 wf0) (shut_int Tryd.underlying5 wf1) (shut_int Tryd.underlying5 wf2)
  · rfl
  · exact hb.frame _

theorem wordy_row : Rows.TextWordySaid :=
  OpenClaim.holds_of_wide 14 Tryd.f14 rfl rfl rfl rfl rfl rfl rfl ⟨rfl, rfl, rfl, rfl, rfl⟩ rfl rfl rfl rfl rfl (by kernel_rfl) Tryd.func14 (by kernel_rfl)
    (of_decide_eq_true (by kernel_rfl)) (by unfold Func.isWrapper; first | (rw [if_pos (by decide +kernel)]; kernel_rfl) | (rw [if_neg (by decide +kernel)]; exact ⟨rfl, rfl⟩))
    (fun os started H enc _ => wordy_lifted os started H enc)
theorem wordy_holds : Rows.TextWordyCardSaid :=
  Claim7.holds_tied_plain_at .later [] [.data, .pinned] true (true, "268405738f81998e7f0e56fac6798343e5110ef762808a9a609f19379026ee13") false wordy_row (fun _ h => by cases h) (by kernel_rfl) (fun _ h => by cases h) textWordy_row_tie rfl ⟨rfl, rfl⟩ (by kernel_rfl) rfl
    (fun f fn hf hfn => by
      obtain rfl : f = 14 := Option.some.inj ((show Tryd.prog.funcNamed "qanat/qanatlaw02.TextWordy" = some 14 by kernel_rfl).symm.trans hf) |>.symm
      obtain rfl : fn = Tryd.f14 := (Option.some.inj (Tryd.func14.symm.trans hfn)).symm
      exact ⟨by kernel_rfl, fun j t ht => by
        rw [Tryd.params14] at ht
        have hm : t ∈ [9, 5, 5] := by simpa using Array.mem_of_getElem? ht
        have hall : ([9, 5, 5].all fun u => !Tryd.prog.wantsStandIn u) = true := by kernel_rfl
        exact (show Tryd.prog.wantsStandIn t = false by simpa using List.all_eq_true.1 hall t hm)⟩)
    (by kernel_rfl)
#print axioms wordy_holds
end Go.Proofs.YtoilgjlbpimcpaaDoor
