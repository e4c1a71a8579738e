/- The law 'qanat/qanatlaw04.CalFormats' holds: for every input it returns true, and the input reads behind the call as before. Conditions: the package-level variables that the row lists as laid begin as the program's text lays them (the row's word 'laid'; the card ties it to the text). -/
import Derived.Test.YtmjifmlibgpjiaaGreatDoorKd
import Derived.Test.YtmjifmlibgpjiaaGreatDoorTie
import Derived.Test.YtmjifmlibgpjiaaGreatDoorCards
import Derived.ProofKit
import Derived.Shelf.Vars
import Derived.OpenShut
import Derived.LaidMore
import Derived.Lay
import Derived.SevenTiedAt
import Derived.Stop.Joined
import Derived.ChangeMaps5
import Derived.Lib.LaidTab
import Derived.LaidSub
import Derived.Lib.SmallJoins
namespace Go.Proofs.YtmjifmlibgpjiaaGreatDoor
open Go.ChangeShapes Go.WideShapes Go.ChangeAt Go.RowKit Go.ChangeMaps


theorem env_tab : (Rows.calFormatsRow.laid.filter fun x => x.1 == "internal/strconv.uint64pow10") = [("internal/strconv.uint64pow10", Lib.tabData .u64 Lib.pow10Tab)] := by kernel_rfl
theorem env_spc : (Rows.calFormatsRow.laid.filter fun x => x.1 == "strings.asciiSpace") = [("strings.asciiSpace", Lib.tabData .u8 Lib.asciiSpaceTab)] := by kernel_rfl
theorem envOf {W : World} (h : laidMetH Tryz.prog Rows.calFormatsRow.laid W) : Env W := by
  rw [MakeChecks.laidMetH_plain _ _ _ (by kernel_rfl)] at h
  have h2 := laidMet.filter (fun x => x.1 == "internal/strconv.uint64pow10") h
  have h7 := laidMet.filter (fun x => x.1 == "strings.asciiSpace") h
  rw [env_tab] at h2
  rw [env_spc] at h7
  exact ⟨Lib.tabIs_of_head (g := 3) (t := 182) (e := 141) (by kernel_rfl) (by kernel_rfl) Tryz.underlying182 Tryz.underlying141 (by kernel_rfl) (by kernel_rfl) h2, Lib.tabIs_of_head (g := 0) (t := 145) (e := 5) (by kernel_rfl) (by kernel_rfl) Tryz.underlying145 Tryz.underlying5 (by kernel_rfl) (by kernel_rfl) h7⟩
theorem formats_own : ownKnob Tryz.prog.godebug = none := by kernel_rfl

set_option maxRecDepth 100000 in
theorem formats_lifted (os : Os) (started : os.Started) (H : Type) (enc : TypeId × Value → H) :
    ReturnsInHanded {} Tryz.checked os 5 .any (fun w args => (Rows.calFormatsSpec.pre enc Tryz.prog Tryz.f5 Rows.calFormatsRow.domain false w args ∧ laidMetH Tryz.prog Rows.calFormatsRow.laid w) ∧ sizedMet enc Tryz.prog Tryz.f5 (OpenSpec.ofChange Rows.calFormatsSpec) false w args)
      (Rows.calFormatsSpec.post enc Tryz.prog Tryz.f5 false true false false) := by
  have key : ∀ (W : World) (base : Nat) (args : Array Value) (ds gs : List (DataW H)) (before : List MemPlace),
      (∀ (j : Nat) t v, Tryz.f5.params[j]? = some t → args[j]? = some v → Value.okWide Tryz.prog W .any base t v) →
      DataW.Whole enc Tryz.prog Tryz.f5.params.toList Rows.calFormatsSpec.vars false W args.toList ds gs before → laidMetH Tryz.prog Rows.calFormatsRow.laid W → HasMax W →
      Calls Tryz.prog 5 args W fun e W' => ∃ v, e = .returned v ∧ Rows.calFormatsSpec.post enc Tryz.prog Tryz.f5 false true false false W args v W' := by
    intro W base args ds gs before hval0 hW hL hMX
    have hval : ∀ (j : Nat) t v, Tryz.f5.params[j]? = some t → args[j]? = some v → Value.okWide Tryz.prog W .any base t v := hval0
    have hW' := hW
    obtain ⟨p, q, hA0, hV, rfl, _, _⟩ := hW
    have hA : DataW.TrodAll enc Tryz.prog W 0 (fun _ => true) true Tryz.f5.params.toList args.toList ds p := hA0
    rw [Tryz.params5] at hA hval
    obtain ⟨v0, v1, v2, v3, d0, d1, d2, d3, p0, p1, p2, p3, rfl, rfl, rfl, h0, h1, h2, h3⟩ := trodAll_four hA
    obtain ⟨rfl, rfl⟩ := trodVars_none hV
    obtain ⟨x0, rfl, rfl, rfl, wf0⟩ := open_int Tryz.underlying3 (hval 0 3 v0 rfl rfl) h0
    have b0 : -9223372036854775808 ≤ x0 ∧ x0 ≤ 9223372036854775807 := by have h := wf0; simp only [Lit.wf, Bool.and_eq_true, decide_eq_true_eq] at h; rw [show IntKind.i64.min = -9223372036854775808 from rfl, show IntKind.i64.max = 9223372036854775807 from rfl] at h; exact h
    obtain ⟨x1, rfl, rfl, rfl, wf1⟩ := open_int Tryz.underlying5 (hval 1 5 v1 rfl rfl) h1
    have b1 : 0 ≤ x1 ∧ x1 ≤ 255 := by have h := wf1; simp only [Lit.wf, Bool.and_eq_true, decide_eq_true_eq] at h; rw [show IntKind.u8.min = 0 from rfl, show IntKind.u8.max = 255 from rfl] at h; exact h
    obtain ⟨c1, rfl⟩ : ∃ c : UInt8, x1 = (c.toNat : Int) := ⟨x1.toNat.toUInt8, by simp [Nat.toUInt8]; omega⟩
    obtain ⟨x2, rfl, rfl, rfl, wf2⟩ := open_string Tryz.underlying9 (hval 2 9 v2 rfl rfl) h2
    obtain ⟨x3, rfl, rfl, rfl, wf3⟩ := open_int Tryz.underlying3 (hval 3 3 v3 rfl rfl) h3
    have b3 : -9223372036854775808 ≤ x3 ∧ x3 ≤ 9223372036854775807 := by have h := wf3; simp only [Lit.wf, Bool.and_eq_true, decide_eq_true_eq] at h; rw [show IntKind.i64.min = -9223372036854775808 from rfl, show IntKind.i64.max = 9223372036854775807 from rfl] at h; exact h
    simp only [List.append_nil] at hW'
    refine (CalFormats_any x0 c1 x2 x3 W  (envOf hL) hMX).mono fun e W' ⟨he, hb⟩ => ?_
    subst he
    refine ⟨_, rfl, _, _, _, [], [], [], hW', ?_, ?_, ?_, ?_, fun h => by cases h⟩
    · exact trodAll_mk1 (shut_bool Tryz.underlying4 true)
    · exact trodAll_mk4 (shut_int Tryz.underlying3 wf0) (shut_int Tryz.underlying5 wf1) (shut_string Tryz.underlying9 wf2) (shut_int Tryz.underlying3 wf3)
    · rfl
    · exact hb.frame _
  refine returnsInHanded_of_calls formats_own started (by kernel_rfl)
    (ChangeSpec.witness_shaped (enc := enc) (C := Tryz.checked) (os := os) (X := fun w _ => laidMetH Tryz.prog Rows.calFormatsRow.laid w) false (World.laidAll Tryz.prog os Rows.calFormatsRow.laid) #[.int .i64 0, .int .u8 0, .string ⟨#[]⟩, .int .i64 0] 8 (World.laidAll_os _ _ _)
      (World.shaped_of_ZipB (by kernel_rfl) (by kernel_rfl)) (by kernel_rfl) (by kernel_rfl) (by kernel_rfl)
      (by rw [MakeChecks.laidMetH_plain _ _ _ (by kernel_rfl)]; exact laidMet_laidAll _ (by kernel_rfl) (by kernel_rfl))) ?_
  intro w tape i _ hsh _ hok hpre hholds
  obtain ⟨_, _, _, fn', hfn', _, _, _, _, hval⟩ := hok
  have efn : fn' = Tryz.f5 := Option.some.inj (hfn'.symm.trans Tryz.func5)
  subst efn
  obtain ⟨⟨⟨ds, gs, before, hw, hc⟩, hx⟩, hz⟩ := hpre
  have hMX : HasMax (w.forCall tape i) := cell_of_shapedOpen_int (t := 3) (zero := #[.int .i64 0]) hsh (of_decide_eq_true (by kernel_rfl)) (by kernel_rfl) (by kernel_rfl) (by kernel_rfl) (by kernel_rfl) Tryz.underlying3
  refine (key (w.forCall tape i) w.heap.size i.args ds gs before hval (DataW.Whole.of_heap (w' := w.forCall tape i) (by rfl) hw) (hx.of_heap (by rfl)) hMX).mono fun e W' ⟨v, he, hp⟩ => ?_
  subst he
  exact ChangeSpec.post_blind hp


theorem formats_row : Rows.CalFormatsSaid :=
  OpenClaim.holds_of_wide 5 Tryz.f5 rfl rfl rfl rfl rfl rfl rfl ⟨rfl, rfl, rfl, rfl, rfl⟩ rfl rfl rfl rfl rfl (by kernel_rfl) Tryz.func5 (by kernel_rfl)
    (of_decide_eq_true (by kernel_rfl)) (by unfold Func.isWrapper; first | (rw [if_pos (by decide +kernel)]; kernel_rfl) | (rw [if_neg (by decide +kernel)]; exact ⟨rfl, rfl⟩))
    (fun os started H enc _ => formats_lifted os started H enc)
theorem formats_holds : Rows.CalFormatsCardSaid :=
  Claim7.holds_tied_plain_at .later [] [.data, .data, .data, .data, .sentinel, .sentinel, .listed, .data, .pinned] true (true, "7f5c90542c4f5b3dec2728c33b1455d27b1057e01edd59f0fc66c6d5e69edbfa") true formats_row (fun _ h => by cases h) (by kernel_rfl) (fun _ h => by cases h) calFormats_row_tie rfl ⟨rfl, rfl⟩ (by kernel_rfl) rfl
    (fun f fn hf hfn => by
      obtain rfl : f = 5 := Option.some.inj ((show Tryz.prog.funcNamed "qanat/qanatlaw04.CalFormats" = some 5 by kernel_rfl).symm.trans hf) |>.symm
      obtain rfl : fn = Tryz.f5 := (Option.some.inj (Tryz.func5.symm.trans hfn)).symm
      exact ⟨by kernel_rfl, fun j t ht => by
        rw [Tryz.params5] at ht
        have hm : t ∈ [3, 5, 9, 3] := by simpa using Array.mem_of_getElem? ht
        have hall : ([3, 5, 9, 3].all fun u => !Tryz.prog.wantsStandIn u) = true := by kernel_rfl
        exact (show Tryz.prog.wantsStandIn t = false by simpa using List.all_eq_true.1 hall t hm)⟩)
    (by kernel_rfl)
#print axioms formats_holds
end Go.Proofs.YtmjifmlibgpjiaaGreatDoor
