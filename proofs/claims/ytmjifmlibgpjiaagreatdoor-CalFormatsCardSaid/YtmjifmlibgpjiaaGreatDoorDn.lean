/- Numbers of a text, in an order. -/
import Derived.Test.YtmjifmlibgpjiaaGreatDoorDm
import Derived.Test.YtmjifmlibgpjiaaGreatDoorDe
namespace Go.Proofs.YtmjifmlibgpjiaaGreatDoor
open Go.RowKit Go.Shelf Tx
set_option linter.unusedVariables false
set_option maxRecDepth 100000

set_option maxHeartbeats 400000 in
theorem numbersIn_any (s : ByteArray) (w : World) : Calls Tryz.prog 138 #[.string s] w fun e w' => e = .returned (.func (.func 155) #[] #[.pointer (some ⟨w.heap.size, 0, none⟩)]) ∧ w.alloc (.cells #[.string s] 9) = w' := by
  have hmf : ∀ (fn : Fn) (first cap : Array Value) (w : World), (Instr.makeFunc fn first cap).run Tryz.prog w = .ok (.func fn first cap) w := fun _ _ _ _ => rfl
  go_enter Tryz.func138, Tryz.ntmps138
  go_wp2
  go_ret
  exact ⟨rfl, rfl⟩
/-- strings.IndexAny serves a text and what is left of it. -/
def SufOk (s : ByteArray) : Prop := ∀ t : ByteArray, (∃ k, bts t = (bts s).drop k) → IdxOk t
theorem drop_drop' (l : List UInt8) (a b : Nat) : (l.drop a).drop b = l.drop (a + b) := List.drop_drop
theorem numR_drop (l : List UInt8) : ∃ k, numR l = l.drop k := by
  unfold numR
  split
  · exact ⟨0, rfl⟩
  · have h := nParts l
    have h2 : l = (nHead l ++ nTake l) ++ nRest l := by rw [List.append_assoc]; exact h
    have h3 := congrArg (List.drop ((nHead l).length + (nTake l).length)) h2
    exact ⟨(nHead l).length + (nTake l).length, by rw [h3]; exact (List.drop_left' (by rw [List.length_append])).symm⟩
theorem SufOk.next {s r : ByteArray} (h : SufOk s) (hr : bts r = numR (bts s)) : SufOk r := fun t ⟨k, hk⟩ => by
  obtain ⟨j, hj⟩ := numR_drop (bts s)
  exact h t ⟨j + k, by rw [hk, hr, hj, drop_drop']⟩
theorem SufOk.self {s : ByteArray} (h : SufOk s) : IdxOk s := h s ⟨0, rfl⟩
theorem numR_len (l : List UInt8) : (numR l).length ≤ l.length := by obtain ⟨k, hk⟩ := numR_drop l; rw [hk, List.length_drop]; omega
namespace Tx
def num1 (l : List UInt8) : Int := numV l
def num2 (l : List UInt8) : Int := numV (numR l)
def num3 (l : List UInt8) : Int := numV (numR (numR l))
end Tx
theorem dt_ne : 70 ≠ 9 := by decide
set_option maxHeartbeats 4000000 in
theorem inOrderE_any (q : Nat) (s : ByteArray) (y : Nat) (w : World) (hs : s.size ≤ 1000000) (hS : SufOk s) (hq : BoxC w q 3 #[.int .i64 2, .int .i64 1, .int .i64 0]) :
    Calls Tryz.prog 134 #[.agg #[.string s, .int .i64 (y : Int)], .slice (some ⟨q, 0, none⟩) 3 3] w fun e w' => e = .returned (.agg #[.int .i64 (num3 (bts s)), .int .i64 (num2 (bts s)), .int .i64 (num1 (bts s))]) ∧ Below w.heap.size w w' := by
  have hlt := hq.lt
  have q0 : w.cell? ⟨q, 0, none⟩ = some (.int .i64 2) := hq.cell (i := 0) rfl
  have q1 : w.cell? ⟨q, 1, none⟩ = some (.int .i64 1) := hq.cell (i := 1) rfl
  have q2 : w.cell? ⟨q, 2, none⟩ = some (.int .i64 0) := hq.cell (i := 2) rfl
  have HQ := Lib.hid hq
  have HS := Lib.hid hS
  have HZ := Lib.hid hs
  obtain ⟨A0, hA0⟩ : ∃ A0, A0 = ((w.alloc (.cells #[.string s, .int .i64 (y : Int)] 88)).alloc (.cells #[.int .i64 0, .int .i64 0, .int .i64 0] 70)).alloc (.cells #[.int .i64 0, .int .i64 0, .int .i64 0] 70) := ⟨_, rfl⟩
  have hz0 : A0.heap.size = w.heap.size + 1 + 1 + 1 := by rw [hA0]; simp
  have bR0 : BoxC A0 (w.heap.size + 1) 70 #[.int .i64 0, .int .i64 0, .int .i64 0] := by rw [hA0]; exact BoxC.alloc (BoxC.newAt (by simp)) _
  have bD0 : BoxC A0 (w.heap.size + 1 + 1) 70 #[.int .i64 0, .int .i64 0, .int .i64 0] := by rw [hA0]; exact BoxC.newAt (by simp)
  have bl0 : Below w.heap.size w A0 := by rw [hA0]; exact Bl.alloc (Bl.alloc (Bl.alloc (Below.refl _ w) _) _) _
  obtain ⟨W0, hW0⟩ : ∃ W0, W0 = A0.alloc (.cells #[.string s] 9) := ⟨_, rfl⟩
  have bN0 : BoxC W0 (w.heap.size + 1 + 1 + 1) 9 #[.string s] := by rw [hW0]; exact BoxC.newAt hz0.symm
  have bR := bR0.alloc (.cells #[.string s] 9)
  have bD := bD0.alloc (.cells #[.string s] 9)
  have bl := Bl.alloc bl0 (.cells #[.string s] 9)
  rw [← hW0] at bR bD bl
  have HP0 := Lib.hid (And.intro bN0 (And.intro bR (And.intro bD bl)))
  have K0 := Lib.hid (number_next s (w.heap.size + 1 + 1 + 1) W0 hs hS.self bN0)
  have HA := Lib.hid hA0
  have HW := Lib.hid hW0
  clear hq hs hS bR0 bD0 bl0 bN0 bR bD bl hz0
  go_enter Tryz.func134, Tryz.ntmps134
  clear hA0 hW0
  go_wp2_with (go_at_call 138; refine Calls.mono (numbersIn_any _ _) ?_; rintro e w9 ⟨rfl, rfl⟩)
  rw [← HA.out, ← HW.out]
  have q0' := (BoxC.below HQ.out HP0.out.2.2.2 hlt)
  have p0_0 : W0.cell? ⟨q, 0, none⟩ = some (.int .i64 2) := q0'.cell (i := 0) rfl
  have p0_1 : W0.cell? ⟨q, 1, none⟩ = some (.int .i64 1) := q0'.cell (i := 1) rfl
  have p0_2 : W0.cell? ⟨q, 2, none⟩ = some (.int .i64 0) := q0'.cell (i := 2) rfl
  clear q0' q0 q1 q2
  refine wp_loop_rounds 4 ?_
  rw [rounds_succ]
  go_wp2_with (go_at_call 155; refine Calls.mono K0.out ?_; rintro e V1 ⟨r1, rfl, hr1, hN1, hg1⟩; have HN1 := Lib.hid (And.intro hN1 hg1); have bD1 := BoxC.kept HP0.out.2.2.1 hg1 (by simp); have x1_c := bD1.cell (i := 2) rfl; have x1_f := bD1.frozen 2; have HD1 := Lib.hid bD1; have Q1 := BoxC.kept (BoxC.below HQ.out HP0.out.2.2.2 hlt) hg1 (by simp; omega); have p1_0 : V1.cell? ⟨q, 0, none⟩ = some (.int .i64 2) := Q1.cell (i := 0) rfl; have p1_1 : V1.cell? ⟨q, 1, none⟩ = some (.int .i64 1) := Q1.cell (i := 1) rfl; have p1_2 : V1.cell? ⟨q, 2, none⟩ = some (.int .i64 0) := Q1.cell (i := 2) rfl; clear hN1 hg1 bD1 Q1)
  obtain ⟨W1, hW1⟩ : ∃ W1, W1 = V1.setCell ⟨w.heap.size + 1 + 1, 2, none⟩ (.int .i64 (numV (bts s))) := ⟨_, rfl⟩
  rw [← hW1]
  have HP1 := Lib.hid (show BoxC W1 (w.heap.size + 1 + 1 + 1) 9 #[.string r1] ∧ BoxC W1 (w.heap.size + 1) 70 #[.int .i64 0, .int .i64 0, .int .i64 0] ∧ BoxC W1 (w.heap.size + 1 + 1) 70 #[.int .i64 0, .int .i64 0, .int .i64 (numV (bts s))] ∧ Below w.heap.size w W1 by
    rw [hW1]
    have hb := (HP0.out.2.2.2).grown HN1.out.2 HP0.out.2.2.2.size (fun k hk => by simp at hk; omega)
    exact ⟨HN1.out.1.other (by omega) _ _, (BoxC.kept HP0.out.2.1 HN1.out.2 (by simp)).other (by omega) _ _, HD1.out.set 2 _, hb.setCell (p := ⟨w.heap.size + 1 + 1, 2, none⟩) (by simp; omega) _⟩)
  have S1 := BoxC.below HQ.out HP1.out.2.2.2 hlt
  have t1_0 : W1.cell? ⟨q, 0, none⟩ = some (.int .i64 2) := S1.cell (i := 0) rfl
  have t1_1 : W1.cell? ⟨q, 1, none⟩ = some (.int .i64 1) := S1.cell (i := 1) rfl
  have t1_2 : W1.cell? ⟨q, 2, none⟩ = some (.int .i64 0) := S1.cell (i := 2) rfl
  have hsz1 : r1.size ≤ 1000000 := by have h := HZ.out; have h1 := numR_len (bts s); rw [← hr1.out, bts_length, bts_length] at h1; omega
  have HSZ1 := Lib.hid hsz1
  have SF1 := Lib.hid (SufOk.next HS.out hr1.out)
  have K1 := Lib.hid (number_next r1 (w.heap.size + 1 + 1 + 1) W1 hsz1 SF1.out.self HP1.out.1)
  clear hsz1
  clear hW1 S1 x1_c x1_f
  rw [rounds_succ]
  go_wp2_with (go_at_call 155; refine Calls.mono K1.out ?_; rintro e V2 ⟨r2, rfl, hr2, hN2, hg2⟩; have HN2 := Lib.hid (And.intro hN2 hg2); have bD2 := BoxC.kept HP1.out.2.2.1 hg2 (by simp); have x2_c := bD2.cell (i := 1) rfl; have x2_f := bD2.frozen 1; have HD2 := Lib.hid bD2; have Q2 := BoxC.kept (BoxC.below HQ.out HP1.out.2.2.2 hlt) hg2 (by simp; omega); have p2_0 : V2.cell? ⟨q, 0, none⟩ = some (.int .i64 2) := Q2.cell (i := 0) rfl; have p2_1 : V2.cell? ⟨q, 1, none⟩ = some (.int .i64 1) := Q2.cell (i := 1) rfl; have p2_2 : V2.cell? ⟨q, 2, none⟩ = some (.int .i64 0) := Q2.cell (i := 2) rfl; clear hN2 hg2 bD2 Q2)
  obtain ⟨W2, hW2⟩ : ∃ W2, W2 = V2.setCell ⟨w.heap.size + 1 + 1, 1, none⟩ (.int .i64 (numV (bts r1))) := ⟨_, rfl⟩
  rw [← hW2]
  have HP2 := Lib.hid (show BoxC W2 (w.heap.size + 1 + 1 + 1) 9 #[.string r2] ∧ BoxC W2 (w.heap.size + 1) 70 #[.int .i64 0, .int .i64 0, .int .i64 0] ∧ BoxC W2 (w.heap.size + 1 + 1) 70 #[.int .i64 0, .int .i64 (numV (bts r1)), .int .i64 (numV (bts s))] ∧ Below w.heap.size w W2 by
    rw [hW2]
    have hb := (HP1.out.2.2.2).grown HN2.out.2 HP1.out.2.2.2.size (fun k hk => by simp at hk; omega)
    exact ⟨HN2.out.1.other (by omega) _ _, (BoxC.kept HP1.out.2.1 HN2.out.2 (by simp)).other (by omega) _ _, HD2.out.set 1 _, hb.setCell (p := ⟨w.heap.size + 1 + 1, 1, none⟩) (by simp; omega) _⟩)
  have S2 := BoxC.below HQ.out HP2.out.2.2.2 hlt
  have t2_0 : W2.cell? ⟨q, 0, none⟩ = some (.int .i64 2) := S2.cell (i := 0) rfl
  have t2_1 : W2.cell? ⟨q, 1, none⟩ = some (.int .i64 1) := S2.cell (i := 1) rfl
  have t2_2 : W2.cell? ⟨q, 2, none⟩ = some (.int .i64 0) := S2.cell (i := 2) rfl
  have hsz2 : r2.size ≤ 1000000 := by have h := HZ.out; have h1 := numR_len (bts r1); rw [← hr2.out, bts_length, bts_length] at h1; have h2 := HSZ1.out; omega
  have HSZ2 := Lib.hid hsz2
  have SF2 := Lib.hid (SufOk.next SF1.out hr2.out)
  have K2 := Lib.hid (number_next r2 (w.heap.size + 1 + 1 + 1) W2 hsz2 SF2.out.self HP2.out.1)
  clear hsz2
  clear hW2 S2 x2_c x2_f
  rw [rounds_succ]
  go_wp2_with (go_at_call 155; refine Calls.mono K2.out ?_; rintro e V3 ⟨r3, rfl, hr3, hN3, hg3⟩; have HN3 := Lib.hid (And.intro hN3 hg3); have bD3 := BoxC.kept HP2.out.2.2.1 hg3 (by simp); have x3_c := bD3.cell (i := 0) rfl; have x3_f := bD3.frozen 0; have HD3 := Lib.hid bD3; have Q3 := BoxC.kept (BoxC.below HQ.out HP2.out.2.2.2 hlt) hg3 (by simp; omega); have p3_0 : V3.cell? ⟨q, 0, none⟩ = some (.int .i64 2) := Q3.cell (i := 0) rfl; have p3_1 : V3.cell? ⟨q, 1, none⟩ = some (.int .i64 1) := Q3.cell (i := 1) rfl; have p3_2 : V3.cell? ⟨q, 2, none⟩ = some (.int .i64 0) := Q3.cell (i := 2) rfl; clear hN3 hg3 bD3 Q3)
  obtain ⟨W3, hW3⟩ : ∃ W3, W3 = V3.setCell ⟨w.heap.size + 1 + 1, 0, none⟩ (.int .i64 (numV (bts r2))) := ⟨_, rfl⟩
  rw [← hW3]
  have HP3 := Lib.hid (show BoxC W3 (w.heap.size + 1 + 1 + 1) 9 #[.string r3] ∧ BoxC W3 (w.heap.size + 1) 70 #[.int .i64 0, .int .i64 0, .int .i64 0] ∧ BoxC W3 (w.heap.size + 1 + 1) 70 #[.int .i64 (numV (bts r2)), .int .i64 (numV (bts r1)), .int .i64 (numV (bts s))] ∧ Below w.heap.size w W3 by
    rw [hW3]
    have hb := (HP2.out.2.2.2).grown HN3.out.2 HP2.out.2.2.2.size (fun k hk => by simp at hk; omega)
    exact ⟨HN3.out.1.other (by omega) _ _, (BoxC.kept HP2.out.2.1 HN3.out.2 (by simp)).other (by omega) _ _, HD3.out.set 0 _, hb.setCell (p := ⟨w.heap.size + 1 + 1, 0, none⟩) (by simp; omega) _⟩)
  have S3 := BoxC.below HQ.out HP3.out.2.2.2 hlt
  have t3_0 : W3.cell? ⟨q, 0, none⟩ = some (.int .i64 2) := S3.cell (i := 0) rfl
  have t3_1 : W3.cell? ⟨q, 1, none⟩ = some (.int .i64 1) := S3.cell (i := 1) rfl
  have t3_2 : W3.cell? ⟨q, 2, none⟩ = some (.int .i64 0) := S3.cell (i := 2) rfl
  clear hW3 S3 x3_c x3_f
  have y0 := HP3.out.2.2.1.cell (i := 0) rfl
  have y1 := HP3.out.2.2.1.cell (i := 1) rfl
  have y2 := HP3.out.2.2.1.cell (i := 2) rfl
  have u0 := HP3.out.2.1.cell (i := 0) rfl
  have u1 := HP3.out.2.1.cell (i := 1) rfl
  have u2 := HP3.out.2.1.cell (i := 2) rfl
  have v0 := HP3.out.2.1.frozen 0
  have v1 := HP3.out.2.1.frozen 1
  have v2 := HP3.out.2.1.frozen 2
  rw [rounds_succ]
  go_wp2
  have bz := ((HP3.out.2.1.set 0 (.int .i64 (numV (bts r2)))).set 1 (.int .i64 (numV (bts r1)))).set 2 (.int .i64 (numV (bts s)))
  have z0 := bz.cell (i := 0) rfl
  have z1 := bz.cell (i := 1) rfl
  have z2 := bz.cell (i := 2) rfl
  refine bodyPost_ret (v := .agg #[.int .i64 (numV (bts r2)), .int .i64 (numV (bts r1)), .int .i64 (numV (bts s))]) (by simp [results, Tryz.results134, go_sem, z0, z1, z2]) rfl ?_
  refine ⟨by simp only [hr1.out, hr2.out, num1, num2, num3], ((HP3.out.2.2.2.setCell (p := ⟨w.heap.size + 1, 0, none⟩) (by simp) _).setCell (p := ⟨w.heap.size + 1, 1, none⟩) (by simp) _).setCell (p := ⟨w.heap.size + 1, 2, none⟩) (by simp) _⟩
set_option maxHeartbeats 4000000 in
theorem inOrderO_any (q : Nat) (s : ByteArray) (y : Nat) (w : World) (hs : s.size ≤ 1000000) (hS : SufOk s) (hq : BoxC w q 3 #[.int .i64 0, .int .i64 1, .int .i64 2]) :
    Calls Tryz.prog 134 #[.agg #[.string s, .int .i64 (y : Int)], .slice (some ⟨q, 0, none⟩) 3 3] w fun e w' => e = .returned (.agg #[.int .i64 (num1 (bts s)), .int .i64 (num2 (bts s)), .int .i64 (num3 (bts s))]) ∧ Below w.heap.size w w' := by
  have hlt := hq.lt
  have q0 : w.cell? ⟨q, 0, none⟩ = some (.int .i64 0) := hq.cell (i := 0) rfl
  have q1 : w.cell? ⟨q, 1, none⟩ = some (.int .i64 1) := hq.cell (i := 1) rfl
  have q2 : w.cell? ⟨q, 2, none⟩ = some (.int .i64 2) := hq.cell (i := 2) rfl
  have HQ := Lib.hid hq
  have HS := Lib.hid hS
  have HZ := Lib.hid hs
  obtain ⟨A0, hA0⟩ : ∃ A0, A0 = ((w.alloc (.cells #[.string s, .int .i64 (y : Int)] 88)).alloc (.cells #[.int .i64 0, .int .i64 0, .int .i64 0] 70)).alloc (.cells #[.int .i64 0, .int .i64 0, .int .i64 0] 70) := ⟨_, rfl⟩
  have hz0 : A0.heap.size = w.heap.size + 1 + 1 + 1 := by rw [hA0]; simp
  have bR0 : BoxC A0 (w.heap.size + 1) 70 #[.int .i64 0, .int .i64 0, .int .i64 0] := by rw [hA0]; exact BoxC.alloc (BoxC.newAt (by simp)) _
  have bD0 : BoxC A0 (w.heap.size + 1 + 1) 70 #[.int .i64 0, .int .i64 0, .int .i64 0] := by rw [hA0]; exact BoxC.newAt (by simp)
  have bl0 : Below w.heap.size w A0 := by rw [hA0]; exact Bl.alloc (Bl.alloc (Bl.alloc (Below.refl _ w) _) _) _
  obtain ⟨W0, hW0⟩ : ∃ W0, W0 = A0.alloc (.cells #[.string s] 9) := ⟨_, rfl⟩
  have bN0 : BoxC W0 (w.heap.size + 1 + 1 + 1) 9 #[.string s] := by rw [hW0]; exact BoxC.newAt hz0.symm
  have bR := bR0.alloc (.cells #[.string s] 9)
  have bD := bD0.alloc (.cells #[.string s] 9)
  have bl := Bl.alloc bl0 (.cells #[.string s] 9)
  rw [← hW0] at bR bD bl
  have HP0 := Lib.hid (And.intro bN0 (And.intro bR (And.intro bD bl)))
  have K0 := Lib.hid (number_next s (w.heap.size + 1 + 1 + 1) W0 hs hS.self bN0)
  have HA := Lib.hid hA0
  have HW := Lib.hid hW0
  clear hq hs hS bR0 bD0 bl0 bN0 bR bD bl hz0
  go_enter Tryz.func134, Tryz.ntmps134
  clear hA0 hW0
  go_wp2_with (go_at_call 138; refine Calls.mono (numbersIn_any _ _) ?_; rintro e w9 ⟨rfl, rfl⟩)
  rw [← HA.out, ← HW.out]
  have q0' := (BoxC.below HQ.out HP0.out.2.2.2 hlt)
  have p0_0 : W0.cell? ⟨q, 0, none⟩ = some (.int .i64 0) := q0'.cell (i := 0) rfl
  have p0_1 : W0.cell? ⟨q, 1, none⟩ = some (.int .i64 1) := q0'.cell (i := 1) rfl
  have p0_2 : W0.cell? ⟨q, 2, none⟩ = some (.int .i64 2) := q0'.cell (i := 2) rfl
  clear q0' q0 q1 q2
  refine wp_loop_rounds 4 ?_
  rw [rounds_succ]
  go_wp2_with (go_at_call 155; refine Calls.mono K0.out ?_; rintro e V1 ⟨r1, rfl, hr1, hN1, hg1⟩; have HN1 := Lib.hid (And.intro hN1 hg1); have bD1 := BoxC.kept HP0.out.2.2.1 hg1 (by simp); have x1_c := bD1.cell (i := 0) rfl; have x1_f := bD1.frozen 0; have HD1 := Lib.hid bD1; have Q1 := BoxC.kept (BoxC.below HQ.out HP0.out.2.2.2 hlt) hg1 (by simp; omega); have p1_0 : V1.cell? ⟨q, 0, none⟩ = some (.int .i64 0) := Q1.cell (i := 0) rfl; have p1_1 : V1.cell? ⟨q, 1, none⟩ = some (.int .i64 1) := Q1.cell (i := 1) rfl; have p1_2 : V1.cell? ⟨q, 2, none⟩ = some (.int .i64 2) := Q1.cell (i := 2) rfl; clear hN1 hg1 bD1 Q1)
  obtain ⟨W1, hW1⟩ : ∃ W1, W1 = V1.setCell ⟨w.heap.size + 1 + 1, 0, none⟩ (.int .i64 (numV (bts s))) := ⟨_, rfl⟩
  rw [← hW1]
  have HP1 := Lib.hid (show BoxC W1 (w.heap.size + 1 + 1 + 1) 9 #[.string r1] ∧ BoxC W1 (w.heap.size + 1) 70 #[.int .i64 0, .int .i64 0, .int .i64 0] ∧ BoxC W1 (w.heap.size + 1 + 1) 70 #[.int .i64 (numV (bts s)), .int .i64 0, .int .i64 0] ∧ Below w.heap.size w W1 by
    rw [hW1]
    have hb := (HP0.out.2.2.2).grown HN1.out.2 HP0.out.2.2.2.size (fun k hk => by simp at hk; omega)
    exact ⟨HN1.out.1.other (by omega) _ _, (BoxC.kept HP0.out.2.1 HN1.out.2 (by simp)).other (by omega) _ _, HD1.out.set 0 _, hb.setCell (p := ⟨w.heap.size + 1 + 1, 0, none⟩) (by simp; omega) _⟩)
  have S1 := BoxC.below HQ.out HP1.out.2.2.2 hlt
  have t1_0 : W1.cell? ⟨q, 0, none⟩ = some (.int .i64 0) := S1.cell (i := 0) rfl
  have t1_1 : W1.cell? ⟨q, 1, none⟩ = some (.int .i64 1) := S1.cell (i := 1) rfl
  have t1_2 : W1.cell? ⟨q, 2, none⟩ = some (.int .i64 2) := S1.cell (i := 2) rfl
  have hsz1 : r1.size ≤ 1000000 := by have h := HZ.out; have h1 := numR_len (bts s); rw [← hr1.out, bts_length, bts_length] at h1; omega
  have HSZ1 := Lib.hid hsz1
  have SF1 := Lib.hid (SufOk.next HS.out hr1.out)
  have K1 := Lib.hid (number_next r1 (w.heap.size + 1 + 1 + 1) W1 hsz1 SF1.out.self HP1.out.1)
  clear hsz1
  clear hW1 S1 x1_c x1_f
  rw [rounds_succ]
  go_wp2_with (go_at_call 155; refine Calls.mono K1.out ?_; rintro e V2 ⟨r2, rfl, hr2, hN2, hg2⟩; have HN2 := Lib.hid (And.intro hN2 hg2); have bD2 := BoxC.kept HP1.out.2.2.1 hg2 (by simp); have x2_c := bD2.cell (i := 1) rfl; have x2_f := bD2.frozen 1; have HD2 := Lib.hid bD2; have Q2 := BoxC.kept (BoxC.below HQ.out HP1.out.2.2.2 hlt) hg2 (by simp; omega); have p2_0 : V2.cell? ⟨q, 0, none⟩ = some (.int .i64 0) := Q2.cell (i := 0) rfl; have p2_1 : V2.cell? ⟨q, 1, none⟩ = some (.int .i64 1) := Q2.cell (i := 1) rfl; have p2_2 : V2.cell? ⟨q, 2, none⟩ = some (.int .i64 2) := Q2.cell (i := 2) rfl; clear hN2 hg2 bD2 Q2)
  obtain ⟨W2, hW2⟩ : ∃ W2, W2 = V2.setCell ⟨w.heap.size + 1 + 1, 1, none⟩ (.int .i64 (numV (bts r1))) := ⟨_, rfl⟩
  rw [← hW2]
  have HP2 := Lib.hid (show BoxC W2 (w.heap.size + 1 + 1 + 1) 9 #[.string r2] ∧ BoxC W2 (w.heap.size + 1) 70 #[.int .i64 0, .int .i64 0, .int .i64 0] ∧ BoxC W2 (w.heap.size + 1 + 1) 70 #[.int .i64 (numV (bts s)), .int .i64 (numV (bts r1)), .int .i64 0] ∧ Below w.heap.size w W2 by
    rw [hW2]
    have hb := (HP1.out.2.2.2).grown HN2.out.2 HP1.out.2.2.2.size (fun k hk => by simp at hk; omega)
    exact ⟨HN2.out.1.other (by omega) _ _, (BoxC.kept HP1.out.2.1 HN2.out.2 (by simp)).other (by omega) _ _, HD2.out.set 1 _, hb.setCell (p := ⟨w.heap.size + 1 + 1, 1, none⟩) (by simp; omega) _⟩)
  have S2 := BoxC.below HQ.out HP2.out.2.2.2 hlt
  have t2_0 : W2.cell? ⟨q, 0, none⟩ = some (.int .i64 0) := S2.cell (i := 0) rfl
  have t2_1 : W2.cell? ⟨q, 1, none⟩ = some (.int .i64 1) := S2.cell (i := 1) rfl
  have t2_2 : W2.cell? ⟨q, 2, none⟩ = some (.int .i64 2) := S2.cell (i := 2) rfl
  have hsz2 : r2.size ≤ 1000000 := by have h := HZ.out; have h1 := numR_len (bts r1); rw [← hr2.out, bts_length, bts_length] at h1; have h2 := HSZ1.out; omega
  have HSZ2 := Lib.hid hsz2
  have SF2 := Lib.hid (SufOk.next SF1.out hr2.out)
  have K2 := Lib.hid (number_next r2 (w.heap.size + 1 + 1 + 1) W2 hsz2 SF2.out.self HP2.out.1)
  clear hsz2
  clear hW2 S2 x2_c x2_f
  rw [rounds_succ]
  go_wp2_with (go_at_call 155; refine Calls.mono K2.out ?_; rintro e V3 ⟨r3, rfl, hr3, hN3, hg3⟩; have HN3 := Lib.hid (And.intro hN3 hg3); have bD3 := BoxC.kept HP2.out.2.2.1 hg3 (by simp); have x3_c := bD3.cell (i := 2) rfl; have x3_f := bD3.frozen 2; have HD3 := Lib.hid bD3; have Q3 := BoxC.kept (BoxC.below HQ.out HP2.out.2.2.2 hlt) hg3 (by simp; omega); have p3_0 : V3.cell? ⟨q, 0, none⟩ = some (.int .i64 0) := Q3.cell (i := 0) rfl; have p3_1 : V3.cell? ⟨q, 1, none⟩ = some (.int .i64 1) := Q3.cell (i := 1) rfl; have p3_2 : V3.cell? ⟨q, 2, none⟩ = some (.int .i64 2) := Q3.cell (i := 2) rfl; clear hN3 hg3 bD3 Q3)
  obtain ⟨W3, hW3⟩ : ∃ W3, W3 = V3.setCell ⟨w.heap.size + 1 + 1, 2, none⟩ (.int .i64 (numV (bts r2))) := ⟨_, rfl⟩
  rw [← hW3]
  have HP3 := Lib.hid (show BoxC W3 (w.heap.size + 1 + 1 + 1) 9 #[.string r3] ∧ BoxC W3 (w.heap.size + 1) 70 #[.int .i64 0, .int .i64 0, .int .i64 0] ∧ BoxC W3 (w.heap.size + 1 + 1) 70 #[.int .i64 (numV (bts s)), .int .i64 (numV (bts r1)), .int .i64 (numV (bts r2))] ∧ Below w.heap.size w W3 by
    rw [hW3]
    have hb := (HP2.out.2.2.2).grown HN3.out.2 HP2.out.2.2.2.size (fun k hk => by simp at hk; omega)
    exact ⟨HN3.out.1.other (by omega) _ _, (BoxC.kept HP2.out.2.1 HN3.out.2 (by simp)).other (by omega) _ _, HD3.out.set 2 _, hb.setCell (p := ⟨w.heap.size + 1 + 1, 2, none⟩) (by simp; omega) _⟩)
  have S3 := BoxC.below HQ.out HP3.out.2.2.2 hlt
  have t3_0 : W3.cell? ⟨q, 0, none⟩ = some (.int .i64 0) := S3.cell (i := 0) rfl
  have t3_1 : W3.cell? ⟨q, 1, none⟩ = some (.int .i64 1) := S3.cell (i := 1) rfl
  have t3_2 : W3.cell? ⟨q, 2, none⟩ = some (.int .i64 2) := S3.cell (i := 2) rfl
  clear hW3 S3 x3_c x3_f
  have y0 := HP3.out.2.2.1.cell (i := 0) rfl
  have y1 := HP3.out.2.2.1.cell (i := 1) rfl
  have y2 := HP3.out.2.2.1.cell (i := 2) rfl
  have u0 := HP3.out.2.1.cell (i := 0) rfl
  have u1 := HP3.out.2.1.cell (i := 1) rfl
  have u2 := HP3.out.2.1.cell (i := 2) rfl
  have v0 := HP3.out.2.1.frozen 0
  have v1 := HP3.out.2.1.frozen 1
  have v2 := HP3.out.2.1.frozen 2
  rw [rounds_succ]
  go_wp2
  have bz := ((HP3.out.2.1.set 0 (.int .i64 (numV (bts s)))).set 1 (.int .i64 (numV (bts r1)))).set 2 (.int .i64 (numV (bts r2)))
  have z0 := bz.cell (i := 0) rfl
  have z1 := bz.cell (i := 1) rfl
  have z2 := bz.cell (i := 2) rfl
  refine bodyPost_ret (v := .agg #[.int .i64 (numV (bts s)), .int .i64 (numV (bts r1)), .int .i64 (numV (bts r2))]) (by simp [results, Tryz.results134, go_sem, z0, z1, z2]) rfl ?_
  refine ⟨by simp only [hr1.out, hr2.out, num1, num2, num3], ((HP3.out.2.2.2.setCell (p := ⟨w.heap.size + 1, 0, none⟩) (by simp) _).setCell (p := ⟨w.heap.size + 1, 1, none⟩) (by simp) _).setCell (p := ⟨w.heap.size + 1, 2, none⟩) (by simp) _⟩
set_option maxHeartbeats 4000000 in
theorem inOrderU_any (q : Nat) (s : ByteArray) (y : Nat) (w : World) (hs : s.size ≤ 1000000) (hS : SufOk s) (hq : BoxC w q 3 #[.int .i64 1, .int .i64 2, .int .i64 0]) :
    Calls Tryz.prog 134 #[.agg #[.string s, .int .i64 (y : Int)], .slice (some ⟨q, 0, none⟩) 3 3] w fun e w' => e = .returned (.agg #[.int .i64 (num3 (bts s)), .int .i64 (num1 (bts s)), .int .i64 (num2 (bts s))]) ∧ Below w.heap.size w w' := by
  have hlt := hq.lt
  have q0 : w.cell? ⟨q, 0, none⟩ = some (.int .i64 1) := hq.cell (i := 0) rfl
  have q1 : w.cell? ⟨q, 1, none⟩ = some (.int .i64 2) := hq.cell (i := 1) rfl
  have q2 : w.cell? ⟨q, 2, none⟩ = some (.int .i64 0) := hq.cell (i := 2) rfl
  have HQ := Lib.hid hq
  have HS := Lib.hid hS
  have HZ := Lib.hid hs
  obtain ⟨A0, hA0⟩ : ∃ A0, A0 = ((w.alloc (.cells #[.string s, .int .i64 (y : Int)] 88)).alloc (.cells #[.int .i64 0, .int .i64 0, .int .i64 0] 70)).alloc (.cells #[.int .i64 0, .int .i64 0, .int .i64 0] 70) := ⟨_, rfl⟩
  have hz0 : A0.heap.size = w.heap.size + 1 + 1 + 1 := by rw [hA0]; simp
  have bR0 : BoxC A0 (w.heap.size + 1) 70 #[.int .i64 0, .int .i64 0, .int .i64 0] := by rw [hA0]; exact BoxC.alloc (BoxC.newAt (by simp)) _
  have bD0 : BoxC A0 (w.heap.size + 1 + 1) 70 #[.int .i64 0, .int .i64 0, .int .i64 0] := by rw [hA0]; exact BoxC.newAt (by simp)
  have bl0 : Below w.heap.size w A0 := by rw [hA0]; exact Bl.alloc (Bl.alloc (Bl.alloc (Below.refl _ w) _) _) _
  obtain ⟨W0, hW0⟩ : ∃ W0, W0 = A0.alloc (.cells #[.string s] 9) := ⟨_, rfl⟩
  have bN0 : BoxC W0 (w.heap.size + 1 + 1 + 1) 9 #[.string s] := by rw [hW0]; exact BoxC.newAt hz0.symm
  have bR := bR0.alloc (.cells #[.string s] 9)
  have bD := bD0.alloc (.cells #[.string s] 9)
  have bl := Bl.alloc bl0 (.cells #[.string s] 9)
  rw [← hW0] at bR bD bl
  have HP0 := Lib.hid (And.intro bN0 (And.intro bR (And.intro bD bl)))
  have K0 := Lib.hid (number_next s (w.heap.size + 1 + 1 + 1) W0 hs hS.self bN0)
  have HA := Lib.hid hA0
  have HW := Lib.hid hW0
  clear hq hs hS bR0 bD0 bl0 bN0 bR bD bl hz0
  go_enter Tryz.func134, Tryz.ntmps134
  clear hA0 hW0
  go_wp2_with (go_at_call 138; refine Calls.mono (numbersIn_any _ _) ?_; rintro e w9 ⟨rfl, rfl⟩)
  rw [← HA.out, ← HW.out]
  have q0' := (BoxC.below HQ.out HP0.out.2.2.2 hlt)
  have p0_0 : W0.cell? ⟨q, 0, none⟩ = some (.int .i64 1) := q0'.cell (i := 0) rfl
  have p0_1 : W0.cell? ⟨q, 1, none⟩ = some (.int .i64 2) := q0'.cell (i := 1) rfl
  have p0_2 : W0.cell? ⟨q, 2, none⟩ = some (.int .i64 0) := q0'.cell (i := 2) rfl
  clear q0' q0 q1 q2
  refine wp_loop_rounds 4 ?_
  rw [rounds_succ]
  go_wp2_with (go_at_call 155; refine Calls.mono K0.out ?_; rintro e V1 ⟨r1, rfl, hr1, hN1, hg1⟩; have HN1 := Lib.hid (And.intro hN1 hg1); have bD1 := BoxC.kept HP0.out.2.2.1 hg1 (by simp); have x1_c := bD1.cell (i := 1) rfl; have x1_f := bD1.frozen 1; have HD1 := Lib.hid bD1; have Q1 := BoxC.kept (BoxC.below HQ.out HP0.out.2.2.2 hlt) hg1 (by simp; omega); have p1_0 : V1.cell? ⟨q, 0, none⟩ = some (.int .i64 1) := Q1.cell (i := 0) rfl; have p1_1 : V1.cell? ⟨q, 1, none⟩ = some (.int .i64 2) := Q1.cell (i := 1) rfl; have p1_2 : V1.cell? ⟨q, 2, none⟩ = some (.int .i64 0) := Q1.cell (i := 2) rfl; clear hN1 hg1 bD1 Q1)
  obtain ⟨W1, hW1⟩ : ∃ W1, W1 = V1.setCell ⟨w.heap.size + 1 + 1, 1, none⟩ (.int .i64 (numV (bts s))) := ⟨_, rfl⟩
  rw [← hW1]
  have HP1 := Lib.hid (show BoxC W1 (w.heap.size + 1 + 1 + 1) 9 #[.string r1] ∧ BoxC W1 (w.heap.size + 1) 70 #[.int .i64 0, .int .i64 0, .int .i64 0] ∧ BoxC W1 (w.heap.size + 1 + 1) 70 #[.int .i64 0, .int .i64 (numV (bts s)), .int .i64 0] ∧ Below w.heap.size w W1 by
    rw [hW1]
    have hb := (HP0.out.2.2.2).grown HN1.out.2 HP0.out.2.2.2.size (fun k hk => by simp at hk; omega)
    exact ⟨HN1.out.1.other (by omega) _ _, (BoxC.kept HP0.out.2.1 HN1.out.2 (by simp)).other (by omega) _ _, HD1.out.set 1 _, hb.setCell (p := ⟨w.heap.size + 1 + 1, 1, none⟩) (by simp; omega) _⟩)
  have S1 := BoxC.below HQ.out HP1.out.2.2.2 hlt
  have t1_0 : W1.cell? ⟨q, 0, none⟩ = some (.int .i64 1) := S1.cell (i := 0) rfl
  have t1_1 : W1.cell? ⟨q, 1, none⟩ = some (.int .i64 2) := S1.cell (i := 1) rfl
  have t1_2 : W1.cell? ⟨q, 2, none⟩ = some (.int .i64 0) := S1.cell (i := 2) rfl
  have hsz1 : r1.size ≤ 1000000 := by have h := HZ.out; have h1 := numR_len (bts s); rw [← hr1.out, bts_length, bts_length] at h1; omega
  have HSZ1 := Lib.hid hsz1
  have SF1 := Lib.hid (SufOk.next HS.out hr1.out)
  have K1 := Lib.hid (number_next r1 (w.heap.size + 1 + 1 + 1) W1 hsz1 SF1.out.self HP1.out.1)
  clear hsz1
  clear hW1 S1 x1_c x1_f
  rw [rounds_succ]
  go_wp2_with (go_at_call 155; refine Calls.mono K1.out ?_; rintro e V2 ⟨r2, rfl, hr2, hN2, hg2⟩; have HN2 := Lib.hid (And.intro hN2 hg2); have bD2 := BoxC.kept HP1.out.2.2.1 hg2 (by simp); have x2_c := bD2.cell (i := 2) rfl; have x2_f := bD2.frozen 2; have HD2 := Lib.hid bD2; have Q2 := BoxC.kept (BoxC.below HQ.out HP1.out.2.2.2 hlt) hg2 (by simp; omega); have p2_0 : V2.cell? ⟨q, 0, none⟩ = some (.int .i64 1) := Q2.cell (i := 0) rfl; have p2_1 : V2.cell? ⟨q, 1, none⟩ = some (.int .i64 2) := Q2.cell (i := 1) rfl; have p2_2 : V2.cell? ⟨q, 2, none⟩ = some (.int .i64 0) := Q2.cell (i := 2) rfl; clear hN2 hg2 bD2 Q2)
  obtain ⟨W2, hW2⟩ : ∃ W2, W2 = V2.setCell ⟨w.heap.size + 1 + 1, 2, none⟩ (.int .i64 (numV (bts r1))) := ⟨_, rfl⟩
  rw [← hW2]
  have HP2 := Lib.hid (show BoxC W2 (w.heap.size + 1 + 1 + 1) 9 #[.string r2] ∧ BoxC W2 (w.heap.size + 1) 70 #[.int .i64 0, .int .i64 0, .int .i64 0] ∧ BoxC W2 (w.heap.size + 1 + 1) 70 #[.int .i64 0, .int .i64 (numV (bts s)), .int .i64 (numV (bts r1))] ∧ Below w.heap.size w W2 by
    rw [hW2]
    have hb := (HP1.out.2.2.2).grown HN2.out.2 HP1.out.2.2.2.size (fun k hk => by simp at hk; omega)
    exact ⟨HN2.out.1.other (by omega) _ _, (BoxC.kept HP1.out.2.1 HN2.out.2 (by simp)).other (by omega) _ _, HD2.out.set 2 _, hb.setCell (p := ⟨w.heap.size + 1 + 1, 2, none⟩) (by simp; omega) _⟩)
  have S2 := BoxC.below HQ.out HP2.out.2.2.2 hlt
  have t2_0 : W2.cell? ⟨q, 0, none⟩ = some (.int .i64 1) := S2.cell (i := 0) rfl
  have t2_1 : W2.cell? ⟨q, 1, none⟩ = some (.int .i64 2) := S2.cell (i := 1) rfl
  have t2_2 : W2.cell? ⟨q, 2, none⟩ = some (.int .i64 0) := S2.cell (i := 2) rfl
  have hsz2 : r2.size ≤ 1000000 := by have h := HZ.out; have h1 := numR_len (bts r1); rw [← hr2.out, bts_length, bts_length] at h1; have h2 := HSZ1.out; omega
  have HSZ2 := Lib.hid hsz2
  have SF2 := Lib.hid (SufOk.next SF1.out hr2.out)
  have K2 := Lib.hid (number_next r2 (w.heap.size + 1 + 1 + 1) W2 hsz2 SF2.out.self HP2.out.1)
  clear hsz2
  clear hW2 S2 x2_c x2_f
  rw [rounds_succ]
  go_wp2_with (go_at_call 155; refine Calls.mono K2.out ?_; rintro e V3 ⟨r3, rfl, hr3, hN3, hg3⟩; have HN3 := Lib.hid (And.intro hN3 hg3); have bD3 := BoxC.kept HP2.out.2.2.1 hg3 (by simp); have x3_c := bD3.cell (i := 0) rfl; have x3_f := bD3.frozen 0; have HD3 := Lib.hid bD3; have Q3 := BoxC.kept (BoxC.below HQ.out HP2.out.2.2.2 hlt) hg3 (by simp; omega); have p3_0 : V3.cell? ⟨q, 0, none⟩ = some (.int .i64 1) := Q3.cell (i := 0) rfl; have p3_1 : V3.cell? ⟨q, 1, none⟩ = some (.int .i64 2) := Q3.cell (i := 1) rfl; have p3_2 : V3.cell? ⟨q, 2, none⟩ = some (.int .i64 0) := Q3.cell (i := 2) rfl; clear hN3 hg3 bD3 Q3)
  obtain ⟨W3, hW3⟩ : ∃ W3, W3 = V3.setCell ⟨w.heap.size + 1 + 1, 0, none⟩ (.int .i64 (numV (bts r2))) := ⟨_, rfl⟩
  rw [← hW3]
  have HP3 := Lib.hid (show BoxC W3 (w.heap.size + 1 + 1 + 1) 9 #[.string r3] ∧ BoxC W3 (w.heap.size + 1) 70 #[.int .i64 0, .int .i64 0, .int .i64 0] ∧ BoxC W3 (w.heap.size + 1 + 1) 70 #[.int .i64 (numV (bts r2)), .int .i64 (numV (bts s)), .int .i64 (numV (bts r1))] ∧ Below w.heap.size w W3 by
    rw [hW3]
    have hb := (HP2.out.2.2.2).grown HN3.out.2 HP2.out.2.2.2.size (fun k hk => by simp at hk; omega)
    exact ⟨HN3.out.1.other (by omega) _ _, (BoxC.kept HP2.out.2.1 HN3.out.2 (by simp)).other (by omega) _ _, HD3.out.set 0 _, hb.setCell (p := ⟨w.heap.size + 1 + 1, 0, none⟩) (by simp; omega) _⟩)
  have S3 := BoxC.below HQ.out HP3.out.2.2.2 hlt
  have t3_0 : W3.cell? ⟨q, 0, none⟩ = some (.int .i64 1) := S3.cell (i := 0) rfl
  have t3_1 : W3.cell? ⟨q, 1, none⟩ = some (.int .i64 2) := S3.cell (i := 1) rfl
  have t3_2 : W3.cell? ⟨q, 2, none⟩ = some (.int .i64 0) := S3.cell (i := 2) rfl
  clear hW3 S3 x3_c x3_f
  have y0 := HP3.out.2.2.1.cell (i := 0) rfl
  have y1 := HP3.out.2.2.1.cell (i := 1) rfl
  have y2 := HP3.out.2.2.1.cell (i := 2) rfl
  have u0 := HP3.out.2.1.cell (i := 0) rfl
  have u1 := HP3.out.2.1.cell (i := 1) rfl
  have u2 := HP3.out.2.1.cell (i := 2) rfl
  have v0 := HP3.out.2.1.frozen 0
  have v1 := HP3.out.2.1.frozen 1
  have v2 := HP3.out.2.1.frozen 2
  rw [rounds_succ]
  go_wp2
  have bz := ((HP3.out.2.1.set 0 (.int .i64 (numV (bts r2)))).set 1 (.int .i64 (numV (bts s)))).set 2 (.int .i64 (numV (bts r1)))
  have z0 := bz.cell (i := 0) rfl
  have z1 := bz.cell (i := 1) rfl
  have z2 := bz.cell (i := 2) rfl
  refine bodyPost_ret (v := .agg #[.int .i64 (numV (bts r2)), .int .i64 (numV (bts s)), .int .i64 (numV (bts r1))]) (by simp [results, Tryz.results134, go_sem, z0, z1, z2]) rfl ?_
  refine ⟨by simp only [hr1.out, hr2.out, num1, num2, num3], ((HP3.out.2.2.2.setCell (p := ⟨w.heap.size + 1, 0, none⟩) (by simp) _).setCell (p := ⟨w.heap.size + 1, 1, none⟩) (by simp) _).setCell (p := ⟨w.heap.size + 1, 2, none⟩) (by simp) _⟩
set_option maxHeartbeats 4000000 in
theorem inOrderN_any (q : Nat) (s : ByteArray) (y : Nat) (w : World) (hs : s.size ≤ 1000000) (hS : SufOk s) (hq : BoxC w q 3 #[.int .i64 2, .int .i64 0]) :
    Calls Tryz.prog 134 #[.agg #[.string s, .int .i64 (y : Int)], .slice (some ⟨q, 0, none⟩) 2 2] w fun e w' => e = .returned (.agg #[.int .i64 (num2 (bts s)), .int .i64 (0 : Int), .int .i64 (num1 (bts s))]) ∧ Below w.heap.size w w' := by
  have hlt := hq.lt
  have q0 : w.cell? ⟨q, 0, none⟩ = some (.int .i64 2) := hq.cell (i := 0) rfl
  have q1 : w.cell? ⟨q, 1, none⟩ = some (.int .i64 0) := hq.cell (i := 1) rfl
  have HQ := Lib.hid hq
  have HS := Lib.hid hS
  have HZ := Lib.hid hs
  obtain ⟨A0, hA0⟩ : ∃ A0, A0 = ((w.alloc (.cells #[.string s, .int .i64 (y : Int)] 88)).alloc (.cells #[.int .i64 0, .int .i64 0, .int .i64 0] 70)).alloc (.cells #[.int .i64 0, .int .i64 0, .int .i64 0] 70) := ⟨_, rfl⟩
  have hz0 : A0.heap.size = w.heap.size + 1 + 1 + 1 := by rw [hA0]; simp
  have bR0 : BoxC A0 (w.heap.size + 1) 70 #[.int .i64 0, .int .i64 0, .int .i64 0] := by rw [hA0]; exact BoxC.alloc (BoxC.newAt (by simp)) _
  have bD0 : BoxC A0 (w.heap.size + 1 + 1) 70 #[.int .i64 0, .int .i64 0, .int .i64 0] := by rw [hA0]; exact BoxC.newAt (by simp)
  have bl0 : Below w.heap.size w A0 := by rw [hA0]; exact Bl.alloc (Bl.alloc (Bl.alloc (Below.refl _ w) _) _) _
  obtain ⟨W0, hW0⟩ : ∃ W0, W0 = A0.alloc (.cells #[.string s] 9) := ⟨_, rfl⟩
  have bN0 : BoxC W0 (w.heap.size + 1 + 1 + 1) 9 #[.string s] := by rw [hW0]; exact BoxC.newAt hz0.symm
  have bR := bR0.alloc (.cells #[.string s] 9)
  have bD := bD0.alloc (.cells #[.string s] 9)
  have bl := Bl.alloc bl0 (.cells #[.string s] 9)
  rw [← hW0] at bR bD bl
  have HP0 := Lib.hid (And.intro bN0 (And.intro bR (And.intro bD bl)))
  have K0 := Lib.hid (number_next s (w.heap.size + 1 + 1 + 1) W0 hs hS.self bN0)
  have HA := Lib.hid hA0
  have HW := Lib.hid hW0
  clear hq hs hS bR0 bD0 bl0 bN0 bR bD bl hz0
  go_enter Tryz.func134, Tryz.ntmps134
  clear hA0 hW0
  go_wp2_with (go_at_call 138; refine Calls.mono (numbersIn_any _ _) ?_; rintro e w9 ⟨rfl, rfl⟩)
  rw [← HA.out, ← HW.out]
  have q0' := (BoxC.below HQ.out HP0.out.2.2.2 hlt)
  have p0_0 : W0.cell? ⟨q, 0, none⟩ = some (.int .i64 2) := q0'.cell (i := 0) rfl
  have p0_1 : W0.cell? ⟨q, 1, none⟩ = some (.int .i64 0) := q0'.cell (i := 1) rfl
  clear q0' q0 q1
  refine wp_loop_rounds 3 ?_
  rw [rounds_succ]
  go_wp2_with (go_at_call 155; refine Calls.mono K0.out ?_; rintro e V1 ⟨r1, rfl, hr1, hN1, hg1⟩; have HN1 := Lib.hid (And.intro hN1 hg1); have bD1 := BoxC.kept HP0.out.2.2.1 hg1 (by simp); have x1_c := bD1.cell (i := 2) rfl; have x1_f := bD1.frozen 2; have HD1 := Lib.hid bD1; have Q1 := BoxC.kept (BoxC.below HQ.out HP0.out.2.2.2 hlt) hg1 (by simp; omega); have p1_0 : V1.cell? ⟨q, 0, none⟩ = some (.int .i64 2) := Q1.cell (i := 0) rfl; have p1_1 : V1.cell? ⟨q, 1, none⟩ = some (.int .i64 0) := Q1.cell (i := 1) rfl; clear hN1 hg1 bD1 Q1)
  obtain ⟨W1, hW1⟩ : ∃ W1, W1 = V1.setCell ⟨w.heap.size + 1 + 1, 2, none⟩ (.int .i64 (numV (bts s))) := ⟨_, rfl⟩
  rw [← hW1]
  have HP1 := Lib.hid (show BoxC W1 (w.heap.size + 1 + 1 + 1) 9 #[.string r1] ∧ BoxC W1 (w.heap.size + 1) 70 #[.int .i64 0, .int .i64 0, .int .i64 0] ∧ BoxC W1 (w.heap.size + 1 + 1) 70 #[.int .i64 0, .int .i64 0, .int .i64 (numV (bts s))] ∧ Below w.heap.size w W1 by
    rw [hW1]
    have hb := (HP0.out.2.2.2).grown HN1.out.2 HP0.out.2.2.2.size (fun k hk => by simp at hk; omega)
    exact ⟨HN1.out.1.other (by omega) _ _, (BoxC.kept HP0.out.2.1 HN1.out.2 (by simp)).other (by omega) _ _, HD1.out.set 2 _, hb.setCell (p := ⟨w.heap.size + 1 + 1, 2, none⟩) (by simp; omega) _⟩)
  have S1 := BoxC.below HQ.out HP1.out.2.2.2 hlt
  have t1_0 : W1.cell? ⟨q, 0, none⟩ = some (.int .i64 2) := S1.cell (i := 0) rfl
  have t1_1 : W1.cell? ⟨q, 1, none⟩ = some (.int .i64 0) := S1.cell (i := 1) rfl
  have hsz1 : r1.size ≤ 1000000 := by have h := HZ.out; have h1 := numR_len (bts s); rw [← hr1.out, bts_length, bts_length] at h1; omega
  have HSZ1 := Lib.hid hsz1
  have SF1 := Lib.hid (SufOk.next HS.out hr1.out)
  have K1 := Lib.hid (number_next r1 (w.heap.size + 1 + 1 + 1) W1 hsz1 SF1.out.self HP1.out.1)
  clear hsz1
  clear hW1 S1 x1_c x1_f
  rw [rounds_succ]
  go_wp2_with (go_at_call 155; refine Calls.mono K1.out ?_; rintro e V2 ⟨r2, rfl, hr2, hN2, hg2⟩; have HN2 := Lib.hid (And.intro hN2 hg2); have bD2 := BoxC.kept HP1.out.2.2.1 hg2 (by simp); have x2_c := bD2.cell (i := 0) rfl; have x2_f := bD2.frozen 0; have HD2 := Lib.hid bD2; have Q2 := BoxC.kept (BoxC.below HQ.out HP1.out.2.2.2 hlt) hg2 (by simp; omega); have p2_0 : V2.cell? ⟨q, 0, none⟩ = some (.int .i64 2) := Q2.cell (i := 0) rfl; have p2_1 : V2.cell? ⟨q, 1, none⟩ = some (.int .i64 0) := Q2.cell (i := 1) rfl; clear hN2 hg2 bD2 Q2)
  obtain ⟨W2, hW2⟩ : ∃ W2, W2 = V2.setCell ⟨w.heap.size + 1 + 1, 0, none⟩ (.int .i64 (numV (bts r1))) := ⟨_, rfl⟩
  rw [← hW2]
  have HP2 := Lib.hid (show BoxC W2 (w.heap.size + 1 + 1 + 1) 9 #[.string r2] ∧ BoxC W2 (w.heap.size + 1) 70 #[.int .i64 0, .int .i64 0, .int .i64 0] ∧ BoxC W2 (w.heap.size + 1 + 1) 70 #[.int .i64 (numV (bts r1)), .int .i64 0, .int .i64 (numV (bts s))] ∧ Below w.heap.size w W2 by
    rw [hW2]
    have hb := (HP1.out.2.2.2).grown HN2.out.2 HP1.out.2.2.2.size (fun k hk => by simp at hk; omega)
    exact ⟨HN2.out.1.other (by omega) _ _, (BoxC.kept HP1.out.2.1 HN2.out.2 (by simp)).other (by omega) _ _, HD2.out.set 0 _, hb.setCell (p := ⟨w.heap.size + 1 + 1, 0, none⟩) (by simp; omega) _⟩)
  have S2 := BoxC.below HQ.out HP2.out.2.2.2 hlt
  have t2_0 : W2.cell? ⟨q, 0, none⟩ = some (.int .i64 2) := S2.cell (i := 0) rfl
  have t2_1 : W2.cell? ⟨q, 1, none⟩ = some (.int .i64 0) := S2.cell (i := 1) rfl
  clear hW2 S2 x2_c x2_f
  have y0 := HP2.out.2.2.1.cell (i := 0) rfl
  have y1 := HP2.out.2.2.1.cell (i := 1) rfl
  have y2 := HP2.out.2.2.1.cell (i := 2) rfl
  have u0 := HP2.out.2.1.cell (i := 0) rfl
  have u1 := HP2.out.2.1.cell (i := 1) rfl
  have u2 := HP2.out.2.1.cell (i := 2) rfl
  have v0 := HP2.out.2.1.frozen 0
  have v1 := HP2.out.2.1.frozen 1
  have v2 := HP2.out.2.1.frozen 2
  rw [rounds_succ]
  go_wp2
  have bz := ((HP2.out.2.1.set 0 (.int .i64 (numV (bts r1)))).set 1 (.int .i64 0)).set 2 (.int .i64 (numV (bts s)))
  have z0 := bz.cell (i := 0) rfl
  have z1 := bz.cell (i := 1) rfl
  have z2 := bz.cell (i := 2) rfl
  refine bodyPost_ret (v := .agg #[.int .i64 (numV (bts r1)), .int .i64 0, .int .i64 (numV (bts s))]) (by simp [results, Tryz.results134, go_sem, z0, z1, z2]) rfl ?_
  refine ⟨by simp only [hr1.out, num1, num2], ((HP2.out.2.2.2.setCell (p := ⟨w.heap.size + 1, 0, none⟩) (by simp) _).setCell (p := ⟨w.heap.size + 1, 1, none⟩) (by simp) _).setCell (p := ⟨w.heap.size + 1, 2, none⟩) (by simp) _⟩
end Go.Proofs.YtmjifmlibgpjiaaGreatDoor
