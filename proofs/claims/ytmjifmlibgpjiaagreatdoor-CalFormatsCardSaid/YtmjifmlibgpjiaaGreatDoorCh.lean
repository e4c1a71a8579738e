/- Weeks. -/
import Derived.Test.YtmjifmlibgpjiaaGreatDoorCg
namespace Go.Proofs.YtmjifmlibgpjiaaGreatDoor
open Go.RowKit Tx
set_option linter.unusedVariables false
set_option maxRecDepth 100000

theorem field_date (a b c : Int) (w : World) : (Instr.field 70 (.agg #[.int .i64 a, .int .i64 b, .int .i64 c]) 0).run Tryz.prog w = .ok (.agg #[.int .i64 a, .int .i64 b, .int .i64 c]) w := by
  first | rfl | kernel_rfl
theorem index_date (a b c : Int) (w : World) : (Instr.index 68 (.agg #[.int .i64 a, .int .i64 b, .int .i64 c]) (.int .i64 0)).run Tryz.prog w = .ok (.int .i64 a) w := by
  first | rfl | kernel_rfl
theorem thu_le {n : Nat} (hn : n ≤ 3652058) : thu n ≤ 3652058 := by unfold thu; omega
set_option maxHeartbeats 1600000 in
theorem weekOf_any (n y wk x : Nat) (w : World) (h : IsWeek n y wk x) (hn : n ≤ 3652058) :
    Calls Tryz.prog 56 #[.int .i64 (n : Int)] w fun e w' => e = .returned (.agg #[.int .i64 (y : Int), .int .i64 (wk : Int), .int .i64 (x : Int)]) ∧ Below w.heap.size w w' := by
  have ht := thu_le hn
  have hy9 := h.yr.le ht
  obtain ⟨y', m', k', hd⟩ := isDate_ex (thu n)
  obtain rfl : y' = y := hd.isYear.uniq h.yr
  obtain ⟨p, rfl⟩ : ∃ p, y' = p + 1 := ⟨y' - 1, by have := hd.y1; omega⟩
  have KW := fun W => Lib.hid (weekdayOf_any n W)
  have KD := fun W => Lib.hid (dateOf_any (thu n) (p + 1) m' k' W hd hy9)
  have KF := fun W => Lib.hid (firstDay_any p W (by omega))
  rw [show ((p + 1 : Nat) : Int) = (p : Int) + 1 by omega] at KD ⊢
  have hlo := h.yr.lo
  rw [show p + 1 - 1 = p by omega] at hlo
  have hwk := h.wk
  rw [show p + 1 - 1 = p by omega] at hwk
  have hx := h.wd
  obtain ⟨r, hr⟩ : ∃ r, r = n % 7 := ⟨_, rfl⟩
  have hr7 : r < 7 := by omega
  rw [← hr] at KW hx
  obtain ⟨t, htt⟩ : ∃ t, t = thu n := ⟨_, rfl⟩
  have ht2 : t = n - r + 3 ∧ r ≤ n := by rw [htt, hr]; unfold thu; omega
  rw [← htt] at KD hlo hwk ht
  obtain ⟨q, hq⟩ : ∃ q, q = (t - bef p) / 7 := ⟨_, rfl⟩
  rw [← hq] at hwk
  obtain ⟨f, hf⟩ : ∃ f, f = bef p := ⟨_, rfl⟩
  rw [← hf] at KF hlo hq
  have w1 : IntKind.i64.wrap ((n : Int) - (r : Int)) = (n : Int) - (r : Int) := IntWalk.i64_in _ (by omega)
  have w2 : IntKind.i64.wrap ((n : Int) - (r : Int) + 3) = (t : Int) := by rw [show (n : Int) - (r : Int) + 3 = (t : Int) by omega]; exact IntWalk.i64_in _ (by omega)
  have w3 : IntKind.i64.wrap ((t : Int) - (f : Int)) = (t : Int) - (f : Int) := IntWalk.i64_in _ (by omega)
  have w4 : ((t : Int) - (f : Int)) / 7 = (q : Int) := by omega
  have w4' : ((t : Int) - (f : Int)).tdiv 7 = (q : Int) := by rw [Int.tdiv_eq_ediv_of_nonneg (by omega)]; omega
  have w5 : IntKind.i64.wrap (1 + (q : Int)) = (wk : Int) := by rw [show 1 + (q : Int) = (wk : Int) by omega]; exact IntWalk.i64_in _ (by omega)
  have w6 : IntKind.i64.wrap (1 + (r : Int)) = (x : Int) := by rw [show 1 + (r : Int) = (x : Int) by omega]; exact IntWalk.i64_in _ (by omega)
  have w8 : wrap64 (1 + wrap64 (q : Int)) = (wk : Int) := by rw [w64 (x := (q : Int)) (by omega) (by omega), w64 (by omega) (by omega)]; omega
  have w7 : 0 ≤ (t : Int) - (f : Int) := by omega
  have hfd := field_date
  have hid := index_date
  clear h ht hy9 hd hlo hwk hx hr hr7 htt ht2 hq hf hn
  go_enter Tryz.func56, Tryz.ntmps56
  go_wp2_with (first
    | (go_at_call 53; refine Calls.mono (KW _).out ?_; rintro e w1 ⟨rfl, rfl⟩)
    | (go_at_call 52; refine Calls.mono (KD _).out ?_; rintro e W2 ⟨rfl, hb2⟩; have bR := (BoxC.new w 76 #[.int .i64 0, .int .i64 0, .int .i64 0]).below hb2 (by simp); have B2 : Below w.heap.size w W2 := Bl.step (Bl.alloc (Below.refl _ w) _) hb2; have r0 := bR.cell (i := 0) rfl; have r1 := bR.cell (i := 1) rfl; have r2 := bR.cell (i := 2) rfl; have f0 := bR.frozen 0; have f1 := bR.frozen 1; have f2 := bR.frozen 2; have HBR := Lib.hid bR; clear bR hb2)
    | (go_at_call 85; refine Calls.mono (KF _).out ?_; rintro e w3 ⟨rfl, rfl⟩))
  have br3 := ((HBR.out.set 0 (.int .i64 ((p : Int) + 1))).set 1 (.int .i64 (wk : Int))).set 2 (.int .i64 (x : Int))
  have z0 := br3.cell (i := 0) rfl
  have z1 := br3.cell (i := 1) rfl
  have z2 := br3.cell (i := 2) rfl
  refine bodyPost_ret (v := .agg #[.int .i64 ((p : Int) + 1), .int .i64 (wk : Int), .int .i64 (x : Int)]) (by simp [results, Tryz.results56, go_sem, z0, z1, z2]) rfl ?_
  exact ⟨rfl, ((B2.setCell (p := ⟨w.heap.size, 0, none⟩) (by simp) _).setCell (p := ⟨w.heap.size, 1, none⟩) (by simp) _).setCell (p := ⟨w.heap.size, 2, none⟩) (by simp) _⟩
set_option maxHeartbeats 1600000 in
theorem Week_ok (n y wk x : Nat) (w : World) (h : IsWeek n y wk x) (hn : n ≤ 3652058) : Calls Tryz.prog 24 #[.int .i64 (n : Int)] w (Gives w #[.int .i64 (y : Int), .int .i64 (wk : Int), .int .i64 (x : Int), .int .i64 0]) := by
  have KI := fun W => Lib.hid (weekOf_any n y wk x W h hn)
  have KD := fun W => Lib.hid (isDay_any (n : Int) W)
  rw [inR_true (by omega) (by omega)] at KD
  clear h hn
  go_enter Tryz.func24, Tryz.ntmps24
  go_wp2_with (first
    | (go_at_call 51; refine Calls.mono (KD _).out ?_; rintro e W1 ⟨rfl, rfl⟩)
    | (go_at_call 56; refine Calls.mono (KI _).out ?_; rintro e W2 ⟨rfl, hb2⟩))
  go_quiet (fail)
  go_wp2
  refine bodyPost_ret (v := .tuple #[.int .i64 (y : Int), .int .i64 (wk : Int), .int .i64 (x : Int), .int .i64 0]) (by simp [results, Tryz.results24, go_sem]) rfl ?_
  exact ⟨rfl, below_drewN' (Bl.alloc hb2 _) _⟩
set_option maxHeartbeats 800000 in
theorem Week_bad (n : Int) (w : World) (h : ¬ (0 ≤ n ∧ n ≤ 3652058)) : Calls Tryz.prog 24 #[.int .i64 n] w (Gives w #[.int .i64 0, .int .i64 0, .int .i64 0, .int .i64 1]) := by
  have KD := fun W => Lib.hid (isDay_any n W)
  rw [inR_false h] at KD
  clear h
  go_enter Tryz.func24, Tryz.ntmps24
  go_wp2_with (first
    | (go_at_call 51; refine Calls.mono (KD _).out ?_; rintro e W1 ⟨rfl, rfl⟩))
  refine bodyPost_ret (v := .tuple #[.int .i64 0, .int .i64 0, .int .i64 0, .int .i64 1]) (by simp [results, Tryz.results24, go_sem]) rfl ?_
  exact ⟨rfl, Below.refl _ _⟩
theorem neq_week (a b c x y z : Int) (w : World) : (binOp .neq 76 (.agg #[.int .i64 a, .int .i64 b, .int .i64 c]) (.agg #[.int .i64 x, .int .i64 y, .int .i64 z])).run Tryz.prog w = .ok (.bool (!(a == x && (b == y && c == z)))) w := by
  have hm : ∀ w, (binOp .neq 76 (.agg #[.int .i64 a, .int .i64 b, .int .i64 c]) (.agg #[.int .i64 x, .int .i64 y, .int .i64 z])).run Tryz.prog w = ((Op.equalIn 10000 76 (.agg #[.int .i64 a, .int .i64 b, .int .i64 c]) (.agg #[.int .i64 x, .int .i64 y, .int .i64 z])).run Tryz.prog w).andThen fun b w' => .ok (.bool (!b)) w' := fun w => run_neq_struct w _ _ _
  rw [hm, show 10000 = 9999 + 1 from rfl, run_equalIn_struct w 9999 _ _ _ (by kernel_rfl) (by kernel_rfl)]
  have hf : (Tryz.prog.fieldsOf 76).toList.map (fun f => (f.type, f.offset)) = [(3, 0), (3, 1), (3, 2)] ∧ (Tryz.prog.fieldsOf 76).toList.all (fun f => decide (f.name ≠ "_")) = true := ⟨by kernel_rfl, by decide +kernel⟩
  obtain ⟨l, hl⟩ : ∃ l, l = (Tryz.prog.fieldsOf 76).toList := ⟨_, rfl⟩
  rw [← hl] at hf ⊢
  clear hl
  have hl3 : l.length = 3 := by have := congrArg List.length hf.1; simpa using this
  obtain ⟨f0, l, rfl⟩ := List.exists_cons_of_length_eq_add_one hl3
  obtain ⟨f1, l, rfl⟩ := List.exists_cons_of_length_eq_add_one (show l.length = 1 + 1 by simpa using hl3)
  obtain ⟨f2, l, rfl⟩ := List.exists_cons_of_length_eq_add_one (show l.length = 0 + 1 by simpa using hl3)
  obtain rfl : l = [] := List.eq_nil_of_length_eq_zero (by simpa using hl3)
  · obtain ⟨h1, h2⟩ := hf
    simp at h1 h2
    obtain ⟨⟨a1, a2⟩, ⟨b1, b2⟩, c1, c2⟩ := h1
    obtain ⟨n0, n1, n2⟩ := h2
    obtain ⟨i, hi⟩ : ∃ i, Tryz.prog.info? 3 = some i := Option.isSome_iff_exists.1 (by kernel_rfl)
    have e := fun (u v : Int) => run_equalIn_int (P := Tryz.prog) w 9998 3 .i64 .i64 u v Tryz.underlying3
    have hp : ∀ (l : Array Value) (j : Nat) (v : Value), l[j]? = some v → (part 3 l j).run Tryz.prog w = .ok v w := by
      intro l j v h
      simp [part, go_sem, h]
    have p0 : (part 3 #[.int .i64 a, .int .i64 b, .int .i64 c] 0).run Tryz.prog w = .ok (.int .i64 a) w := hp _ 0 _ rfl
    have p1 : (part 3 #[.int .i64 a, .int .i64 b, .int .i64 c] 1).run Tryz.prog w = .ok (.int .i64 b) w := hp _ 1 _ rfl
    have p2 : (part 3 #[.int .i64 a, .int .i64 b, .int .i64 c] 2).run Tryz.prog w = .ok (.int .i64 c) w := hp _ 2 _ rfl
    have q0 : (part 3 #[.int .i64 x, .int .i64 y, .int .i64 z] 0).run Tryz.prog w = .ok (.int .i64 x) w := hp _ 0 _ rfl
    have q1 : (part 3 #[.int .i64 x, .int .i64 y, .int .i64 z] 1).run Tryz.prog w = .ok (.int .i64 y) w := hp _ 1 _ rfl
    have q2 : (part 3 #[.int .i64 x, .int .i64 y, .int .i64 z] 2).run Tryz.prog w = .ok (.int .i64 z) w := hp _ 2 _ rfl
    simp only [Op.eqFields, ne_eq, n0, n1, n2, not_false_eq_true, if_true, a1, a2, b1, b2, c1, c2, Sem.run_bind, p0, q0, Result.andThen_ok, e]
    cases h1 : (a == x)
    · simp
    · simp only [Bool.not_true, Bool.false_eq_true, if_false, Sem.run_bind, p1, q1, Result.andThen_ok, e, Bool.true_and]
      cases h2 : (b == y)
      · simp
      · simp only [Bool.not_true, Bool.false_eq_true, if_false, Sem.run_bind, p2, q2, Result.andThen_ok, e, Bool.true_and]
        cases h3 : (c == z) <;> simp
end Go.Proofs.YtmjifmlibgpjiaaGreatDoor
