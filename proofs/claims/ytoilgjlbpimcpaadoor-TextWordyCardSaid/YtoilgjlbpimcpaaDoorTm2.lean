/- The words of a string, as an iterator. -/
import Derived.Test.YtoilgjlbpimcpaaDoorTl
namespace Go.Proofs.YtoilgjlbpimcpaaDoor
open Go.RowKit Go.Shelf Tx
set_option linter.unusedVariables false
set_option maxRecDepth 100000
attribute [local go_sem] Oper.semAt_some

namespace Tx
/-- The words ahead of a place, and where the next one may begin. -/
def wst (l : List UInt8) : Nat → List (Nat × Nat) × Nat
  | 0 => ([], 0)
  | k + 1 => if k < l.length ∧ l[k]? ≠ some 32 then wst l k else ((if (wst l k).2 < k then (wst l k).1 ++ [((wst l k).2, k)] else (wst l k).1), k + 1)
/-- Where the words of a string begin and end. -/
def spans (l : List UInt8) : List (Nat × Nat) := (wst l (l.length + 1)).1
theorem wst_go {l : List UInt8} {k : Nat} (h : k < l.length) (h' : l[k]? ≠ some 32) : wst l (k + 1) = wst l k := by rw [wst, if_pos ⟨h, h'⟩]
theorem wst_end {l : List UInt8} {k : Nat} (h : ¬ (k < l.length ∧ l[k]? ≠ some 32)) (hf : (wst l k).2 < k) : wst l (k + 1) = ((wst l k).1 ++ [((wst l k).2, k)], k + 1) := by rw [wst, if_neg h, if_pos hf]
theorem wst_no {l : List UInt8} {k : Nat} (h : ¬ (k < l.length ∧ l[k]? ≠ some 32)) (hf : ¬ (wst l k).2 < k) : wst l (k + 1) = ((wst l k).1, k + 1) := by rw [wst, if_neg h, if_neg hf]
theorem wst_le (l : List UInt8) (k : Nat) : (wst l k).2 ≤ k := by
  induction k with
  | zero => exact Nat.le_refl _
  | succ k ih =>
    rw [wst]
    split
    · omega
    · exact Nat.le_refl _
theorem wst_prefix (l : List UInt8) (k m : Nat) (h : k ≤ m) : ∃ r, (wst l k).1 ++ r = (wst l m).1 := by
  induction m with
  | zero => exact ⟨[], by rw [show k = 0 by omega]; simp⟩
  | succ m ih =>
    by_cases e : k = m + 1
    · exact ⟨[], by rw [e]; simp⟩
    · obtain ⟨r, hr⟩ := ih (by omega)
      rw [wst]
      split
      · exact ⟨r, hr⟩
      · split
        · exact ⟨r ++ [((wst l m).2, m)], by rw [← List.append_assoc, hr]⟩
        · exact ⟨r, hr⟩
end Tx

/-- Where a word of a string of n bytes begins and ends. -/
abbrev Sp (n : Nat) := { x : Nat × Nat // x.1 < x.2 ∧ x.2 ≤ n }
def spv (x : Nat × Nat) : Value := .agg #[.int .i64 x.1, .int .i64 x.2]
/-- What an iterator over words comes to. -/
def SpanPost {n : Nat} (L : List (Nat × Nat)) (J Jx : List (Sp n) → World → Prop) (e : Ending) (W' : World) : Prop :=
  (∃ v, e = .returned v) ∧ ((∃ xs, xs.map (fun x => x.1) = L ∧ J xs W') ∨ (∃ pre, (∃ r, pre.map (fun x => x.1) ++ r = L) ∧ Jx pre W'))

set_option maxHeartbeats 4000000 in
theorem words_in (l bs n₀ : Nat) (s : ByteArray) (hs : s.size ≤ 1000000) (J Jx : List (Sp s.size) → World → Prop)
    (hround : ∀ pre x W, J pre W → pre.length < s.size + 1 → YieldAt Fence.wide 1 Tryd.prog l #[spv x.1] W fun e W' =>
      (e = .returned (.bool true) ∧ J (pre ++ [x]) W' ∧ Below n₀ W W') ∨ (e = .returned (.bool false) ∧ Jx (pre ++ [x]) W'))
    (W : World) (hbs : W.cell? ⟨bs, 0, none⟩ = some (.string s)) (hl1 : bs < n₀) (hn : n₀ ≤ W.heap.size) (hJ0 : J [] W) :
    CallsIn Fence.wide 2 Tryd.prog 179 #[.func (.yield l) #[] #[], .pointer (some ⟨bs, 0, none⟩)] W (SpanPost (spans (bts s)) J Jx) := by
  have HR := Lib.hid hround
  have HJ0 := Lib.hid hJ0
  clear hround hJ0
  refine callsIn_of_wp Tryd.func179 rfl trivial ?_ rfl
  simp only [Tryd.ntmps179, List.size_toArray, List.length_cons, List.length_nil, Nat.reduceAdd, Nat.reduceSub, Array.replicate_succ, Array.replicate_zero, List.push_toArray, List.append_toArray, List.nil_append, List.cons_append]
  gi_wp2
  gi_loopw [3, 8] (fun f v wr => ∃ (k m : Nat) (pre : List (Sp s.size)), v = .int .i64 k ∧ f = .int .i64 m ∧ k ≤ s.size + 1 ∧ m ≤ k ∧ Hid (wst (bts s) k = (pre.map (fun x => x.1), m)) ∧ pre.length ≤ k ∧ Hid (J pre wr) ∧ Below n₀ W wr) (fun _ v _ => s.size + 1 - (intOf v).toNat)
  case atStart => exact ⟨0, 0, [], rfl, rfl, Nat.zero_le _, Nat.le_refl _, Lib.hid rfl, Nat.le_refl _, HJ0, Below.refl _ _⟩
  case round =>
    obtain ⟨k, m, pre, rfl, rfl, hk, hm, hpre, hpl, hJ, hB⟩ := hrel
    have c2 := (hB.cell (p := ⟨bs, 0, none⟩) hl1).trans hbs
    by_cases hlt : k < s.size + 1
    · by_cases hks : k < s.size
      · have hg := bts_get s hks
        by_cases h32 : (s[k].toNat : Int) = 32
        · have hd2 : ((s[k].toNat : Int) != 32) = false := by rw [h32]; rfl
          have HE := Lib.hid (show ¬ (k < (bts s).length ∧ (bts s)[k]? ≠ some 32) by
            intro ⟨_, h⟩; apply h; rw [hg]; congr 1; exact UInt8.toNat_inj.1 (show s[k].toNat = 32 by omega))
          clear hg h32
          by_cases hmk : m < k
          · obtain ⟨y, hy1⟩ : ∃ y : Sp s.size, y.1 = (m, k) := ⟨⟨(m, k), hmk, by omega⟩, rfl⟩
            have hYY := HR.out pre y wr hJ.out (by omega)
            rw [hy1] at hYY
            unfold spv at hYY
            obtain ⟨fn, tmps, assign, body, hy, hR⟩ := hYY
            have hR2 := hR.mono (R' := fun e W' => ∃ bb, e = .returned (.bool bb) ∧ Hid ((bb = true ∧ J (pre ++ [y]) W' ∧ Below n₀ wr W') ∨ (bb = false ∧ Jx (pre ++ [y]) W'))) (fun e w' h => by
              rcases h with ⟨h1, h2, h3⟩ | ⟨h1, h2⟩
              · exact ⟨true, h1, .inl ⟨rfl, h2, h3⟩⟩
              · exact ⟨false, h1, .inr ⟨rfl, h2⟩⟩)
            have HRR := Lib.hid hR2
            have HP := Lib.hid (show wst (bts s) (k + 1) = ((pre ++ [y]).map (fun x : Sp s.size => x.1), k + 1) by
              rw [wst_end HE.out (by rw [hpre.out]; exact hmk), hpre.out, List.map_append]; simp [hy1])
            clear hR hR2 hy1
            dsimp only at hy
            gi_wp2
            refine RoundIn.mono HRR.out ?_
            rintro e W3 ⟨bb, rfl, hcase⟩
            cases bb
            · gi_wp2
              refine bodyPost_ret (results_none rfl _ _ _) rfl ?_
              rcases hcase.out with ⟨h, _⟩ | ⟨_, h⟩
              · cases h
              · refine ⟨⟨_, rfl⟩, .inr ⟨_, ?_, h⟩⟩
                have := wst_prefix (bts s) (k + 1) ((bts s).length + 1) (by rw [bts_length]; omega)
                rw [HP.out] at this
                exact this
            · gi_wp2
              rcases hcase.out with ⟨_, hJ3, hk3⟩ | ⟨h, _⟩
              · go_roundw
                case rel => exact ⟨k + 1, k + 1, pre ++ [y], by go_num, by go_num, by omega, by omega, HP, by simp; omega, Lib.hid hJ3, hB.trans hk3⟩
                case measure => simp [intOf]; omega
              · cases h
          · have hd3 : decide (m < k) = false := decide_eq_false hmk
            have HP := Lib.hid (show wst (bts s) (k + 1) = (pre.map (fun x : Sp s.size => x.1), k + 1) by
              rw [wst_no HE.out (by rw [hpre.out]; exact hmk), hpre.out])
            gi_wp2
            refine ⟨fun _ h => (by cases h), ?_⟩
            gi_wp2
            go_roundw
            case rel => exact ⟨k + 1, k + 1, pre, by go_num, by go_num, by omega, by omega, HP, by omega, hJ, hB⟩
            case measure => simp [intOf]; omega
        · have hd2 : ((s[k].toNat : Int) != 32) = true := by simpa using h32
          have HE := Lib.hid (show wst (bts s) (k + 1) = wst (bts s) k from wst_go (by rw [bts_length]; exact hks) (by rw [hg]; intro h; injection h with h; apply h32; rw [h]; rfl))
          clear hg h32
          gi_wp2
          go_roundw
          case rel => exact ⟨k + 1, m, pre, by go_num, rfl, by omega, by omega, Lib.hid (HE.out.trans hpre.out), by omega, hJ, hB⟩
          case measure => simp [intOf]; omega
      · have hd1 : decide (k < s.size) = false := decide_eq_false hks
        have HE := Lib.hid (show ¬ (k < (bts s).length ∧ (bts s)[k]? ≠ some 32) by rw [bts_length]; intro ⟨h, _⟩; exact hks h)
        by_cases hmk : m < k
        · obtain ⟨y, hy1⟩ : ∃ y : Sp s.size, y.1 = (m, k) := ⟨⟨(m, k), hmk, by omega⟩, rfl⟩
          have hYY := HR.out pre y wr hJ.out (by omega)
          rw [hy1] at hYY
          unfold spv at hYY
          obtain ⟨fn, tmps, assign, body, hy, hR⟩ := hYY
          have hR2 := hR.mono (R' := fun e W' => ∃ bb, e = .returned (.bool bb) ∧ Hid ((bb = true ∧ J (pre ++ [y]) W' ∧ Below n₀ wr W') ∨ (bb = false ∧ Jx (pre ++ [y]) W'))) (fun e w' h => by
            rcases h with ⟨h1, h2, h3⟩ | ⟨h1, h2⟩
            · exact ⟨true, h1, .inl ⟨rfl, h2, h3⟩⟩
            · exact ⟨false, h1, .inr ⟨rfl, h2⟩⟩)
          have HRR := Lib.hid hR2
          have HP := Lib.hid (show wst (bts s) (k + 1) = ((pre ++ [y]).map (fun x : Sp s.size => x.1), k + 1) by
            rw [wst_end HE.out (by rw [hpre.out]; exact hmk), hpre.out, List.map_append]; simp [hy1])
          clear hR hR2 hy1
          dsimp only at hy
          gi_wp2
          refine RoundIn.mono HRR.out ?_
          rintro e W3 ⟨bb, rfl, hcase⟩
          cases bb
          · gi_wp2
            refine bodyPost_ret (results_none rfl _ _ _) rfl ?_
            rcases hcase.out with ⟨h, _⟩ | ⟨_, h⟩
            · cases h
            · refine ⟨⟨_, rfl⟩, .inr ⟨_, ?_, h⟩⟩
              have := wst_prefix (bts s) (k + 1) ((bts s).length + 1) (by rw [bts_length]; omega)
              rw [HP.out] at this
              exact this
          · gi_wp2
            rcases hcase.out with ⟨_, hJ3, hk3⟩ | ⟨h, _⟩
            · go_roundw
              case rel => exact ⟨k + 1, k + 1, pre ++ [y], by go_num, by go_num, by omega, by omega, HP, by simp; omega, Lib.hid hJ3, hB.trans hk3⟩
              case measure => simp [intOf]; omega
            · cases h
        · have hd3 : decide (m < k) = false := decide_eq_false hmk
          have HP := Lib.hid (show wst (bts s) (k + 1) = (pre.map (fun x : Sp s.size => x.1), k + 1) by
            rw [wst_no HE.out (by rw [hpre.out]; exact hmk), hpre.out])
          gi_wp2
          refine ⟨fun _ h => (by cases h), ?_⟩
          gi_wp2
          go_roundw
          case rel => exact ⟨k + 1, k + 1, pre, by go_num, by go_num, by omega, by omega, HP, by omega, hJ, hB⟩
          case measure => simp [intOf]; omega
    · have HF := Lib.hid (show spans (bts s) = pre.map (fun x => x.1) by unfold spans; rw [bts_length, show s.size + 1 = k by omega, hpre.out])
      gi_wp2
      go_end0
      exact ⟨⟨_, rfl⟩, .inl ⟨pre, HF.out.symm, hJ.out⟩⟩

theorem words_stops (bs : Nat) (s : ByteArray) (w : World) (hs : s.size ≤ 1000000) (hbs : w.cell? ⟨bs, 0, none⟩ = some (.string s)) (hl1 : bs < w.heap.size) (w' : World) (hw' : Below w.heap.size w w') :
    SeqStopsK Fence.wide 2 Tryd.prog 179 #[.pointer (some ⟨bs, 0, none⟩)] (fun x : Sp s.size => #[spv x.1]) (Below w.heap.size)
      (fun xs => xs.map (fun x => x.1) = spans (bts s)) (fun pre => ∃ r, pre.map (fun x => x.1) ++ r = spans (bts s)) (s.size + 1) w' := by
  intro l J Jx W hW hJ hJx hY hJ0
  have hz := hw'.size
  refine (words_in l bs w.heap.size s hs J Jx hY W ?_ hl1 (Nat.le_trans hz hW.size) hJ0).mono ?_
  · exact (hW.cell (p := ⟨bs, 0, none⟩) (by simpa using Nat.lt_of_lt_of_le hl1 hz)).trans ((hw'.cell (p := ⟨bs, 0, none⟩) hl1).trans hbs)
  · intro e W' h; exact h
set_option maxHeartbeats 400000 in
theorem words_any (s : ByteArray) (w : World) :
    Calls Tryd.prog 162 #[.string s] w fun e w' => e = .returned (.func (.func 179) #[] #[.pointer (some ⟨w.heap.size, 0, none⟩)]) ∧ w.alloc (.cells #[.string s] 9) = w' := by
  go_enter Tryd.func162, Tryd.ntmps162
  go_wp2
  go_ret
  exact ⟨rfl, rfl⟩
end Go.Proofs.YtoilgjlbpimcpaaDoor
