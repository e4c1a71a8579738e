/- The words of a string, as an iterator: only the string's box must be kept. -/
import Derived.Test.YtoilgjlbpimcpaaDoorTm2
namespace Go.Proofs.YtoilgjlbpimcpaaDoor
open Go.RowKit Go.Shelf Tx
set_option linter.unusedVariables false
set_option maxRecDepth 100000
attribute [local go_sem] Oper.semAt_some

set_option maxHeartbeats 4000000 in
theorem words_inC (l bs : Nat) (s : ByteArray) (hs : s.size ≤ 1000000) (J Jx : List (Sp s.size) → World → Prop)
    (hround : ∀ pre x W, J pre W → pre.length < s.size + 1 → YieldAt Fence.wide 1 Tryd.prog l #[spv x.1] W fun e W' =>
      (e = .returned (.bool true) ∧ J (pre ++ [x]) W' ∧ W'.cell? ⟨bs, 0, none⟩ = W.cell? ⟨bs, 0, none⟩) ∨ (e = .returned (.bool false) ∧ Jx (pre ++ [x]) W'))
    (W : World) (hbs : W.cell? ⟨bs, 0, none⟩ = some (.string s)) (hJ0 : J [] W) :
    CallsIn Fence.wide 2 Tryd.prog 179 #[.func (.yield l) #[] #[], .pointer (some ⟨bs, 0, none⟩)] W (SpanPost (spans (bts s)) J Jx) := by
  have HR := Lib.hid hround
  have HJ0 := Lib.hid hJ0
  clear hround hJ0
  refine callsIn_of_wp Tryd.func179 rfl trivial ?_ rfl
  simp only [Tryd.ntmps179, List.size_toArray, List.length_cons, List.length_nil, Nat.reduceAdd, Nat.reduceSub, Array.replicate_succ, Array.replicate_zero, List.push_toArray, List.append_toArray, List.nil_append, List.cons_append]
  gi_wp2
  gi_loopw [3, 8] (fun f v wr => ∃ (k m : Nat) (pre : List (Sp s.size)), v = .int .i64 k ∧ f = .int .i64 m ∧ k ≤ s.size + 1 ∧ m ≤ k ∧ Hid (wst (bts s) k = (pre.map (fun x => x.1), m)) ∧ pre.length ≤ k ∧ Hid (J pre wr) ∧ wr.cell? ⟨bs, 0, none⟩ = some (.string s)) (fun _ v _ => s.size + 1 - (intOf v).toNat)
  case atStart => exact ⟨0, 0, [], rfl, rfl, Nat.zero_le _, Nat.le_refl _, Lib.hid rfl, Nat.le_refl _, HJ0, hbs⟩
  case round =>
    obtain ⟨k, m, pre, rfl, rfl, hk, hm, hpre, hpl, hJ, hB⟩ := hrel
    have c2 := hB
    by_cases hlt : k < s.size + 1
    · by_cases hks : k < s.size
      · have hg := bts_get s hks
        by_cases h32 : (s[k].toNat : Int) = 32
        · have hd2 : ((s[k].toNat : Int) != 32) = false := by rw [h32]; rfl
          have HE := Lib.hid (show ¬ (k < (bts s).length ∧ (bts s)[k]? ≠ some 32) by
            intro ⟨_, h⟩; apply h; rw [hg]; congr 1; exact UInt8.toNat_inj.1 (show s[k].toNat = 32 by omega))
          clear hg h32
          by_cases hmk : m < k
          · obtain ⟨y, hy1⟩ : ∃ y : Sp s.size, y.1 = (m, k) := ⟨⟨(m, k), hmk, by omega⟩, rfl⟩
            have hYY := HR.out pre y wr hJ.out (by omega)
            rw [hy1] at hYY
            unfold spv at hYY
            obtain ⟨fn, tmps, assign, body, hy, hR⟩ := hYY
            have hR2 := hR.mono (R' := fun e W' => ∃ bb, e = .returned (.bool bb) ∧ Hid ((bb = true ∧ J (pre ++ [y]) W' ∧ W'.cell? ⟨bs, 0, none⟩ = wr.cell? ⟨bs, 0, none⟩) ∨ (bb = false ∧ Jx (pre ++ [y]) W'))) (fun e w' h => by
              rcases h with ⟨h1, h2, h3⟩ | ⟨h1, h2⟩
              · exact ⟨true, h1, .inl ⟨rfl, h2, h3⟩⟩
              · exact ⟨false, h1, .inr ⟨rfl, h2⟩⟩)
            have HRR := Lib.hid hR2
            have HP := Lib.hid (show wst (bts s) (k + 1) = ((pre ++ [y]).map (fun x : Sp s.size => x.1), k + 1) by
              rw [wst_end HE.out (by rw [hpre.out]; exact hmk), hpre.out, List.map_append]; simp [hy1])
            clear hR hR2 hy1
            dsimp only at hy
            gi_wp2
            refine RoundIn.mono HRR.out ?_
            rintro e W3 ⟨bb, rfl, hcase⟩
            cases bb
            · gi_wp2
              refine bodyPost_ret (results_none rfl _ _ _) rfl ?_
              rcases hcase.out with ⟨h, _⟩ | ⟨_, h⟩
              · cases h
              · refine ⟨⟨_, rfl⟩, .inr ⟨_, ?_, h⟩⟩
                have := wst_prefix (bts s) (k + 1) ((bts s).length + 1) (by rw [bts_length]; omega)
                rw [HP.out] at this
                exact this
            · gi_wp2
              rcases hcase.out with ⟨_, hJ3, hk3⟩ | ⟨h, _⟩
              · go_roundw
                case rel => exact ⟨k + 1, k + 1, pre ++ [y], by go_num, by go_num, by omega, by omega, HP, by simp; omega, Lib.hid hJ3, hk3.trans hB⟩
                case measure => simp [intOf]; omega
              · cases h
          · have hd3 : decide (m < k) = false := decide_eq_false hmk
            have HP := Lib.hid (show wst (bts s) (k + 1) = (pre.map (fun x : Sp s.size => x.1), k + 1) by
              rw [wst_no HE.out (by rw [hpre.out]; exact hmk), hpre.out])
            gi_wp2
            refine ⟨fun _ h => (by cases h), ?_⟩
            gi_wp2
            go_roundw
            case rel => exact ⟨k + 1, k + 1, pre, by go_num, by go_num, by omega, by omega, HP, by omega, hJ, hB⟩
            case measure => simp [intOf]; omega
        · have hd2 : ((s[k].toNat : Int) != 32) = true := by simpa using h32
          have HE := Lib.hid (show wst (bts s) (k + 1) = wst (bts s) k from wst_go (by rw [bts_length]; exact hks) (by rw [hg]; intro h; injection h with h; apply h32; rw [h]; rfl))
          clear hg h32
          gi_wp2
          go_roundw
          case rel => exact ⟨k + 1, m, pre, by go_num, rfl, by omega, by omega, Lib.hid (HE.out.trans hpre.out), by omega, hJ, hB⟩
          case measure => simp [intOf]; omega
      · have hd1 : decide (k < s.size) = false := decide_eq_false hks
        have HE := Lib.hid (show ¬ (k < (bts s).length ∧ (bts s)[k]? ≠ some 32) by rw [bts_length]; intro ⟨h, _⟩; exact hks h)
        by_cases hmk : m < k
        · obtain ⟨y, hy1⟩ : ∃ y : Sp s.size, y.1 = (m, k) := ⟨⟨(m, k), hmk, by omega⟩, rfl⟩
          have hYY := HR.out pre y wr hJ.out (by omega)
          rw [hy1] at hYY
          unfold spv at hYY
          obtain ⟨fn, tmps, assign, body, hy, hR⟩ := hYY
          have hR2 := hR.mono (R' := fun e W' => ∃ bb, e = .returned (.bool bb) ∧ Hid ((bb = true ∧ J (pre ++ [y]) W' ∧ W'.cell? ⟨bs, 0, none⟩ = wr.cell? ⟨bs, 0, none⟩) ∨ (bb = false ∧ Jx (pre ++ [y]) W'))) (fun e w' h => by
            rcases h with ⟨h1, h2, h3⟩ | ⟨h1, h2⟩
            · exact ⟨true, h1, .inl ⟨rfl, h2, h3⟩⟩
            · exact ⟨false, h1, .inr ⟨rfl, h2⟩⟩)
          have HRR := Lib.hid hR2
          have HP := Lib.hid (show wst (bts s) (k + 1) = ((pre ++ [y]).map (fun x : Sp s.size => x.1), k + 1) by
            rw [wst_end HE.out (by rw [hpre.out]; exact hmk), hpre.out, List.map_append]; simp [hy1])
          clear hR hR2 hy1
          dsimp only at hy
          gi_wp2
          refine RoundIn.mono HRR.out ?_
          rintro e W3 ⟨bb, rfl, hcase⟩
          cases bb
          · gi_wp2
            refine bodyPost_ret (results_none rfl _ _ _) rfl ?_
            rcases hcase.out with ⟨h, _⟩ | ⟨_, h⟩
            · cases h
            · refine ⟨⟨_, rfl⟩, .inr ⟨_, ?_, h⟩⟩
              have := wst_prefix (bts s) (k + 1) ((bts s).length + 1) (by rw [bts_length]; omega)
              rw [HP.out] at this
              exact this
          · gi_wp2
            rcases hcase.out with ⟨_, hJ3, hk3⟩ | ⟨h, _⟩
            · go_roundw
              case rel => exact ⟨k + 1, k + 1, pre ++ [y], by go_num, by go_num, by omega, by omega, HP, by simp; omega, Lib.hid hJ3, hk3.trans hB⟩
              case measure => simp [intOf]; omega
            · cases h
        · have hd3 : decide (m < k) = false := decide_eq_false hmk
          have HP := Lib.hid (show wst (bts s) (k + 1) = (pre.map (fun x : Sp s.size => x.1), k + 1) by
            rw [wst_no HE.out (by rw [hpre.out]; exact hmk), hpre.out])
          gi_wp2
          refine ⟨fun _ h => (by cases h), ?_⟩
          gi_wp2
          go_roundw
          case rel => exact ⟨k + 1, k + 1, pre, by go_num, by go_num, by omega, by omega, HP, by omega, hJ, hB⟩
          case measure => simp [intOf]; omega
    · have HF := Lib.hid (show spans (bts s) = pre.map (fun x => x.1) by unfold spans; rw [bts_length, show s.size + 1 = k by omega, hpre.out])
      gi_wp2
      go_end0
      exact ⟨⟨_, rfl⟩, .inl ⟨pre, HF.out.symm, hJ.out⟩⟩

theorem words_stopsC (bs : Nat) (s : ByteArray) (w : World) (hs : s.size ≤ 1000000) (hbs : w.cell? ⟨bs, 0, none⟩ = some (.string s)) (hl1 : bs < w.heap.size) (w' : World) (hw' : Below w.heap.size w w') :
    SeqStopsK Fence.wide 2 Tryd.prog 179 #[.pointer (some ⟨bs, 0, none⟩)] (fun x : Sp s.size => #[spv x.1]) (fun A B => B.cell? ⟨bs, 0, none⟩ = A.cell? ⟨bs, 0, none⟩)
      (fun xs => xs.map (fun x => x.1) = spans (bts s)) (fun pre => ∃ r, pre.map (fun x => x.1) ++ r = spans (bts s)) (s.size + 1) w' := by
  intro l J Jx W hW hJ hJx hY hJ0
  have hz := hw'.size
  refine (words_inC l bs s hs J Jx hY W ?_ hJ0).mono ?_
  · exact (hW.cell (p := ⟨bs, 0, none⟩) (by simpa using Nat.lt_of_lt_of_le hl1 hz)).trans ((hw'.cell (p := ⟨bs, 0, none⟩) hl1).trans hbs)
  · intro e W' h; exact h
end Go.Proofs.YtoilgjlbpimcpaaDoor
