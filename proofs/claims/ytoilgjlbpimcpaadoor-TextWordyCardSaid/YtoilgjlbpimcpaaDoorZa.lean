/- The other program's words of a string: where they begin and end. -/
import Derived.Test.YtoilgjlbpimcpaaDoorVb
import Derived.Test.YtoilgjlbpimcpaaDoorTo
namespace Go.Proofs.YtoilgjlbpimcpaaDoor
open Go.RowKit Go.Shelf Tx
set_option linter.unusedVariables false
set_option maxRecDepth 100000

theorem infoRSpan : (Tryd.prog.info? 132).map (fun i => (i.zero, i.size, i.bytes)) = some (some (.agg #[.int .i64 0, .int .i64 0]), 2, 16) := by kernel_rfl
def flatP (l : List (Nat × Nat)) : List Value := l.flatMap fun x => [.int .i64 (x.1 : Int), .int .i64 (x.2 : Int)]
theorem flatP_snoc (l : List (Nat × Nat)) (x : Nat × Nat) : flatP (l ++ [x]) = flatP l ++ [.int .i64 (x.1 : Int), .int .i64 (x.2 : Int)] := by unfold flatP; simp
theorem flatP_get : ∀ (xs : List (Nat × Nat)) (i : Nat) (p : Nat × Nat), xs[i]? = some p → (flatP xs)[i * 2]? = some (.int .i64 (p.1 : Int)) ∧ (flatP xs)[i * 2 + 1]? = some (.int .i64 (p.2 : Int))
  | [], i, p, h => by simp at h
  | x :: xs, 0, p, h => by simp at h; subst h; unfold flatP; simp
  | x :: xs, i + 1, p, h => by
    have := flatP_get xs i p (by simpa using h)
    have e : (i + 1) * 2 = i * 2 + 1 + 1 := by omega
    rw [e]
    unfold flatP at *
    simpa using this
/-- The slice v holds these places. -/
def Sps (w : World) (v : Value) (L : List (Nat × Nat)) : Prop :=
  (v = .slice none 0 0 ∧ L = []) ∨ ∃ g cap, v = .slice (some ⟨g, 0, none⟩) L.length cap ∧ g < w.heap.size ∧ ∀ (i : Nat) (p : Nat × Nat), L[i]? = some p → w.cell? ⟨g, i * 2, none⟩ = some (.int .i64 (p.1 : Int)) ∧ w.cell? ⟨g, i * 2 + 1, none⟩ = some (.int .i64 (p.2 : Int))
theorem sps_own {w : World} {B : Nat} {v : Value} {L : List (Nat × Nat)} (h : w.ownsRow B 132 2 v L.length (flatP L)) : Sps w v L := by
  obtain ⟨hl, ⟨rfl, h0⟩ | ⟨g, cap, cur, rfl, hB, hg, hc, hm, hs, ht⟩⟩ := h
  · exact .inl ⟨rfl, List.eq_nil_of_length_eq_zero h0⟩
  · refine .inr ⟨g, cap, rfl, (Array.getElem?_eq_some_iff.1 hg).1, fun i p hp => ?_⟩
    have hi := (List.getElem?_eq_some_iff.1 hp).1
    have hf := flatP_get L i p hp
    rw [← ht, List.getElem?_take, List.getElem?_take, if_pos (by omega), if_pos (by omega), Array.getElem?_toList, Array.getElem?_toList] at hf
    simp only [World.cell?, hg]
    simpa using hf
theorem Sps.below {w w' : World} {v : Value} {L : List (Nat × Nat)} (h : Sps w v L) (hb : Below w.heap.size w w') : Sps w' v L := by
  rcases h with h | ⟨g, cap, h1, h2, h3⟩
  · exact .inl h
  · exact .inr ⟨g, cap, h1, Nat.lt_of_lt_of_le h2 hb.size, fun i p hp => ⟨(hb.cell (p := ⟨g, i * 2, none⟩) h2).trans (h3 i p hp).1, (hb.cell (p := ⟨g, i * 2 + 1, none⟩) h2).trans (h3 i p hp).2⟩⟩
/-- As far as place k these are the words. -/
def HeadOk (l : List UInt8) (k : Nat) (L : List (Nat × Nat)) : Prop := wst l k = (L, k) ∨ (¬ (k < l.length ∧ l[k]? ≠ some 32) ∧ wst l (k + 1) = (L, k + 1))
theorem HeadOk.blank {l : List UInt8} {k : Nat} {L : List (Nat × Nat)} (h : HeadOk l k L) (hk : l[k]? = some 32) : HeadOk l (k + 1) L := by
  rcases h with h | ⟨_, h⟩
  · exact .inl (by rw [wst_no (fun e => e.2 hk) (by rw [h]; exact Nat.lt_irrefl _), h])
  · exact .inl h
theorem HeadOk.start {l : List UInt8} {k : Nat} {L : List (Nat × Nat)} (h : HeadOk l k L) (hk : k < l.length) (hne : l[k]? ≠ some 32) : wst l k = (L, k) := by
  rcases h with h | ⟨h, _⟩
  · exact h
  · exact absurd ⟨hk, hne⟩ h
theorem HeadOk.fin {l : List UInt8} {L : List (Nat × Nat)} (h : HeadOk l l.length L) : spans l = L := by
  unfold spans
  rcases h with h | ⟨_, h⟩
  · rw [wst_no (fun e => Nat.lt_irrefl _ e.1) (by rw [h]; exact Nat.lt_irrefl _), h]
  · rw [h]
theorem HeadOk.word {l : List UInt8} {k a : Nat} {L : List (Nat × Nat)} (h : wst l k = (L, a)) (hak : a < k) (hk : ¬ (k < l.length ∧ l[k]? ≠ some 32)) : HeadOk l k (L ++ [(a, k)]) :=
  .inr ⟨hk, by rw [wst_end hk (by rw [h]; exact hak), h]⟩

theorem two_cells {w : World} {p : Nat} {u v : Value} (h0 : w.cell? ⟨p, 0, none⟩ = some u) (h1 : w.cell? ⟨p, 1, none⟩ = some v) : ∀ j x, [u, v][j]? = some x → w.cell? ((⟨p, 0, none⟩ : Addr).add j) = some x := by
  intro j x hj
  match j, hj with
  | 0, hj => simp at hj; subst hj; simpa [Addr.add] using h0
  | 1, hj => simp at hj; subst hj; simpa [Addr.add] using h1
theorem two_one (a b : Int) : ∀ u ∈ [Value.int .i64 a, Value.int .i64 b], u.oneCell' = true := by
  intro u hu
  simp at hu
  rcases hu with rfl | rfl <;> rfl
set_option maxHeartbeats 4000000 in
theorem Spans_any (s : ByteArray) (w : World) (hs : s.size ≤ 1000000) :
    Calls Tryd.prog 134 #[.string s] w fun e w' => ∃ v, e = .returned v ∧ Sps w' v (spans (bts s)) ∧ Below w.heap.size w w' := by
  obtain ⟨i0, hi, hz0, hz1, hz2⟩ := info_parts infoRSpan
  go_enter Tryd.func134, Tryd.ntmps134
  go_wp2
  go_loopw [3, 4] (fun v i wr => ∃ (k : Nat) (L : List (Nat × Nat)), i = .int .i64 k ∧ k ≤ s.size ∧ L.length ≤ k ∧ Hid (HeadOk (bts s) k L) ∧ Hid (wr.ownsRow w.heap.size 132 2 v L.length (flatP L)) ∧ Hid (Below w.heap.size w wr)) (fun _ i _ => s.size - (intOf i).toNat)
  case atStart => exact ⟨0, [], rfl, Nat.zero_le _, Nat.le_refl _, Lib.hid (.inl rfl), Lib.hid (World.ownsRow_nil _ _ _ _), Lib.hid (Below.refl _ _)⟩
  case round =>
    obtain ⟨k, L, rfl, hk, hL, hh, ho, hb⟩ := hrel
    by_cases hlt : k < s.size
    · have HG := Lib.hid (bts_get s hlt)
      by_cases hc : s[k] = 32
      · have hc3 : (s[k].toNat : Int) = 32 := by rw [hc]; rfl
        have HN := Lib.hid (hh.out.blank (by rw [HG.out, hc]))
        clear hc
        go_wp2
        go_roundw
        case rel => exact ⟨k + 1, L, by go_num, by omega, by omega, HN, ho, hb⟩
        case measure => simp [intOf]; omega
      · have hc3 : ¬ (s[k].toNat : Int) = 32 := fun h => hc (UInt8.toNat_inj.1 (by simp; omega))
        have HW0 := Lib.hid (hh.out.start (by rw [bts_length]; exact hlt) (by rw [HG.out]; intro e; injection e with e; exact hc e))
        clear hc
        go_wp2
        go_loop [4] (fun i => ∃ m : Nat, i = .int .i64 m ∧ k ≤ m ∧ m ≤ s.size ∧ Hid (wst (bts s) m = (L, k))) (fun i => s.size - (intOf i).toNat)
        case atStart => exact ⟨k, rfl, Nat.le_refl _, hk, HW0⟩
        case round =>
          obtain ⟨m, rfl, hkm, hm, hw⟩ := hrel
          have endp : Hid (k < m → ¬ (m < (bts s).length ∧ (bts s)[m]? ≠ some 32) → HeadOk (bts s) m (L ++ [(k, m)])) := Lib.hid (fun h1 h2 => HeadOk.word hw.out h1 h2)
          have hsz := hb.out.size
          by_cases hmt : m < s.size
          · have HGm := Lib.hid (bts_get s hmt)
            by_cases hcm : s[m] = 32
            · have hcm3 : (s[m].toNat : Int) = 32 := by rw [hcm]; rfl
              have hkm2 : k < m := by
                rcases Nat.lt_or_eq_of_le hkm with h | h
                · exact h
                · subst h; exact absurd hcm3 hc3
              have HH := Lib.hid (endp.out hkm2 (by intro e; exact e.2 (by rw [HGm.out, hcm])))
              clear hcm hc3
              go_wp2_with (at_builtin; refine wpList_append_own _ rfl _ _ 129 rfl w.heap.size 132 i0 (.agg #[.int .i64 0, .int .i64 0]) 2 16 Tryd.underlying129 hi hz0 hz1 hz2 rfl (by decide) _ _ _ rfl (ho.out.alloc _) ⟨wr.heap.size, 0, none⟩ 1 1 [.int .i64 (k : Int), .int .i64 (m : Int)] rfl rfl (two_cells (by simp) (by simp)) (two_one _ _) (by unfold maxLen; omega) (by omega) (by simp; omega) ?_; intro v' w4 hown hgrow hnil; have HO := Lib.hid hown; have HB := Lib.hid (((hb.out.alloc hsz _).grown hgrow (by simp; omega) (fun r e => (World.ownsRow.lt ho.out r e).1))); clear hown hgrow hnil)
              go_roundw
              case rel => exact ⟨m, L ++ [(k, m)], rfl, by omega, by simp; omega, HH, Lib.hid (by rw [flatP_snoc, List.length_append]; exact HO.out), HB⟩
              case measure => simp [intOf]; omega
            · have hcm3 : ¬ (s[m].toNat : Int) = 32 := fun h => hcm (UInt8.toNat_inj.1 (by simp; omega))
              have HN := Lib.hid (show wst (bts s) (m + 1) = (L, k) by rw [wst_go (by rw [bts_length]; exact hmt) (by rw [HGm.out]; intro e; injection e with e; exact hcm e), hw.out])
              clear hcm
              go_wp2
              go_round
              case rel => exact ⟨m + 1, by go_num, by omega, by omega, HN⟩
              case measure => simp [intOf]; omega
          · have hkm2 : k < m := by omega
            have HH := Lib.hid (endp.out hkm2 (by intro e; rw [bts_length] at e; exact hmt e.1))
            go_wp2_with (at_builtin; refine wpList_append_own _ rfl _ _ 129 rfl w.heap.size 132 i0 (.agg #[.int .i64 0, .int .i64 0]) 2 16 Tryd.underlying129 hi hz0 hz1 hz2 rfl (by decide) _ _ _ rfl (ho.out.alloc _) ⟨wr.heap.size, 0, none⟩ 1 1 [.int .i64 (k : Int), .int .i64 (m : Int)] rfl rfl (two_cells (by simp) (by simp)) (two_one _ _) (by unfold maxLen; omega) (by omega) (by simp; omega) ?_; intro v' w4 hown hgrow hnil; have HO := Lib.hid hown; have HB := Lib.hid (((hb.out.alloc hsz _).grown hgrow (by simp; omega) (fun r e => (World.ownsRow.lt ho.out r e).1))); clear hown hgrow hnil)
            go_roundw
            case rel => exact ⟨m, L ++ [(k, m)], rfl, by omega, by simp; omega, HH, Lib.hid (by rw [flatP_snoc, List.length_append]; exact HO.out), HB⟩
            case measure => simp [intOf]; omega
    · obtain rfl : k = s.size := by omega
      have HE := Lib.hid (show spans (bts s) = L from (show HeadOk (bts s) (bts s).length L by rw [bts_length]; exact hh.out).fin)
      go_wp2
      go_ret
      exact ⟨_, rfl, by rw [HE.out]; exact sps_own ho.out, hb.out⟩
end Go.Proofs.YtoilgjlbpimcpaaDoor
