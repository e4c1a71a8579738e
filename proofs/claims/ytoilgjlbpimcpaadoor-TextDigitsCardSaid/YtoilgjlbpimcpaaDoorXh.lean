/- The other program's values of digits. -/
import Derived.Test.YtoilgjlbpimcpaaDoorXg
import Derived.Test.YtoilgjlbpimcpaaDoorYd
import Derived.Test.YtoilgjlbpimcpaaDoorTp
namespace Go.Proofs.YtoilgjlbpimcpaaDoor
open Go.RowKit Go.Shelf Tx
set_option linter.unusedVariables false
set_option maxRecDepth 100000

namespace Tx
/-- A word, as the other program takes it. -/
def okR (l : List UInt8) (base group i : Nat) (p : Nat × Nat) : Bool := (decide (i = 0) || decide ((p.2 - p.1) % group = 0)) && (wordL l p).all (digOk base)
def edgeR (l : List UInt8) : Prop := 0 < l.length → l[0]? ≠ some 32 ∧ l[l.length - 1]? ≠ some 32
def OkR (l : List UInt8) (base group : Nat) : Prop := edgeR l ∧ ∀ i p, (spans l)[i]? = some p → okR l base group i p = true
theorem dw_head {xs : List UInt8} (h : (xs.dropWhile (· == 32)).length = xs.length) : xs[0]? ≠ some 32 := by
  cases xs with
  | nil => simp
  | cons a xs =>
    intro e
    simp at e
    subst e
    have := (List.dropWhile_sublist (fun x : UInt8 => x == 32) (l := xs)).length_le
    simp [List.dropWhile_cons] at h
    omega
theorem dw_id {xs : List UInt8} (h : xs[0]? ≠ some 32) : xs.dropWhile (· == 32) = xs := by
  cases xs with
  | nil => rfl
  | cons a xs =>
    have : (a == 32) = false := by simpa using h
    simp [List.dropWhile_cons, this]
theorem rev_head {l : List UInt8} (h : 0 < l.length) : l.reverse[0]? = l[l.length - 1]? := by
  rw [List.getElem?_reverse h]; rfl
theorem trim_edge (l : List UInt8) : Lib.trimB l 32 = l ↔ edgeR l := by
  unfold Lib.trimB Lib.trimLeftB Lib.trimRightB
  constructor
  · intro h h0
    have h1 := (List.dropWhile_sublist (fun x : UInt8 => x == 32) (l := l.reverse)).length_le
    have h2 := (List.dropWhile_sublist (fun x : UInt8 => x == 32) (l := (l.reverse.dropWhile (· == 32)).reverse)).length_le
    have h3 := congrArg List.length h
    have h4 : (l.reverse.dropWhile (· == 32)).length = l.reverse.length := by
      simp only [List.length_reverse] at h1 h2 h3 ⊢
      omega
    have h5 := dw_head h4
    rw [dw_id h5, List.reverse_reverse] at h
    rw [rev_head h0] at h5
    exact ⟨dw_head (by rw [h]), h5⟩
  · intro h
    by_cases h0 : 0 < l.length
    · obtain ⟨h1, h2⟩ := h h0
      rw [dw_id (xs := l.reverse) (by rw [rev_head h0]; exact h2), List.reverse_reverse, dw_id h1]
    · have := List.eq_nil_of_length_eq_zero (by omega : l.length = 0)
      subst this
      rfl
theorem wst_first {l : List UInt8} (h0 : 0 < l.length) (h : l[0]? ≠ some 32) : ∀ k, ((wst l k).1 = [] → (wst l k).2 = 0) ∧ ∀ p, (wst l k).1[0]? = some p → p.1 = 0
  | 0 => by simp [wst]
  | k + 1 => by
    obtain ⟨h1, h2⟩ := wst_first h0 h k
    by_cases hg : k < l.length ∧ l[k]? ≠ some 32
    · rw [wst_go hg.1 hg.2]; exact ⟨h1, h2⟩
    · by_cases hf : (wst l k).2 < k
      · rw [wst_end hg hf]
        refine ⟨fun e => by simp at e, fun p hp => ?_⟩
        simp only at hp
        by_cases he : (wst l k).1 = []
        · rw [he] at hp
          simp at hp
          rw [← hp]
          exact h1 he
        · rw [List.getElem?_append_left (by cases h' : (wst l k).1 with | nil => exact absurd h' he | cons _ _ => simp)] at hp
          exact h2 p hp
      · rw [wst_no hg hf]
        refine ⟨fun e => ?_, h2⟩
        have := h1 e
        have hk : k = 0 := by omega
        subst hk
        exact absurd ⟨h0, h⟩ hg
theorem okR_eq {l : List UInt8} {base group i : Nat} {p : Nat × Nat} (he : edgeR l) (hp : (spans l)[i]? = some p) : okR l base group i p = wordOk l group base p := by
  have hin := spans_inv l
  have hm := hin.1 p (List.mem_of_getElem? hp)
  have h0 : 0 < l.length := by omega
  have key : i = 0 ↔ p.1 = 0 := by
    constructor
    · intro e
      subst e
      exact (wst_first h0 (he h0).1 (l.length + 1)).2 p hp
    · intro e
      by_cases hi : i = 0
      · exact hi
      · obtain ⟨hil, hip⟩ := List.getElem?_eq_some_iff.1 hp
        have := (List.pairwise_iff_getElem.1 hin.2) 0 i (by omega) hil (by omega)
        rw [hip] at this
        omega
  unfold okR wordOk
  congr 2
  exact decide_eq_decide.2 key
theorem digitsL_ok {l : List UInt8} {base group : Nat} (hv : validL l = true) (h : OkR l base group) : digitsL l group base = some (wordsV l (spans l)) := by
  unfold digitsL
  have h1 : (Lib.trimB l 32 == l) = true := by rw [beq_iff_eq]; exact (trim_edge l).2 h.1
  have h2 : (spans l).all (wordOk l group base) = true := by
    rw [List.all_eq_true]
    intro p hp
    obtain ⟨i, hi⟩ := List.getElem?_of_mem hp
    rw [← okR_eq h.1 hi]
    exact h.2 i p hi
  rw [hv, h1, h2]; rfl
theorem digitsL_no {l : List UInt8} {base group : Nat} (h : ¬ OkR l base group) : digitsL l group base = none := by
  unfold digitsL
  rw [if_neg]
  intro e
  simp only [Bool.and_eq_true, beq_iff_eq, List.all_eq_true] at e
  have he := (trim_edge l).1 e.1.2
  exact h ⟨he, fun i p hp => by rw [okR_eq he hp]; exact e.2 p (List.mem_of_getElem? hp)⟩
theorem rdV_ok {base : Nat} {c : UInt8} (hb : base ≤ 16) (h : digOk base c = true) : rdV base c = ((digB c).toNat : Int) ∧ 0 ≤ rdV base c := by
  unfold rdV
  rw [if_pos h]
  unfold digOk at h
  unfold digB
  rw [Bool.and_eq_true, decide_eq_true_eq, decide_eq_true_eq] at h
  refine ⟨?_, h.1⟩
  simp [Nat.toUInt8]
  omega
theorem rdV_bad {base : Nat} {c : UInt8} (h : ¬ digOk base c = true) : rdV base c < 0 := by
  unfold rdV; rw [if_neg h]; decide
theorem bad_in {l : List UInt8} {base group i m : Nat} {p : Nat × Nat} {c : UInt8} (hp : (spans l)[i]? = some p) (hc : (wordL l p)[m]? = some c) (h : ¬ digOk base c = true) : ¬ OkR l base group := by
  intro e
  have := e.2 i p hp
  unfold okR at this
  rw [Bool.and_eq_true, List.all_eq_true] at this
  exact h (this.2 c (List.mem_of_getElem? hc))
theorem bad_len {l : List UInt8} {base group i : Nat} {p : Nat × Nat} (hp : (spans l)[i]? = some p) (hi : i ≠ 0) (h : ¬ (p.2 - p.1) % group = 0) : ¬ OkR l base group := by
  intro e
  have := e.2 i p hp
  unfold okR at this
  rw [Bool.and_eq_true, decide_eq_false hi, decide_eq_false h] at this
  simp at this
theorem wordsV_next {l : List UInt8} {L : List (Nat × Nat)} {i : Nat} {p : Nat × Nat} (hp : L[i]? = some p) : wordsV l (L.take (i + 1)) = wordsV l (L.take i) ++ (wordL l p).map digB := by
  rw [List.take_add_one, hp]
  unfold wordsV
  simp
theorem wordsV_take (l : List UInt8) (L : List (Nat × Nat)) (k : Nat) : (wordsV l (L.take k)).length ≤ (wordsV l L).length := by
  have : wordsV l L = wordsV l (L.take k) ++ wordsV l (L.drop k) := by
    unfold wordsV
    rw [← List.flatMap_append, List.take_append_drop]
  rw [this, List.length_append]
  omega
theorem okR_of {l : List UInt8} {base group i : Nat} {p : Nat × Nat} (h1 : i = 0 ∨ (p.2 - p.1) % group = 0) (h2 : ∀ c, c ∈ wordL l p → digOk base c = true) : okR l base group i p = true := by
  unfold okR
  rw [Bool.and_eq_true, List.all_eq_true]
  refine ⟨?_, h2⟩
  rcases h1 with h | h <;> simp [h]
theorem wordL_len {l : List UInt8} {p : Nat × Nat} (h : p.2 ≤ l.length) : (wordL l p).length = p.2 - p.1 := by unfold wordL; simp; omega
end Tx
theorem infoInt : (Tryd.prog.info? 3).map (fun i => (i.zero, i.size, i.bytes)) = some (some (.int .i64 0), 1, 8) := by kernel_rfl
def iv (c : UInt8) : Value := .int .i64 (c.toNat : Int)
theorem ownsRow_base {w : World} {A B : Nat} {e : TypeId} {k : Nat} {v : Value} {n : Nat} {xs : List Value} (h : w.ownsRow B e k v n xs) (hAB : A ≤ B) : w.ownsRow A e k v n xs := by
  obtain ⟨hl, h | ⟨g, cap, cur, h1, h2, h3⟩⟩ := h
  · exact ⟨hl, .inl h⟩
  · exact ⟨hl, .inr ⟨g, cap, cur, h1, Nat.le_trans hAB h2, h3⟩⟩
/-- What digits gives. -/
def GivesRD (w : World) (l : List UInt8) (base group : Nat) (e : Ending) (w' : World) : Prop :=
  ∃ v b, e = .returned (.tuple #[v, .bool b]) ∧ Below w.heap.size w w' ∧ (b = true → OkR l base group ∧ w'.ownsRow w.heap.size 3 1 v (wordsV l (spans l)).length ((wordsV l (spans l)).map iv)) ∧ (b = false → ¬ OkR l base group)
theorem givesRD_no {w : World} {l : List UInt8} {base group : Nat} {v : Value} {w' : World} (h : ¬ OkR l base group) (hb : Below w.heap.size w w') : GivesRD w l base group (.returned (.tuple #[v, .bool false])) w' :=
  ⟨v, false, rfl, hb, (fun e => by cases e), fun _ => h⟩
theorem sps_len {w : World} {v : Value} {L : List (Nat × Nat)} (h : Sps w v L) : ∃ ao cap, v = .slice ao L.length cap := by
  rcases h with ⟨rfl, rfl⟩ | ⟨g, cap, rfl, _⟩
  · exact ⟨none, 0, rfl⟩
  · exact ⟨_, _, rfl⟩
theorem sps_pos {w : World} {v : Value} {L : List (Nat × Nat)} (h : Sps w v L) (h0 : L ≠ []) : ∃ g cap, v = .slice (some ⟨g, 0, none⟩) L.length cap ∧ g < w.heap.size ∧ ∀ (i : Nat) (p : Nat × Nat), L[i]? = some p → w.cell? ⟨g, i * 2, none⟩ = some (.int .i64 (p.1 : Int)) ∧ w.cell? ⟨g, i * 2 + 1, none⟩ = some (.int .i64 (p.2 : Int)) := by
  rcases h with ⟨_, h⟩ | h
  · exact absurd h h0
  · exact h
theorem spans_len (l : List UInt8) : (spans l).length ≤ l.length + 1 := by unfold spans; exact wst_length l (l.length + 1)

set_option maxHeartbeats 4000000 in
theorem Digits_any (s : ByteArray) (base group : Nat) (w : World) (hs : s.size ≤ 2000) (hb16 : base ≤ 16) (hg1 : 1 ≤ group) (hg2 : group ≤ 16) :
    Calls Tryd.prog 153 #[.string s, .int .i64 base, .int .i64 group] w (GivesRD w (bts s) base group) := by
  have KS := fun W => Lib.hid (Spans_any s W (by omega))
  obtain ⟨i0, hi, hz0', hz1, hz2⟩ := info_parts infoInt
  have HWV := Lib.hid (show ∀ k, (wordsV (bts s) ((spans (bts s)).take k)).length ≤ 2000 from fun k => Nat.le_trans (wordsV_take _ _ _) (Nat.le_trans (wordsV_len (bts s) ((bts s).length + 1)).2 (by rw [bts_length]; omega)))
  have hspl := spans_len (bts s)
  rw [bts_length] at hspl
  have AR : True := trivial
  by_cases h0 : 0 < s.size
  · have HG0 := Lib.hid (bts_get s h0)
    obtain ⟨m, hm⟩ : ∃ m, s.size = m + 1 := ⟨s.size - 1, by omega⟩
    have hml : m < s.size := by omega
    have HGL := Lib.hid (bts_get s hml)
    have HM := Lib.hid hm
    by_cases hc0 : s[0] = 32
    · have hci : (s[0].toNat : Int) = 32 := by rw [hc0]; rfl
      have HNO := Lib.hid (show ¬ OkR (bts s) base group from fun e => (e.1 (by rw [bts_length]; exact h0)).1 (by rw [HG0.out, hc0]))
      clear hc0
      go_enter Tryd.func153, Tryd.ntmps153
      go_wp2_with (first
        | (go_at_call 134; (with_reducible refine Calls.mono (KS _).out ?_); rintro e w1 ⟨vs, rfl, hsp, hb1⟩; have HB0 := Lib.hid hb1; have HSP := Lib.hid hsp; clear hb1 hsp))
      refine bodyPost_ret (v := .tuple #[.slice none 0 0, .bool false]) (by simp [results, Tryd.results153, go_sem]) rfl ?_
      exact givesRD_no HNO.out HB0.out
    · have hci : ¬ (s[0].toNat : Int) = 32 := fun h => hc0 (UInt8.toNat_inj.1 (by simp; omega))
      have hci' : ((s[0].toNat : Int) == 32) = false := by simpa using hci
      by_cases hcl : s[m] = 32
      · have hcli : (s[m].toNat : Int) = 32 := by rw [hcl]; rfl
        have hcli' : ((s[m].toNat : Int) == 32) = true := by simpa using hcli
        have HNO := Lib.hid (show ¬ OkR (bts s) base group from fun e => (e.1 (by rw [bts_length]; exact h0)).2 (by rw [bts_length, HM.out, Nat.add_sub_cancel, HGL.out, hcl]))
        clear hc0 hcl
        go_enter Tryd.func153, Tryd.ntmps153
        go_wp2_with (first
          | (go_at_call 134; (with_reducible refine Calls.mono (KS _).out ?_); rintro e w1 ⟨vs, rfl, hsp, hb1⟩; have HB0 := Lib.hid hb1; have HSP := Lib.hid hsp; clear hb1 hsp))
        refine bodyPost_ret (v := .tuple #[.slice none 0 0, .bool false]) (by simp [results, Tryd.results153, go_sem]) rfl ?_
        exact givesRD_no HNO.out HB0.out
      · have hcli : ¬ (s[m].toNat : Int) = 32 := fun h => hcl (UInt8.toNat_inj.1 (by simp; omega))
        have hcli' : ((s[m].toNat : Int) == 32) = false := by simpa using hcli
        have HED := Lib.hid (show edgeR (bts s) from fun _ => ⟨by rw [HG0.out]; intro e; injection e with e; exact hc0 e, by rw [bts_length, HM.out, Nat.add_sub_cancel, HGL.out]; intro e; injection e with e; exact hcl e⟩)
        clear hc0 hcl
        go_enter Tryd.func153, Tryd.ntmps153
        go_wp2_with (first
          | (go_at_call 134; (with_reducible refine Calls.mono (KS _).out ?_); rintro e w1 ⟨vs, rfl, hsp, hb1⟩; have HB0 := Lib.hid hb1; have HSP := Lib.hid hsp; obtain ⟨ao, cap, rfl⟩ := sps_len hsp; clear hb1 hsp))
        go_loopw [8, 10] (fun v i wr => ∃ k : Nat, i = .int .i64 k ∧ k ≤ (spans (bts s)).length ∧ Hid (∀ j p, j < k → (spans (bts s))[j]? = some p → okR (bts s) base group j p = true) ∧ Hid (wr.ownsRow w1.heap.size 3 1 v (wordsV (bts s) ((spans (bts s)).take k)).length ((wordsV (bts s) ((spans (bts s)).take k)).map iv)) ∧ Hid (Below w1.heap.size w1 wr)) (fun _ i _ => (spans (bts s)).length - (intOf i).toNat)
        case atStart => exact ⟨0, rfl, Nat.zero_le _, Lib.hid (fun j p h => by omega), Lib.hid (by simpa [wordsV] using World.ownsRow_nil _ _ _ _), Lib.hid (Below.refl _ _)⟩
        case round =>
          obtain ⟨k, rfl, hk, hok, ho, hb⟩ := hrel
          by_cases hlt : k < (spans (bts s)).length
          · obtain ⟨⟨a, b⟩, hp⟩ : ∃ p, (spans (bts s))[k]? = some p := ⟨_, List.getElem?_eq_getElem hlt⟩
            have hpi := (spans_inv (bts s)).1 (a, b) (List.mem_of_getElem? hp)
            rw [bts_length] at hpi
            obtain ⟨hab, hbl⟩ := hpi
            dsimp only at hab hbl
            obtain ⟨g, cap', hgs, hgl, hcells⟩ := sps_pos (HSP.out.below hb.out) (by intro e; rw [e] at hlt; simp at hlt)
            injection hgs with hao _ hcap
            subst hao
            subst hcap
            obtain ⟨c0, c1⟩ := hcells k (a, b) hp
            clear hcells
            have HP := Lib.hid hp
            have hab2 : (a : Int) ≤ (b : Int) := by omega
            have hbl2 : (b : Int) ≤ (s.size : Int) := by omega
            have ha0 : (0 : Int) ≤ (a : Int) := by omega
            have hb0 : (0 : Int) ≤ (b : Int) := by omega
            have hab3 : a ≤ b := by omega
            clear hp
            go_wp2
            go_region
            obtain ⟨t, ht⟩ : ∃ t, t = s.extract a b := ⟨_, rfl⟩
            rw [← ht]
            have HT := Lib.hid (show bts t = wordL (bts s) (a, b) by rw [ht, bts_extract]; unfold wordL; rw [List.drop_take])
            have hts : t.size = b - a := by have := congrArg List.length HT.out; rw [bts_length, wordL_len (by rw [bts_length]; exact hbl)] at this; exact this
            have hts2 : t.size ≤ 2000 := by omega
            have HTS := Lib.hid hts
            clear hts
            obtain ⟨W2, hW2⟩ : ∃ W2, W2 = wr.drew := ⟨_, rfl⟩
            have ho2 := Lib.hid (World.ownsRow.drew ho.out)
            have hb2 := Lib.hid hb.out.drew
            rw [← hW2] at ho2 hb2
            rw [← hW2]
            clear ht c0 c1 ho hb hW2
            by_cases hk0 : k = 0
            · have hkp : ¬ (0 : Int) < (k : Int) := by omega
              have HK0 := Lib.hid hk0
              clear hk0
              go_wp2
              go_loopw [8, 12] (fun v' m wr' => ∃ j : Nat, m = .int .i64 j ∧ j ≤ t.size ∧ Hid (∀ c, c ∈ (bts t).take j → digOk base c = true) ∧ Hid (wr'.ownsRow w1.heap.size 3 1 v' (wordsV (bts s) ((spans (bts s)).take k) ++ ((bts t).take j).map digB).length ((wordsV (bts s) ((spans (bts s)).take k) ++ ((bts t).take j).map digB).map iv)) ∧ Hid (Below w1.heap.size w1 wr')) (fun _ m _ => t.size - (intOf m).toNat)
              case atStart => exact ⟨0, rfl, Nat.zero_le _, Lib.hid (fun c h => by simp at h), Lib.hid (by simpa using ho2.out), hb2⟩
              case round =>
                obtain ⟨j, rfl, hj, hall, ho, hb⟩ := hrel
                by_cases hjt : j < t.size
                · have HG := Lib.hid (bts_get t hjt)
                  have KD := fun W => Lib.hid (digit_any t[j] base W hb16)
                  by_cases hd : digOk base t[j] = true
                  · have hrd := rdV_ok hb16 hd
                    obtain ⟨z, hz⟩ : ∃ z, z = digB t[j] := ⟨_, rfl⟩
                    rw [← hz] at hrd
                    have HZ := Lib.hid hz
                    have HD := Lib.hid hd
                    have KD2 := fun W => Lib.hid (show Calls Tryd.prog 174 #[.int .u8 (t[j].toNat : Int), .int .i64 base] W fun e w' => e = .returned (.int .i64 (z.toNat : Int)) ∧ W = w' by have := (KD W).out; rw [hrd.1] at this; exact this)
                    have hz0 : ¬ (z.toNat : Int) < 0 := by omega
                    clear hd KD hrd hz
                    have hsz := hb.out.size
                    have HLN := Lib.hid (show (wordsV (bts s) ((spans (bts s)).take k) ++ ((bts t).take j).map digB).length ≤ 4000 by rw [List.length_append, List.length_map, List.length_take]; have := HWV.out k; have := bts_length t; omega)
                    go_wp2_with (first
                      | (go_at_call 174; (with_reducible refine Calls.mono (KD2 _).out ?_); rintro e w2 ⟨rfl, rfl⟩)
                      | (at_builtin; refine wpList_append_own _ rfl _ _ 150 rfl w1.heap.size 3 i0 (.int .i64 0) 1 8 Tryd.underlying150 hi hz0' hz1 hz2 rfl (by decide) _ _ _ rfl (ho.out.alloc _) ⟨wr.heap.size, 0, none⟩ 1 1 [iv z] rfl rfl (cells_one (cellAt rfl)) (by intro u hu; simp at hu; subst hu; rfl) (by unfold maxLen; have := HLN.out; omega) (by have := HLN.out; omega) (by simp; omega) ?_; intro v' w4 hown hgrow hnil; have HO := Lib.hid hown; have HB := Lib.hid (((hb.out.alloc hsz _).grown hgrow (by simp; omega) (fun r e => (World.ownsRow.lt ho.out r e).1))); clear hown hgrow hnil))
                    go_roundw
                    case rel => exact ⟨j + 1, by go_num, by omega, Lib.hid (by
                      intro c hc
                      rw [take_snoc _ _ _ HG.out] at hc
                      rcases List.mem_append.1 hc with hc | hc
                      · exact hall.out c hc
                      · rw [List.mem_singleton.1 hc]; exact HD.out), Lib.hid (by rw [take_snoc _ _ _ HG.out, List.map_append, ← List.append_assoc, show [t[j]].map digB = [z] from (by rw [HZ.out]; rfl), List.length_append, List.map_append]; exact HO.out), HB⟩
                    case measure => simp [intOf]; omega
                  · have hrd := rdV_bad (base := base) hd
                    obtain ⟨z, hz⟩ : ∃ z, z = rdV base t[j] := ⟨_, rfl⟩
                    rw [← hz] at hrd
                    have HNO := Lib.hid (bad_in (group := group) HP.out (by rw [← HT.out]; exact HG.out) hd)
                    have KD2 := fun W => Lib.hid (show Calls Tryd.prog 174 #[.int .u8 (t[j].toNat : Int), .int .i64 base] W fun e w' => e = .returned (.int .i64 z) ∧ W = w' by have := (KD W).out; rw [← hz] at this; exact this)
                    clear hd KD hz
                    go_wp2_with (first
                      | (go_at_call 174; (with_reducible refine Calls.mono (KD2 _).out ?_); rintro e w2 ⟨rfl, rfl⟩))
                    refine bodyPost_ret (v := .tuple #[.slice none 0 0, .bool false]) (by simp [results, Tryd.results153, go_sem]) rfl ?_
                    exact givesRD_no HNO.out (HB0.out.trans (hb.out.mono HB0.out.size))
                · obtain rfl : j = t.size := by omega
                  have HE := Lib.hid (show (bts t).take t.size = wordL (bts s) (a, b) by rw [← HT.out]; exact List.take_of_length_le (by rw [bts_length]; exact Nat.le_refl _))
                  go_wp2
                  go_roundw
                  case rel => exact ⟨k + 1, by go_num, by omega, Lib.hid (by
                    intro j' p' hj' hp'
                    by_cases e : j' = k
                    · subst e
                      rw [HP.out] at hp'
                      cases hp'
                      exact okR_of (.inl HK0.out) (by rw [← HE.out]; exact hall.out)
                    · exact hok.out j' p' (by omega) hp'), Lib.hid (by rw [wordsV_next HP.out, ← HE.out]; exact ho.out), hb⟩
                  case measure => simp [intOf]; omega
            · have hkp : (0 : Int) < (k : Int) := by omega
              have hgne : ¬ (group : Int) = 0 := by omega
              have hr1 : (t.size : Int).tmod (group : Int) = ((t.size % group : Nat) : Int) := by rw [Int.tmod_eq_emod_of_nonneg (by omega)]; exact (Int.natCast_emod _ _).symm
              by_cases hr : t.size % group = 0
              · have hr2 : (t.size : Int).tmod (group : Int) = 0 := by rw [hr1, hr]; rfl
                have hr3 : (t.size : Int) % (group : Int) = 0 := by rw [← Int.natCast_emod, hr]; rfl
                have hr4 : ((t.size : Int) % (group : Int) != 0) = false := by simpa using hr3
                clear hr1
                go_wp2
                go_loopw [8, 12] (fun v' m wr' => ∃ j : Nat, m = .int .i64 j ∧ j ≤ t.size ∧ Hid (∀ c, c ∈ (bts t).take j → digOk base c = true) ∧ Hid (wr'.ownsRow w1.heap.size 3 1 v' (wordsV (bts s) ((spans (bts s)).take k) ++ ((bts t).take j).map digB).length ((wordsV (bts s) ((spans (bts s)).take k) ++ ((bts t).take j).map digB).map iv)) ∧ Hid (Below w1.heap.size w1 wr')) (fun _ m _ => t.size - (intOf m).toNat)
                case atStart => exact ⟨0, rfl, Nat.zero_le _, Lib.hid (fun c h => by simp at h), Lib.hid (by simpa using ho2.out), hb2⟩
                case round =>
                  obtain ⟨j, rfl, hj, hall, ho, hb⟩ := hrel
                  by_cases hjt : j < t.size
                  · have HG := Lib.hid (bts_get t hjt)
                    have KD := fun W => Lib.hid (digit_any t[j] base W hb16)
                    by_cases hd : digOk base t[j] = true
                    · have hrd := rdV_ok hb16 hd
                      obtain ⟨z, hz⟩ : ∃ z, z = digB t[j] := ⟨_, rfl⟩
                      rw [← hz] at hrd
                      have HZ := Lib.hid hz
                      have HD := Lib.hid hd
                      have KD2 := fun W => Lib.hid (show Calls Tryd.prog 174 #[.int .u8 (t[j].toNat : Int), .int .i64 base] W fun e w' => e = .returned (.int .i64 (z.toNat : Int)) ∧ W = w' by have := (KD W).out; rw [hrd.1] at this; exact this)
                      have hz0 : ¬ (z.toNat : Int) < 0 := by omega
                      clear hd KD hrd hz
                      have hsz := hb.out.size
                      have HLN := Lib.hid (show (wordsV (bts s) ((spans (bts s)).take k) ++ ((bts t).take j).map digB).length ≤ 4000 by rw [List.length_append, List.length_map, List.length_take]; have := HWV.out k; have := bts_length t; omega)
                      go_wp2_with (first
                        | (go_at_call 174; (with_reducible refine Calls.mono (KD2 _).out ?_); rintro e w2 ⟨rfl, rfl⟩)
                        | (at_builtin; refine wpList_append_own _ rfl _ _ 150 rfl w1.heap.size 3 i0 (.int .i64 0) 1 8 Tryd.underlying150 hi hz0' hz1 hz2 rfl (by decide) _ _ _ rfl (ho.out.alloc _) ⟨wr.heap.size, 0, none⟩ 1 1 [iv z] rfl rfl (cells_one (cellAt rfl)) (by intro u hu; simp at hu; subst hu; rfl) (by unfold maxLen; have := HLN.out; omega) (by have := HLN.out; omega) (by simp; omega) ?_; intro v' w4 hown hgrow hnil; have HO := Lib.hid hown; have HB := Lib.hid (((hb.out.alloc hsz _).grown hgrow (by simp; omega) (fun r e => (World.ownsRow.lt ho.out r e).1))); clear hown hgrow hnil))
                      go_roundw
                      case rel => exact ⟨j + 1, by go_num, by omega, Lib.hid (by
                        intro c hc
                        rw [take_snoc _ _ _ HG.out] at hc
                        rcases List.mem_append.1 hc with hc | hc
                        · exact hall.out c hc
                        · rw [List.mem_singleton.1 hc]; exact HD.out), Lib.hid (by rw [take_snoc _ _ _ HG.out, List.map_append, ← List.append_assoc, show [t[j]].map digB = [z] from (by rw [HZ.out]; rfl), List.length_append, List.map_append]; exact HO.out), HB⟩
                      case measure => simp [intOf]; omega
                    · have hrd := rdV_bad (base := base) hd
                      obtain ⟨z, hz⟩ : ∃ z, z = rdV base t[j] := ⟨_, rfl⟩
                      rw [← hz] at hrd
                      have HNO := Lib.hid (bad_in (group := group) HP.out (by rw [← HT.out]; exact HG.out) hd)
                      have KD2 := fun W => Lib.hid (show Calls Tryd.prog 174 #[.int .u8 (t[j].toNat : Int), .int .i64 base] W fun e w' => e = .returned (.int .i64 z) ∧ W = w' by have := (KD W).out; rw [← hz] at this; exact this)
                      clear hd KD hz
                      go_wp2_with (first
                        | (go_at_call 174; (with_reducible refine Calls.mono (KD2 _).out ?_); rintro e w2 ⟨rfl, rfl⟩))
                      refine bodyPost_ret (v := .tuple #[.slice none 0 0, .bool false]) (by simp [results, Tryd.results153, go_sem]) rfl ?_
                      exact givesRD_no HNO.out (HB0.out.trans (hb.out.mono HB0.out.size))
                  · obtain rfl : j = t.size := by omega
                    have HE := Lib.hid (show (bts t).take t.size = wordL (bts s) (a, b) by rw [← HT.out]; exact List.take_of_length_le (by rw [bts_length]; exact Nat.le_refl _))
                    go_wp2
                    go_roundw
                    case rel => exact ⟨k + 1, by go_num, by omega, Lib.hid (by
                      intro j' p' hj' hp'
                      by_cases e : j' = k
                      · subst e
                        rw [HP.out] at hp'
                        cases hp'
                        exact okR_of (.inr (by rw [← HTS.out]; exact hr)) (by rw [← HE.out]; exact hall.out)
                      · exact hok.out j' p' (by omega) hp'), Lib.hid (by rw [wordsV_next HP.out, ← HE.out]; exact ho.out), hb⟩
                    case measure => simp [intOf]; omega
              · have hr2 : ¬ (t.size : Int).tmod (group : Int) = 0 := by rw [hr1]; omega
                have hr3 : ¬ (t.size : Int) % (group : Int) = 0 := by rw [← Int.natCast_emod]; omega
                have HNO := Lib.hid (bad_len (base := base) (group := group) HP.out hk0 (by rw [← HTS.out]; exact hr))
                have hr4 : ((t.size : Int) % (group : Int) != 0) = true := by simpa using hr3
                clear hr1 hr
                go_wp2
                refine bodyPost_ret (v := .tuple #[.slice none 0 0, .bool false]) (by simp [results, Tryd.results153, go_sem]) rfl ?_
                exact givesRD_no HNO.out (HB0.out.trans (hb2.out.mono HB0.out.size))
          · obtain rfl : k = (spans (bts s)).length := by omega
            have HOK := Lib.hid (show OkR (bts s) base group from ⟨HED.out, fun i p hp => hok.out i p (List.getElem?_eq_some_iff.1 hp).1 hp⟩)
            go_wp2
            refine bodyPost_ret (v := .tuple #[u8, .bool true]) (by simp [results, Tryd.results153, go_sem]) rfl ?_
            exact ⟨_, true, rfl, HB0.out.trans (hb.out.mono HB0.out.size), fun _ => ⟨HOK.out, by have := ho.out; rw [List.take_of_length_le (Nat.le_refl _)] at this; exact ownsRow_base this HB0.out.size⟩, fun e => by cases e⟩
  · have hs0 : s.size = 0 := by omega
    have hnil : bts s = [] := List.eq_nil_of_length_eq_zero (by rw [bts_length]; exact hs0)
    have hsn : spans (bts s) = [] := by rw [hnil]; rfl
    have HNIL := Lib.hid hnil
    have HSN := Lib.hid hsn
    have hsl : (spans (bts s)).length = 0 := by rw [hsn]; rfl
    clear hnil hsn hspl
    go_enter Tryd.func153, Tryd.ntmps153
    go_wp2_with (first
      | (go_at_call 134; (with_reducible refine Calls.mono (KS _).out ?_); rintro e w1 ⟨vs, rfl, hsp, hb1⟩; have HB0 := Lib.hid hb1; obtain ⟨ao, cap, rfl⟩ := sps_len hsp; rw [hsl]; clear hb1 hsp))
    go_loopw [8, 10] (fun v i wr => v = .slice none 0 0 ∧ i = .int .i64 0 ∧ Hid (Below w1.heap.size w1 wr)) (fun _ i _ => 0)
    case atStart => exact ⟨rfl, rfl, Lib.hid (Below.refl _ _)⟩
    case round =>
      obtain ⟨rfl, rfl, hb⟩ := hrel
      go_wp2
      refine bodyPost_ret (v := .tuple #[.slice none 0 0, .bool true]) (by simp [results, Tryd.results153, go_sem]) rfl ?_
      refine ⟨_, true, rfl, HB0.out.trans (hb.out.mono HB0.out.size), fun _ => ⟨⟨fun h => absurd h (by rw [HNIL.out]; decide), fun i p hp => by rw [HSN.out] at hp; simp at hp⟩, ?_⟩, fun e => by cases e⟩
      rw [HSN.out]
      exact World.ownsRow_nil _ _ _ _
end Go.Proofs.YtoilgjlbpimcpaaDoor
