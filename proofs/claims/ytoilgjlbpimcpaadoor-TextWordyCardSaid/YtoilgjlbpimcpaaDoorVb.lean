/- The checks of the other program, what it answers, its pads and fitted strings. -/
import Derived.Test.YtoilgjlbpimcpaaDoorVa
import Derived.Test.YtoilgjlbpimcpaaDoorVl
namespace Go.Proofs.YtoilgjlbpimcpaaDoor
open Go.RowKit Go.Shelf Tx
set_option linter.unusedVariables false
set_option maxRecDepth 100000

/-- What the other program answers: a string and an error, as one struct. -/
def GivesA (w : World) (r : Res) (e : Ending) (w' : World) : Prop := ∃ t, e = .returned (.agg #[.string t, .int .i64 r.2]) ∧ Hid (bts t = r.1) ∧ Below w.heap.size w w'
theorem givesA {w w' : World} {r : Res} {l : List UInt8} {t : ByteArray} {k : Int} (hr : r = (l, k)) (ht : bts t = l) (hb : Below w.heap.size w w') : GivesA w r (.returned (.agg #[.string t, .int .i64 k])) w' := by
  subst hr; exact ⟨t, rfl, Lib.hid ht, hb⟩

/-- The block of an answer, as it is laid. -/
def Sb (w : World) (b : Nat) : Prop := w.heap[b]? = some (.cells #[.string ⟨#[]⟩, .int .i64 0] 31)
theorem Sb.facts {w : World} {b : Nat} (h : Sb w b) : w.cell? ⟨b, 0, none⟩ = some (.string ⟨#[]⟩) ∧ w.cell? ⟨b, 1, none⟩ = some (.int .i64 0) ∧ w.frozen? ⟨b, 0, none⟩ = false ∧ w.frozen? ⟨b, 1, none⟩ = false := by
  unfold Sb at h
  refine ⟨?_, ?_, ?_, ?_⟩ <;> simp [World.cell?, World.frozen?, h]
theorem Sb.new (w : World) : Sb (w.alloc (.cells #[.string ⟨#[]⟩, .int .i64 0] 31)) w.heap.size := heap_alloc_new w _
theorem Sb.below {w w' : World} {b B : Nat} (h : Sb w b) (hb : Below B w w') (hB : b < B) : Sb w' b := (hb.block b hB).trans h
theorem sb_b {w W : World} (hb : Below w.heap.size w W) (x y : Value) : Below w.heap.size w ((W.setCell ⟨w.heap.size, 0, none⟩ x).setCell ⟨w.heap.size, 1, none⟩ y) :=
  (hb.setCell (p := ⟨w.heap.size, 0, none⟩) (Nat.le_refl _) _).setCell (p := ⟨w.heap.size, 1, none⟩) (Nat.le_refl _) _
/-- Behind block w.heap.size, which holds the answer, new memory alone has changed. -/
def SbB (w W : World) : Prop := Below (w.heap.size + 1) (w.alloc (.cells #[.string ⟨#[]⟩, .int .i64 0] 31)) W
theorem sbB_new (w : World) : SbB w (w.alloc (.cells #[.string ⟨#[]⟩, .int .i64 0] 31)) := Below.refl _ _
theorem SbB.le {w W : World} (h : SbB w W) : w.heap.size + 1 ≤ W.heap.size := by have := h.size; simpa using this
theorem SbB.step {w W W' : World} (h : SbB w W) (hb : Below W.heap.size W W') : SbB w W' := h.trans (hb.mono h.le)
theorem SbB.low {w W W' : World} {B : Nat} (h : SbB w W) (hb : Below B W W') (hB : w.heap.size + 1 ≤ B) : SbB w W' := h.trans (hb.mono hB)
theorem SbB.grown {w W W' : World} {r : Option Nat} (h : SbB w W) (hg : W.grownBy W' r) (hr : ∀ k, r = some k → w.heap.size + 1 ≤ k) : SbB w W' := Below.grown h hg h.le hr
theorem SbB.facts {w W : World} (h : SbB w W) : W.cell? ⟨w.heap.size, 0, none⟩ = some (.string ⟨#[]⟩) ∧ W.cell? ⟨w.heap.size, 1, none⟩ = some (.int .i64 0) ∧ W.frozen? ⟨w.heap.size, 0, none⟩ = false ∧ W.frozen? ⟨w.heap.size, 1, none⟩ = false :=
  ((Sb.new w).below h (Nat.lt_succ_self _)).facts
theorem SbB.fin {w W : World} (h : SbB w W) (x y : Value) : Below w.heap.size w ((W.setCell ⟨w.heap.size, 0, none⟩ x).setCell ⟨w.heap.size, 1, none⟩ y) :=
  sb_b (((Below.refl _ w).alloc (Nat.le_refl _) _).trans (h.mono (Nat.le_succ _))) x y
theorem sbB_size (w : World) : (w.alloc (.cells #[.string ⟨#[]⟩, .int .i64 0] 31)).heap.size = w.heap.size + 1 := by simp
theorem sb_0 (w : World) : Below w.heap.size w (w.alloc (.cells #[.string ⟨#[]⟩, .int .i64 0] 31)) := (Below.refl _ w).alloc (Nat.le_refl _) _

set_option maxHeartbeats 400000 in
theorem RPad_any (x : Int) (w : World) :
    Calls Tryd.prog 107 #[.int .u8 x] w fun e w' => e = .returned (.bool (padI x)) ∧ w = w' := by
  rcases padI_cases x with ⟨h1, h2⟩ | ⟨h1, h2⟩ | ⟨h1, h1', h2⟩ <;> have H := Lib.hid h2 <;> clear h2
  · go_enter Tryd.func107, Tryd.ntmps107
    go_wp2
    go_ret
    exact ⟨ret_b (by rw [H.out]; first | done | (simp; done) | (simp; omega)), rfl⟩
  · have h0 : 32 ≤ x := by omega
    go_enter Tryd.func107, Tryd.ntmps107
    go_wp2
    go_ret
    exact ⟨ret_b (by rw [H.out]; first | done | (simp; done) | (simp; omega)), rfl⟩
  · go_enter Tryd.func107, Tryd.ntmps107
    go_wp2
    go_ret
    exact ⟨ret_b (by rw [H.out]; first | done | (simp; done) | (simp; omega)), rfl⟩

set_option maxHeartbeats 400000 in
theorem Rwhole0_any (n m : Int) (w : World) :
    Calls Tryd.prog 106 #[.int .i64 n, .int .i64 m, .bool false] w fun e w' => e = .returned (.bool (decide (m ≤ n))) ∧ w = w' := by
  by_cases h : m ≤ n
  · have H := Lib.hid h
    go_enter Tryd.func106, Tryd.ntmps106
    go_wp2
    go_ret
    exact ⟨ret_b (by simp [H.out]), rfl⟩
  · have H := Lib.hid h
    go_enter Tryd.func106, Tryd.ntmps106
    go_wp2
    go_ret
    exact ⟨ret_b (by simp; have := H.out; omega), rfl⟩
set_option maxHeartbeats 400000 in
theorem Rwhole1_any (n m : Int) (w : World) :
    Calls Tryd.prog 106 #[.int .i64 n, .int .i64 m, .bool true] w fun e w' => e = .returned (.bool (decide (n = -1) || decide (m ≤ n))) ∧ w = w' := by
  by_cases h : m ≤ n
  · have H := Lib.hid h
    go_enter Tryd.func106, Tryd.ntmps106
    go_wp2
    go_ret
    exact ⟨ret_b (by simp [H.out]), rfl⟩
  · have H := Lib.hid h
    go_enter Tryd.func106, Tryd.ntmps106
    go_wp2
    go_ret
    exact ⟨ret_b (by rw [decide_eq_false (show ¬ m ≤ n by have := H.out; omega), Bool.or_false]; by_cases q : n = -1 <;> simp [q]), rfl⟩

set_option maxHeartbeats 400000 in
theorem RValid_any (s : ByteArray) (w : World) (hs : s.size ≤ maxLen) :
    Calls Tryd.prog 32 #[.string s] w fun e w' => e = .returned (.bool (validL (bts s))) ∧ w = w' := by
  unfold maxLen at hs
  by_cases h : s.size ≤ 1000
  · have HR := Lib.hid (show validL (bts s) = cleanL (bts s) by unfold validL; rw [bts_length]; simp [h])
    go_enter Tryd.func32, Tryd.ntmps32
    go_wp2
    go_loop [3] (fun i => ∃ k : Nat, i = .int .i64 k ∧ k ≤ s.size ∧ Hid (cleanL ((bts s).take k) = true)) (fun i => s.size - (intOf i).toNat)
    case atStart => exact ⟨0, rfl, Nat.zero_le _, Lib.hid rfl⟩
    case round =>
      obtain ⟨k, rfl, hk, ha⟩ := hrel
      by_cases hlt : k < s.size
      · have HG := Lib.hid (bts_get s hlt)
        have HY := Lib.hid (take_snoc (bts s) k _ HG.out)
        have KP := fun W => Lib.hid (RPad_any (s[k].toNat : Int) W)
        cases hp : padI (s[k].toNat : Int) with
        | true =>
          have HP := Lib.hid hp
          rw [hp] at KP
          clear hp
          go_wp2_with (go_at_call 107; refine Calls.mono (KP _).out ?_; rintro e w' ⟨rfl, rfl⟩)
          go_round
          case rel => exact ⟨k + 1, by go_num, by omega, Lib.hid (by rw [HY.out, cleanL_snoc, ha.out, HP.out]; rfl)⟩
          case measure => simp [intOf]; omega
        | false =>
          have HC := Lib.hid (cleanL_at HG.out hp)
          rw [hp] at KP
          clear hp
          go_wp2_with (go_at_call 107; refine Calls.mono (KP _).out ?_; rintro e w' ⟨rfl, rfl⟩)
          go_ret
          exact ⟨ret_b (by rw [HR.out]; exact HC.out.symm), rfl⟩
      · have HC := Lib.hid (show cleanL (bts s) = true by have := ha.out; rwa [List.take_of_length_le (by rw [bts_length]; omega)] at this)
        go_wp2
        go_ret
        exact ⟨ret_b (by rw [HR.out]; exact HC.out.symm), rfl⟩
  · have HR := Lib.hid (show validL (bts s) = false by unfold validL; rw [bts_length]; simp [h])
    go_enter Tryd.func32, Tryd.ntmps32
    go_wp2
    go_ret
    exact ⟨ret_b HR.out.symm, rfl⟩

set_option maxHeartbeats 1000000 in
/-- The check of an answer. -/
theorem Rout_any (v : Value) (l : List UInt8) (w : World) (h : Rd w v l) (hl : l.length ≤ 1000000000) :
    Calls Tryd.prog 108 #[v] w (GivesA w (outR l)) := by
  have h := h.alloc (.cells #[.string ⟨#[]⟩, .int .i64 0] 31)
  obtain ⟨t, hconv, ht⟩ := conv_rd h
  have HT := Lib.hid ht
  clear ht
  rcases h with ⟨rfl, rfl⟩ | ⟨g, cap, rfl, h3, h7⟩
  · have HR := Lib.hid (show outR [] = ([], 0) by decide)
    go_enter Tryd.func108, Tryd.ntmps108
    go_wp2
    go_loop [3] (fun i => i = .int .i64 0) (fun i => 0)
    case atStart => rfl
    case round =>
      obtain rfl := hrel
      go_wp2
      refine bodyPost_ret (v := .agg #[.string t, .int .i64 0]) (by simp [results, Tryd.results108, go_sem]) rfl ?_
      exact givesA HR.out HT.out ((Below.refl _ w).alloc (Nat.le_refl _) _)
  · have H7 := Lib.hid h7
    obtain ⟨n, hn⟩ : ∃ n, n = l.length := ⟨_, rfl⟩
    have HN := Lib.hid hn
    rw [← hn] at hconv hl ⊢
    clear h7 h3 hn
    by_cases hlong : 1000 < n
    · have HR := Lib.hid (show outR l = ([], 3) from outR_long (by rw [← HN.out]; exact hlong))
      go_enter Tryd.func108, Tryd.ntmps108
      go_wp2
      refine bodyPost_ret (v := .agg #[.string ⟨#[]⟩, .int .i64 3]) (by simp [results, Tryd.results108, go_sem]) rfl ?_
      exact givesA HR.out rfl ((Below.refl _ w).alloc (Nat.le_refl _) _)
    · have HO := Lib.hid (show outR l = cleanR l by unfold outR; rw [if_neg (by rw [← HN.out]; omega)])
      go_enter Tryd.func108, Tryd.ntmps108
      go_wp2
      go_loop [3] (fun i => ∃ k : Nat, i = .int .i64 k ∧ k ≤ n ∧ Hid (cleanL (l.take k) = true)) (fun i => n - (intOf i).toNat)
      case atStart => exact ⟨0, rfl, Nat.zero_le _, Lib.hid rfl⟩
      case round =>
        obtain ⟨k, rfl, hk, ha⟩ := hrel
        by_cases hlt : k < n
        · obtain ⟨y, hy⟩ : ∃ y, l[k]? = some y := ⟨_, List.getElem?_eq_getElem (by rw [← HN.out]; exact hlt)⟩
          have c1 := H7.out k y hy
          unfold u8v at c1
          have HG := Lib.hid hy
          have HY := Lib.hid (take_snoc l k _ HG.out)
          clear hy
          have KP := fun W => Lib.hid (RPad_any (y.toNat : Int) W)
          cases hp : padI (y.toNat : Int) with
          | true =>
            have HP := Lib.hid hp
            rw [hp] at KP
            clear hp
            go_wp2_with (go_at_call 107; refine Calls.mono (KP _).out ?_; rintro e w' ⟨rfl, rfl⟩)
            go_round
            case rel => exact ⟨k + 1, by go_num, by omega, Lib.hid (by rw [HY.out, cleanL_snoc, ha.out, HP.out]; rfl)⟩
            case measure => simp [intOf]; omega
          | false =>
            have HR := Lib.hid (show outR l = ([], 8) by rw [HO.out]; unfold cleanR; rw [cleanL_at HG.out hp]; rfl)
            rw [hp] at KP
            clear hp
            go_wp2_with (go_at_call 107; refine Calls.mono (KP _).out ?_; rintro e w' ⟨rfl, rfl⟩)
            refine bodyPost_ret (v := .agg #[.string ⟨#[]⟩, .int .i64 8]) (by simp [results, Tryd.results108, go_sem]) rfl ?_
            exact givesA HR.out rfl ((Below.refl _ w).alloc (Nat.le_refl _) _)
        · have HR := Lib.hid (show outR l = (l, 0) by rw [HO.out]; exact cleanR_ok (by have := ha.out; rwa [List.take_of_length_le (by rw [← HN.out]; omega)] at this))
          go_wp2
          refine bodyPost_ret (v := .agg #[.string t, .int .i64 0]) (by simp [results, Tryd.results108, go_sem]) rfl ?_
          exact givesA HR.out HT.out ((Below.refl _ w).alloc (Nat.le_refl _) _)

set_option maxHeartbeats 1000000 in
/-- n pads behind a row of bytes. -/
theorem Rpads_any (B : Nat) (v : Value) (l : List UInt8) (n : Nat) (c : UInt8) (w : World) (h : Br w B v l) (hB : B ≤ w.heap.size) (hl : l.length + n ≤ 100000000) :
    Calls Tryd.prog 110 #[v, .int .i64 n, .int .u8 (c.toNat : Int)] w fun e w' => ∃ v', e = .returned v' ∧ Hid (Br w' B v' (l ++ List.replicate n c)) ∧ Below B w w' := by
  have H := Lib.hid h
  clear h
  go_enter Tryd.func110, Tryd.ntmps110
  go_wp2
  go_loopw [0, 7] (fun v i wr => ∃ k : Nat, i = .int .i64 k ∧ k ≤ n ∧ Hid (Br wr B v (l ++ List.replicate k c)) ∧ Hid (Below B w wr)) (fun _ i _ => n - (intOf i).toNat)
  case atStart => exact ⟨0, rfl, Nat.zero_le _, Lib.hid (by rw [List.replicate_zero, List.append_nil]; exact H.out), Lib.hid (Below.refl _ _)⟩
  case round =>
    obtain ⟨k, rfl, hk, hbr, hb⟩ := hrel
    by_cases hlt : k < n
    · have hsz := Nat.le_trans hB hb.out.size
      go_wp2_with (at_builtin; refine wpList_br rfl _ _ 89 rfl B _ (.slice (some ⟨wr.heap.size, 0, none⟩) 1 1) (l ++ List.replicate k c) [c] rfl rfl (hbr.out.alloc _) (src_cell (by simp [u8v])) (by simp; omega) (by simp; omega) ?_; intro v' w4 hbr' hgrow; have HBR := Lib.hid (br_snoc hbr'); have HB4 := Lib.hid ((hb.out.alloc hsz _).grown hgrow (by simp; omega) hbr.out.own); clear hbr' hgrow)
      go_roundw
      case rel => exact ⟨k + 1, by go_num, by omega, HBR, HB4⟩
      case measure => simp [intOf]; omega
    · obtain rfl : k = n := by omega
      go_wp2
      go_ret
      exact ⟨_, rfl, hbr, hb.out⟩

set_option maxHeartbeats 1000000 in
theorem Rfit_any (s : ByteArray) (n : Nat) (c : UInt8) (w : World) (hs : s.size ≤ 1000) (hn : n ≤ 9223372036854775807) :
    Calls Tryd.prog 109 #[.string s, .int .i64 n, .int .u8 (c.toNat : Int)] w fun e w' => ∃ v, e = .returned v ∧ Hid (Br w' w.heap.size v (rfit (bts s) n c)) ∧ Below w.heap.size w w' := by
  by_cases h : n ≤ s.size
  · obtain ⟨v, w1, hconv, hbr, hb⟩ := conv_to_br (s.extract 0 n) w (by simp [ByteArray.size_extract]; omega)
    have HB := Lib.hid hb
    have HBR := Lib.hid (show Br w1 w.heap.size v (rfit (bts s) n c) by
      unfold rfit
      rw [if_pos (by rw [bts_length]; exact h)]
      rw [bts_extract] at hbr
      simpa using hbr)
    clear hb hbr
    go_enter Tryd.func109, Tryd.ntmps109
    go_wp2
    go_ret
    exact ⟨_, rfl, HBR, HB.out⟩
  · obtain ⟨v, w1, hconv, hbr, hb⟩ := conv_to_br s w (by omega)
    have HB := Lib.hid hb
    have KP := Lib.hid (Rpads_any w.heap.size v (bts s) (min n 1001 - s.size) c w1 hbr hb.size (by rw [bts_length]; omega))
    rw [show ((min n 1001 - s.size : Nat) : Int) = min (n : Int) 1001 - (s.size : Int) by omega] at KP
    have HRR := Lib.hid (show bts s ++ List.replicate (min n 1001 - s.size) c = rfit (bts s) n c by unfold rfit; rw [bts_length, if_neg h])
    clear hb hbr
    go_enter Tryd.func109, Tryd.ntmps109
    go_wp2_with (go_at_call 110; refine Calls.mono KP.out ?_; rintro e w2 ⟨v2, rfl, hbr2, hb2⟩)
    go_ret
    exact ⟨_, rfl, Lib.hid (by rw [← HRR.out]; exact hbr2.out), HB.out.trans hb2⟩
end Go.Proofs.YtoilgjlbpimcpaaDoor
