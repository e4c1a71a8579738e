/- Fields, padded and joined. -/
import Derived.Test.YtmjifmlibgpjiaaGreatDoorDa
import Derived.Test.YtmjifmlibgpjiaaGreatDoorCe
namespace Go.Proofs.YtmjifmlibgpjiaaGreatDoor
open Go.RowKit Go.Shelf Tx
set_option linter.unusedVariables false
set_option maxRecDepth 100000

/-- The fields lie in a row. -/
def FieldsAt (w : World) (p : Nat) (fs : List (Nat × Nat)) : Prop := ∀ (j : Nat) (f : Nat × Nat), fs[j]? = some f → w.cell? ⟨p, j * 2, none⟩ = some (.int .i64 (f.1 : Int)) ∧ w.cell? ⟨p, j * 2 + 1, none⟩ = some (.int .i64 (f.2 : Int))
theorem FieldsAt.below {w w' : World} {p : Nat} {fs : List (Nat × Nat)} (h : FieldsAt w p fs) {n : Nat} (hb : Below n w w') (hp : p < n) : FieldsAt w' p fs := fun j f hf =>
  ⟨(hb.cell (p := ⟨p, j * 2, none⟩) hp).trans (h j f hf).1, (hb.cell (p := ⟨p, j * 2 + 1, none⟩) hp).trans (h j f hf).2⟩
theorem mk_strs (n : Nat) (h1 : 1 ≤ n) (h3 : n ≤ 3) (w : World) : (Instr.makeSlice 106 (.int .i64 (n : Int)) (.int .i64 (n : Int))).run Tryz.prog w = .ok (.slice (some ⟨w.heap.size, 0, none⟩) n n) (w.alloc (.cells (Array.replicate n (.string ⟨#[]⟩)) 9)) := by
  rcases (show n = 1 ∨ n = 2 ∨ n = 3 by omega) with e | e | e <;> subst e <;> first | rfl | kernel_rfl | (simp [go_sem]; rfl)
/-- The texts that have come, and the rest of the row. -/
def textsC (ts : List ByteArray) (n : Nat) : Array Value := (ts.map Value.string ++ List.replicate (n - ts.length) (Value.string ⟨#[]⟩)).toArray
theorem textsC_snoc (ts : List ByteArray) (t : ByteArray) (n : Nat) (h : ts.length < n) : (textsC ts n).setIfInBounds ts.length (.string t) = textsC (ts ++ [t]) n := by
  unfold textsC
  rw [List.setIfInBounds_toArray]
  congr 1
  rw [List.set_append_right _ _ (by simp)]
  simp only [List.length_map, Nat.sub_self, List.map_append, List.map_cons, List.map_nil, List.length_append, List.length_cons, List.length_nil]
  rw [show n - ts.length = (n - (ts.length + 1)) + 1 by omega, List.replicate_succ, List.set_cons_zero]
  simp
theorem textsC_get (ts : List ByteArray) (n j : Nat) (t : ByteArray) (h : ts[j]? = some t) : (textsC ts n)[j]? = some (.string t) := by
  unfold textsC
  rw [List.getElem?_toArray, List.getElem?_append_left (by have := (List.getElem?_eq_some_iff.1 h).1; simpa using this), List.getElem?_map, h]; rfl
theorem joinTail_len (s : List UInt8) (m : Nat) : ∀ l : List (List UInt8), (∀ x ∈ l, x.length ≤ m) → (Lib.joinTail s l).length ≤ l.length * (m + s.length)
  | [], _ => by simp [Lib.joinTail]
  | x :: l, h => by
    have h1 := joinTail_len s m l (fun y hy => h y (List.mem_cons_of_mem _ hy))
    have h2 := h x (by simp)
    unfold Lib.joinTail at h1 ⊢
    simp only [List.map_cons, List.flatten_cons, List.length_append, List.length_cons]
    rw [Nat.add_mul]
    omega
theorem join_len (s : List UInt8) (m : Nat) (l : List (List UInt8)) (h : ∀ x ∈ l, x.length ≤ m) : (Lib.join l s).length ≤ l.length * (m + s.length) := by
  cases l with
  | nil => simp [Lib.join_nil]
  | cons x l =>
    rw [Lib.join_cons, List.length_append, List.length_cons, Nat.add_mul]
    have h1 := joinTail_len s m l (fun y hy => h y (List.mem_cons_of_mem _ hy))
    have h2 := h x (by simp)
    omega
namespace Tx
def fldL (f : Nat × Nat) : List UInt8 := padd f.1 f.2
end Tx
set_option maxHeartbeats 4000000 in
theorem joined_any (sep : ByteArray) (p : Nat) (fs : List (Nat × Nat)) (w : World) (hl1 : 1 ≤ fs.length) (hl3 : fs.length ≤ 3) (hv : ∀ f ∈ fs, f.1 < 10 ^ 19 ∧ f.1 ≤ 9223372036854775807 ∧ f.2 ≤ 100) (hsep : sep.size ≤ 100) (hc : FieldsAt w p fs) (hp : p < w.heap.size) (hE : Env w) :
    Calls Tryz.prog 79 #[.string sep, .slice (some ⟨p, 0, none⟩) fs.length fs.length] w fun e w' => ∃ t : ByteArray, e = .returned (.string t) ∧ Hid (bts t = Lib.join (fs.map fldL) (bts sep)) ∧ Below w.heap.size w w' := by
  have hmk := mk_strs fs.length hl1 hl3
  obtain ⟨n, hn⟩ : ∃ n, n = fs.length := ⟨_, rfl⟩
  have HN := Lib.hid hn
  rw [← hn] at hl1 hl3 hmk ⊢
  have HC := Lib.hid hc
  have HV := Lib.hid hv
  have HE := Lib.hid hE
  clear hc hv hn hE
  go_enter Tryz.func79, Tryz.ntmps79
  go_wp2
  go_loopw [14] (fun v wr => ∃ (k : Nat) (ts : List ByteArray), v = .int .i64 (k : Int) ∧ k ≤ n ∧ Hid (ts.length = k ∧ ts.map bts = (fs.take k).map fldL) ∧ Hid (BoxC wr w.heap.size 9 (textsC ts n)) ∧ Hid (Below w.heap.size w wr)) (fun v _ => n - (intOf v).toNat)
  case atStart => exact ⟨0, [], rfl, Nat.zero_le _, Lib.hid ⟨rfl, rfl⟩, Lib.hid (by have := BoxC.new w 9 (textsC [] n); simpa [textsC] using this), Lib.hid (Bl.alloc (Below.refl _ w) _)⟩
  case round =>
    obtain ⟨k, ts, rfl, hk, hts, hbx, hbl⟩ := hrel
    by_cases hlt : k < n
    · obtain ⟨f, hf⟩ : ∃ f, fs[k]? = some f := ⟨_, List.getElem?_eq_getElem (by rw [← HN.out]; exact hlt)⟩
      obtain ⟨v, wd⟩ := f
      have hfc := HC.out.below hbl.out hp k _ hf
      have c1 := hfc.1
      have c2 := hfc.2
      dsimp only at c1 c2
      have hvv := HV.out _ (List.mem_of_getElem? hf)
      dsimp only at hvv
      have hdl : (Lib.decDigits v).length ≤ 19 := dd_len (k := 18) hvv.1
      have KI := fun W hW => Lib.hid (itoa_any v W hvv.2.1 hW)
      have HF := Lib.hid hf
      have hsz : w.heap.size < wr.heap.size := hbx.out.lt
      have hgk : (textsC ts n)[k]? = some (.string ⟨#[]⟩) := by
        unfold textsC
        rw [List.getElem?_toArray, List.getElem?_append_right (by rw [List.length_map, hts.out.1]; exact Nat.le_refl _), List.length_map, hts.out.1, Nat.sub_self, show n - k = (n - k - 1) + 1 by omega, List.replicate_succ]; rfl
      obtain ⟨len, hlen⟩ : ∃ len, len = (Lib.decDigits v).length := ⟨_, rfl⟩
      rw [← hlen] at hdl
      have HLEN := Lib.hid hlen
      have HWD := Lib.hid hvv.2.2
      have hii : ((k : Int) * 2).toNat = k * 2 := by omega
      by_cases hlw : len < wd
      · have HL := Lib.hid (show wd - (Lib.decDigits v).length = wd - len by rw [hlen])
        have KZ := fun W => Lib.hid (zeros_any (wd - len) W (by omega))
        have m1 : IntKind.i64.wrap ((wd : Int) - (len : Int)) = ((wd - len : Nat) : Int) := by rw [show (wd : Int) - (len : Int) = ((wd - len : Nat) : Int) by omega]; exact IntWalk.i64_in _ (by omega)
        have m2 : max (0 : Int) ((wd - len : Nat) : Int) = ((wd - len : Nat) : Int) := by omega
        have HLW := Lib.hid hlw
        clear hf hvv hlw hlen
        go_wp2_with (first
          | (go_at_call 121; refine Calls.mono (KI _ (HE.out.below (Bl.alloc hbl.out _))).out ?_; rintro e w5 ⟨t, rfl, ht, hb5⟩; have hts5 : t.size = len := (by rw [← bts_length, ht.out, HLEN.out]); have bx5 := (hbx.out.alloc (.cells #[.int .i64 (v : Int), .int .i64 (wd : Int)] 99)).below hb5 (by simp; omega); have bf5 := (BoxC.new wr 99 #[.int .i64 (v : Int), .int .i64 (wd : Int)]).below hb5 (by simp); have B5 := Lib.hid (Bl.step (Bl.alloc hbl.out _) hb5); have d1 := bf5.cell (i := 1) rfl; have HBX5 := Lib.hid bx5; clear bx5 bf5 hb5)
          | (go_at_call 122; with_reducible refine Calls.mono (KZ _).out ?_; rintro e w6 ⟨z, rfl, hz, hb6⟩; have bx6 := HBX5.out.below hb6 (by have := B5.out.size; have := HBX5.out.lt; omega); have B6 := Lib.hid (Bl.step B5.out hb6); have e1 := bx6.cell hgk; have e2 := bx6.frozen k; have HBX6 := Lib.hid bx6; have hsz6 : ¬ 9223372036854775807 < z.size + t.size := (by have q := congrArg List.length hz.out; rw [bts_length, List.length_replicate] at q; have := HWD.out; omega); clear bx6 hb6))
        go_roundw
        case rel =>
          refine ⟨k + 1, ts ++ [z ++ t], by go_num, by omega, Lib.hid ⟨by rw [List.length_append, hts.out.1]; rfl, ?_⟩, Lib.hid ?_, Lib.hid (B6.out.setCell (p := ⟨w.heap.size, k, none⟩) (by simp) _)⟩
          · rw [List.map_append, hts.out.2, List.take_add_one, HF.out]
            simp only [List.map_cons, List.map_nil, List.map_append, Option.toList]
            rw [bts_append, hz.out, ht.out]
            unfold fldL padd
            dsimp only
            rw [HL.out]
          · have q := textsC_snoc ts (z ++ t) n (by rw [hts.out.1]; exact hlt)
            rw [hts.out.1] at q
            rw [← q]
            exact HBX6.out.set k _
        case measure => simp [intOf]; omega
      · have HL := Lib.hid (show wd - (Lib.decDigits v).length = 0 by rw [← hlen]; omega)
        have KZ : ∀ W : World, Hid (Calls Tryz.prog 122 #[.string ⟨#[48]⟩, .int .i64 0] W fun e w' => ∃ t : ByteArray, e = .returned (.string t) ∧ Hid (bts t = List.replicate 0 48) ∧ Below W.heap.size W w') := fun W => Lib.hid (zeros_any 0 W (by omega))
        have m1 : IntKind.i64.wrap ((wd : Int) - (len : Int)) = (wd : Int) - (len : Int) := IntWalk.i64_in _ (by omega)
        have m2 : max (0 : Int) ((wd : Int) - (len : Int)) = 0 := by omega
        clear hf hvv hlen
        go_wp2_with (first
          | (go_at_call 121; refine Calls.mono (KI _ (HE.out.below (Bl.alloc hbl.out _))).out ?_; rintro e w5 ⟨t, rfl, ht, hb5⟩; have hts5 : t.size = len := (by rw [← bts_length, ht.out, HLEN.out]); have bx5 := (hbx.out.alloc (.cells #[.int .i64 (v : Int), .int .i64 (wd : Int)] 99)).below hb5 (by simp; omega); have bf5 := (BoxC.new wr 99 #[.int .i64 (v : Int), .int .i64 (wd : Int)]).below hb5 (by simp); have B5 := Lib.hid (Bl.step (Bl.alloc hbl.out _) hb5); have d1 := bf5.cell (i := 1) rfl; have HBX5 := Lib.hid bx5; clear bx5 bf5 hb5)
          | (go_at_call 122; with_reducible refine Calls.mono (KZ _).out ?_; rintro e w6 ⟨z, rfl, hz, hb6⟩; have bx6 := HBX5.out.below hb6 (by have := B5.out.size; have := HBX5.out.lt; omega); have B6 := Lib.hid (Bl.step B5.out hb6); have e1 := bx6.cell hgk; have e2 := bx6.frozen k; have HBX6 := Lib.hid bx6; have hsz6 : ¬ 9223372036854775807 < z.size + t.size := (by have q := congrArg List.length hz.out; rw [bts_length, List.length_replicate] at q; have := HWD.out; omega); clear bx6 hb6))
        go_roundw
        case rel =>
          refine ⟨k + 1, ts ++ [z ++ t], by go_num, by omega, Lib.hid ⟨by rw [List.length_append, hts.out.1]; rfl, ?_⟩, Lib.hid ?_, Lib.hid (B6.out.setCell (p := ⟨w.heap.size, k, none⟩) (by simp) _)⟩
          · rw [List.map_append, hts.out.2, List.take_add_one, HF.out]
            simp only [List.map_cons, List.map_nil, List.map_append, Option.toList]
            rw [bts_append, hz.out, ht.out]
            unfold fldL padd
            dsimp only
            rw [HL.out]
          · have q := textsC_snoc ts (z ++ t) n (by rw [hts.out.1]; exact hlt)
            rw [hts.out.1] at q
            rw [← q]
            exact HBX6.out.set k _
        case measure => simp [intOf]; omega
    · obtain rfl : k = n := by omega
      have hlen' : ts.length = fs.length := by rw [hts.out.1]; exact HN.out
      have KJ := fun (W : World) (hb : BoxC W w.heap.size 9 (textsC ts k)) => Lib.hid (Tryz.strings_Join w.heap.size 0 k ts sep W (fun j x hx => by rw [Nat.zero_add]; exact hb.cell (textsC_get ts k j x hx)) hb.lt (by rw [hts.out.1]; omega) (by rw [hts.out.1]; exact Nat.le_refl _) (by
        show (Lib.join (ts.map bts) (bts sep)).length ≤ _
        have q := hts.out.2
        rw [HN.out, List.take_length] at q
        rw [q]
        have hj := join_len (bts sep) 119 (fs.map fldL) (fun x hx => by
          obtain ⟨f, hf, rfl⟩ := List.mem_map.1 hx
          have h1 := HV.out f hf
          have h2 : (Lib.decDigits f.1).length ≤ 19 := dd_len (k := 18) h1.1
          unfold fldL; rw [padd_len]; omega)
        rw [List.length_map, bts_length] at hj
        have h3 : fs.length ≤ 3 := by rw [← HN.out]; exact hl3
        have h4 : fs.length * (119 + sep.size) ≤ 3 * (119 + 100) := Nat.mul_le_mul h3 (by omega)
        omega))
      rw [hts.out.1] at KJ
      go_wp2_with (first
        | (go_at_call 123; with_reducible refine Calls.mono (KJ _ hbx.out).out ?_; rintro e w7 ⟨rfl, hb7⟩))
      go_ret
      refine ⟨_, rfl, Lib.hid ?_, Bl.step hbl.out hb7⟩
      rw [bts_mk]
      have q := hts.out.2
      rw [HN.out, List.take_length] at q
      show Lib.join (ts.map bts) (bts sep) = _
      rw [q]
end Go.Proofs.YtmjifmlibgpjiaaGreatDoor
