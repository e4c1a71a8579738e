/- The other program's C2X. -/
import Derived.Test.YtoilgjlbpimcpaaDoorYc
import Derived.Test.YtoilgjlbpimcpaaDoorVb
import Derived.Deep.RegionLaw
namespace Go.Proofs.YtoilgjlbpimcpaaDoor
open Go.RowKit Go.Shelf Tx
set_option linter.unusedVariables false
set_option maxRecDepth 100000

/-- append onto a row of bytes, as a step of a region that draws its order. -/
theorem step_br {ops : Array Oper} {o : Oper} {a : Act} {w : World} {K : Act → World → Prop} {Q : Exit → Act → World → Prop} {E : Prop} (hgd : o.guard = none) (s x : Operand) (tx : TypeId)
    (ho : o.op = .call { callee := .builtin .append, args := #[s, x], argTypes := #[89, tx] })
    (B : Nat) (v y : Value) (l m : List UInt8) (hv : a.eval s = v) (hx : a.eval x = y) (h : Br w B v l) (hs : Src Tryd.prog 1 tx y m.length (m.map u8v) w) (hl : l.length + m.length ≤ 1000000000) (hB : B ≤ w.heap.size)
    (hk : ∀ v' w', Br w' B v' (l ++ m) → w.grownBy w' v.ownBlock → K (a.put o.dst v') w') : if Region.wanted o (yielded ops a.tmps) = true then Oper.wp Tryd.prog o a w K Q else E := by
  have hw : Region.wanted o (yielded ops a.tmps) = true := by simp [Region.wanted, hgd]
  rw [if_pos hw]
  obtain ⟨v', w', hr, h2, h3⟩ := run_br h tx o.type y m hs hl hB
  unfold Oper.wp
  simp [execOp, ho, resolve, invoke, builtin, hv, hx, hr]
  exact hk v' w' h2 h3
theorem src_two {w : World} {p : Nat} {x y : UInt8} (h0 : w.cell? ⟨p, 0, none⟩ = some (u8v x)) (h1 : w.cell? ⟨p, 1, none⟩ = some (u8v y)) : Src Tryd.prog 1 89 (.slice (some ⟨p, 0, none⟩) 2 2) [x, y].length ([x, y].map u8v) w :=
  Src.ofSlice w Tryd.underlying89 ⟨p, 0, none⟩ 2 2 [u8v x, u8v y] (by simp) (fun j u hj => by
    match j, hj with
    | 0, hj => simp at hj; subst hj; simpa [Addr.add] using h0
    | 1, hj => simp at hj; subst hj; simpa [Addr.add] using h1) (by intro u hu; simp at hu; rcases hu with rfl | rfl <;> rfl)
namespace Tx
theorem split2_snoc {l : List UInt8} {k : Nat} {x : UInt8} (h : l[k]? = some x) : (splitL (l.take (k + 1)) 2 16).map hexB = (splitL (l.take k) 2 16).map hexB ++ [hexB (x / 16), hexB (x % 16)] := by
  have app : ∀ a b : List UInt8, splitL (a ++ b) 2 16 = splitL a 2 16 ++ splitL b 2 16 := by
    intro a
    induction a with
    | nil => intro b; rfl
    | cons y a ih => intro b; simp [splitL, ih]
  rw [take_snoc l k x h, app, List.map_append]
  congr 1
  have : digs x 2 16 = [x / 16 % 16, x % 16] := rfl
  unfold splitL splitL
  rw [this]
  have e : x / 16 % 16 = x / 16 := by
    apply UInt8.toNat_inj.1
    rw [UInt8.toNat_mod, UInt8.toNat_div]
    have := x.toNat_lt
    show x.toNat / 16 % 16 = x.toNat / 16
    omega
  rw [e]
  rfl
theorem hexB_get : ∀ n : Fin 16, numB.data[n.val]? = some (hexB (UInt8.ofNat n.val)) := by decide +kernel
theorem num_get {q : UInt8} (h : q.toNat < 16) : numB[q.toNat]'(by exact h) = hexB q := by
  have h1 := hexB_get ⟨q.toNat, h⟩
  have e : UInt8.ofNat q.toNat = q := by simp
  simp only at h1
  rw [e] at h1
  exact (Array.getElem?_eq_some_iff.1 h1).2
theorem hexB_pad : ∀ n : Fin 16, padI ((hexB (UInt8.ofNat n.val)).toNat : Int) = true := by decide +kernel
theorem clean_hex {D : List UInt8} (h : ∀ c, c ∈ D → c.toNat < 16) : cleanL (D.map hexB) = true := by
  unfold cleanL
  rw [List.all_eq_true]
  intro c hc
  obtain ⟨x, hx, rfl⟩ := List.mem_map.1 hc
  have := hexB_pad ⟨x.toNat, h x hx⟩
  simpa using this
theorem c2x_out {l : List UInt8} (hv : validL l = true) : outR ((splitL l 2 16).map hexB) = c2xR l := by
  unfold c2xR
  rw [hv, if_pos rfl]
  have hl : ((splitL l 2 16).map hexB).length = 2 * l.length := by rw [List.length_map, splitL_length]; omega
  by_cases h : 1000 < 2 * l.length
  · rw [if_pos h, outR_long (by omega)]
  · rw [if_neg h, outR_ok (clean_hex (fun c hc => splitL_lt (b := 16) (by decide) hc)) (by omega)]
end Tx
set_option maxHeartbeats 4000000 in
theorem RC2X_any (s : ByteArray) (w : World) (hss : s.size ≤ maxLen) :
    Calls Tryd.prog 88 #[.string s] w (GivesA w (c2xR (bts s))) := by
  have KVs := fun (W : World) => Lib.hid (RValid_any s W hss)
  cases hv0 : validL (bts s) with
  | false =>
    rw [hv0] at KVs
    have HR := Lib.hid (show c2xR (bts s) = ([], 1) by unfold c2xR; simp only [hv0, Bool.and_false, Bool.false_and, Bool.true_and, Bool.and_true]; rfl)
    clear hv0
    go_enter Tryd.func88, Tryd.ntmps88
    go_wp2_with (first
      | (go_at_call 32; (with_reducible refine Calls.mono (KVs _).out ?_); rintro e w1 ⟨rfl, rfl⟩))
    refine bodyPost_ret (v := .agg #[.string ⟨#[]⟩, .int .i64 1]) (by simp [results, Tryd.results88, go_sem]) rfl ?_
    exact givesA HR.out rfl ((Below.refl _ w).alloc (Nat.le_refl _) _)
  | true =>
    rw [hv0] at KVs
    have hlen := valid_le hv0
    obtain ⟨⟨rl, rk⟩, hrr⟩ : ∃ r, c2xR (bts s) = r := ⟨_, rfl⟩
    have HRR := Lib.hid hrr
    have HR := Lib.hid (show outR ((splitL (bts s) 2 16).map hexB) = (rl, rk) by rw [← hrr]; exact c2x_out hv0)
    clear hss hv0 hrr
    go_enter Tryd.func88, Tryd.ntmps88
    go_wp2_with (first
      | (go_at_call 32; (with_reducible refine Calls.mono (KVs _).out ?_); rintro e w1 ⟨rfl, rfl⟩))
    go_loopw [3, 4] (fun v i wr => ∃ k : Nat, i = .int .i64 k ∧ k ≤ s.size ∧ Hid (Br wr (w.heap.size + 1) v ((splitL ((bts s).take k) 2 16).map hexB)) ∧ Hid (SbB w wr)) (fun _ i _ => s.size - (intOf i).toNat)
    case atStart => exact ⟨0, rfl, Nat.zero_le _, Lib.hid (Br.nil _ _), Lib.hid (sbB_new w)⟩
    case round =>
      obtain ⟨k, rfl, hk, hbr, hb⟩ := hrel
      by_cases hlt : k < s.size
      · have hg := bts_get s hlt
        have HSN := Lib.hid (split2_snoc hg)
        obtain ⟨x, hx⟩ : ∃ x, x = s[k] := ⟨_, rfl⟩
        have hxx : s[k] = x := hx.symm
        rw [← hx] at HSN
        have hLL : ((splitL ((bts s).take k) 2 16).map hexB).length ≤ 4000 := by rw [List.length_map, splitL_length, List.length_take, bts_length]; omega
        have HLL := Lib.hid hLL
        obtain ⟨q, hq⟩ : ∃ q, q = x / 16 := ⟨_, rfl⟩
        obtain ⟨r, hr⟩ : ∃ r, r = x % 16 := ⟨_, rfl⟩
        have hr1 : (x.toNat : Int) % 16 = (r.toNat : Int) := by rw [hr, UInt8.toNat_mod]; rfl
        have hr2 : (x.toNat : Int).tmod 16 = (r.toNat : Int) := by rw [Int.tmod_eq_emod_of_nonneg (by omega)]; exact hr1
        have hr3 : (x.toNat : Int) / 16 = (q.toNat : Int) := by rw [hq, UInt8.toNat_div]; rfl
        have hr4 : (x.toNat : Int).tdiv 16 = (q.toNat : Int) := by rw [Int.tdiv_eq_ediv_of_nonneg (by omega)]; exact hr3
        have hq16 : q.toNat < 16 := by have := x.toNat_lt; omega
        have hr16 : r.toNat < 16 := by omega
        have hqi : (q.toNat : Int) < 16 := by omega
        have hri : (r.toNat : Int) < 16 := by omega
        have hmix : Tryd.prog.follows .mixedOrders = true := by kernel_rfl
        rw [← hq, ← hr] at HSN
        have hwq : IntKind.u8.wrap (q.toNat : Int) = (q.toNat : Int) := by rw [IntKind.wrap_u8]; omega
        have hwr : IntKind.u8.wrap (r.toNat : Int) = (r.toNat : Int) := by rw [IntKind.wrap_u8]; omega
        have hnq := num_get hq16
        have hnr := num_get hr16
        unfold numB at hnq hnr
        clear hx hg hLL hq hr
        go_wp2
        go_region_law (refine step_br rfl _ _ 89 rfl (w.heap.size + 1) _ (.slice (some ⟨wr.heap.size, 0, none⟩) 2 2) ((splitL ((bts s).take k) 2 16).map hexB) [hexB q, hexB r] rfl rfl (hbr.out.drew.alloc _) (src_two (by simp [u8v]) (by simp [u8v])) (by have := HLL.out; simp only [List.length_cons, List.length_nil]; omega) (by have := hb.out.le; simp; omega) ?_; intro v' w4 hbr' hgrow; have HBR := Lib.hid hbr'; have HB4 := Lib.hid (SbB.grown (W := (wr.drew).alloc _) (hb.out.step ((Below.refl _ wr).drew.alloc (Nat.le_refl _) _)) hgrow hbr.out.own); clear hbr' hgrow)
        all_goals
          go_wp2
          go_roundw
          case rel => exact ⟨k + 1, by go_num, by omega, Lib.hid (by rw [HSN.out]; exact HBR.out), HB4⟩
          case measure => simp [intOf]; omega
      · obtain rfl : k = s.size := by omega
        have KO0 := Rout_any _ _ wr hbr.out.rd (by rw [List.length_map, splitL_length, List.length_take, bts_length]; omega)
        rw [List.take_of_length_le (by rw [bts_length]; exact Nat.le_refl _), HR.out] at KO0
        have KO := Lib.hid KO0
        clear KO0
        go_wp2_with (go_at_call 108; refine Calls.mono KO.out ?_; rintro e w8 ⟨t, rfl, ht, hb5⟩; have HB5 := Lib.hid (hb.out.step hb5); obtain ⟨p1, p2, f1, f2⟩ := HB5.out.facts; clear hb5)
        refine bodyPost_ret (v := .agg #[.string t, .int .i64 rk]) (by simp [results, Tryd.results88, go_sem, p1, p2]) rfl ?_
        rw [HRR.out]
        exact ⟨t, rfl, ht, HB5.out.fin _ _⟩
end Go.Proofs.YtoilgjlbpimcpaaDoor
