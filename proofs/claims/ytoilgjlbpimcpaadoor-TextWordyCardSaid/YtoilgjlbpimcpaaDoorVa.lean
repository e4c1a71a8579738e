/- Rows of bytes that are appended to: new ones, nil, or laid from a string. -/
import Derived.Test.YtoilgjlbpimcpaaDoorTv
import Derived.Test.YtoilgjlbpimcpaaDoorTs
import Derived.Deep.AppendSrc
import Derived.Laws.IdiomCopy
import Derived.Deep.Upon
namespace Go.Proofs.YtoilgjlbpimcpaaDoor
open Go.RowKit Go.Shelf Tx
set_option linter.unusedVariables false
set_option maxRecDepth 100000

/-- The slice v, of this call's own memory (from block B on), holds the bytes l, and may be written up to its capacity. -/
def Br (w : World) (B : Nat) (v : Value) (l : List UInt8) : Prop :=
  (v = .slice none 0 0 ∧ l = []) ∨
  ∃ g cap, v = .slice (some ⟨g, 0, none⟩) l.length cap ∧ B ≤ g ∧ g < w.heap.size ∧ l.length ≤ cap ∧ cap ≤ maxLen ∧
    (∀ i, i < cap → (w.cell? ⟨g, i, none⟩).isSome = true ∧ w.frozen? ⟨g, i, none⟩ = false) ∧ ∀ (i : Nat) (x : UInt8), l[i]? = some x → w.cell? ⟨g, i, none⟩ = some (u8v x)

theorem Br.nil (w : World) (B : Nat) : Br w B (.slice none 0 0) [] := .inl ⟨rfl, rfl⟩
theorem Br.low {w : World} {B B' : Nat} {v : Value} {l : List UInt8} (h : Br w B v l) (hB : B' ≤ B) : Br w B' v l := by
  rcases h with h | ⟨g, cap, h1, h2, h3⟩
  · exact .inl h
  · exact .inr ⟨g, cap, h1, by omega, h3⟩
theorem Br.of_block {w w' : World} {B : Nat} {v : Value} {l : List UInt8} (h : Br w B v l) (hb : ∀ g, v.ownBlock = some g → g < w.heap.size → w'.heap[g]? = w.heap[g]?) (hs : w.heap.size ≤ w'.heap.size) : Br w' B v l := by
  rcases h with h | ⟨g, cap, rfl, h2, h3, h4, h5, h6, h7⟩
  · exact .inl h
  · have e := hb g rfl h3
    exact .inr ⟨g, cap, rfl, h2, by omega, h4, h5, fun i hi => by rw [World.cell?_of_block e, World.frozen?_of_block e]; exact h6 i hi, fun i x hx => by rw [World.cell?_of_block e]; exact h7 i x hx⟩
theorem Br.alloc {w : World} {B : Nat} {v : Value} {l : List UInt8} (h : Br w B v l) (o : Obj) : Br (w.alloc o) B v l :=
  h.of_block (fun g _ hg => heap_alloc_old w o hg) (by simp)
theorem Br.drew {w : World} {B : Nat} {v : Value} {l : List UInt8} (h : Br w B v l) : Br w.drew B v l := h.of_block (fun g _ hg => rfl) (Nat.le_refl _)
theorem Br.below {w w' : World} {B : Nat} {v : Value} {l : List UInt8} (h : Br w B v l) (hb : Below w.heap.size w w') : Br w' B v l :=
  h.of_block (fun g _ hg => hb.block g hg) hb.size
theorem Br.len_le {w : World} {B : Nat} {v : Value} {l : List UInt8} (h : Br w B v l) : l.length ≤ maxLen := by
  rcases h with ⟨_, rfl⟩ | ⟨g, cap, _, _, _, h4, h5, _⟩
  · exact Nat.zero_le _
  · exact Nat.le_trans h4 h5
/-- The block that it lies in. -/
theorem Br.own {w : World} {B : Nat} {v : Value} {l : List UInt8} (h : Br w B v l) : ∀ k, v.ownBlock = some k → B ≤ k := by
  rcases h with ⟨rfl, _⟩ | ⟨g, cap, rfl, h2, _⟩
  · intro k hk; cases hk
  · intro k hk; cases hk; exact h2

theorem Br.shape {w : World} {B n : Nat} {v : Value} {l : List UInt8} (h : Br w B v l) (hn : l.length = n) : ∃ ao cap, v = .slice ao n cap := by
  subst hn
  rcases h with ⟨rfl, rfl⟩ | ⟨g, cap, rfl, _⟩
  · exact ⟨_, _, rfl⟩
  · exact ⟨_, _, rfl⟩
theorem Br.src {w : World} {B : Nat} {v : Value} {l : List UInt8} (h : Br w B v l) : Src Tryd.prog 1 89 v l.length (l.map u8v) w := by
  rcases h with ⟨rfl, rfl⟩ | ⟨g, cap, rfl, h2, h3, h4, h5, h6, h7⟩
  · exact Src.ofNil w Tryd.underlying89 0
  · exact Src.ofSlice w Tryd.underlying89 ⟨g, 0, none⟩ l.length cap (l.map u8v) (by simp) (fun j u hu => by
      rw [List.getElem?_map] at hu
      cases hx : l[j]? with
      | none => rw [hx] at hu; cases hu
      | some x => rw [hx] at hu; cases hu; rw [Addr.add_lit]; simpa using h7 j x hx) (u8_one l)
theorem src_str (w : World) (s : ByteArray) : Src Tryd.prog 1 9 (.string s) (bts s).length ((bts s).map u8v) w := by
  have h := Src.ofString w Tryd.underlying9 s
  rw [bts_length]
  exact h
theorem src_cell {w : World} {p : Nat} {x : UInt8} (h : w.cell? ⟨p, 0, none⟩ = some (u8v x)) : Src Tryd.prog 1 89 (.slice (some ⟨p, 0, none⟩) 1 1) [x].length ([x].map u8v) w :=
  Src.ofSlice w Tryd.underlying89 ⟨p, 0, none⟩ 1 1 [u8v x] (by simp) (cells_one h) (by intro u hu; simp at hu; subst hu; rfl)

theorem setCells_same (b : Nat) : ∀ (vs : List Value) (o : Nat) (w : World), (w.setCells b o vs).os = w.os ∧ (w.setCells b o vs).tape = w.tape ∧ (w.setCells b o vs).output = w.output ∧ (w.setCells b o vs).heap.size = w.heap.size
  | [], _, _ => ⟨rfl, rfl, rfl, rfl⟩
  | v :: r, o, w => by
    have h := setCells_same b r (o + 1) (w.setCell ⟨b, o, none⟩ v)
    exact ⟨h.1, h.2.1, h.2.2.1, h.2.2.2.trans (by simp)⟩
theorem run_br {w : World} {B : Nat} {v : Value} {l : List UInt8} (h : Br w B v l) (tx ty : TypeId) (x : Value) (m : List UInt8) (hs : Src Tryd.prog 1 tx x m.length (m.map u8v) w) (hl : l.length + m.length ≤ 1000000000) (hB : B ≤ w.heap.size) :
    ∃ v' w', (Builtin.append_ #[89, tx] ty #[v, x]).run Tryd.prog w = .ok v' w' ∧ Br w' B v' (l ++ m) ∧ w.grownBy w' v.ownBlock := by
  obtain ⟨i5, hi, hz0, hz1, hz2⟩ := info_parts info5
  have hs' := hs
  rw [← hz1] at hs'
  have grow : ∀ (base : Option Addr) (cap : Nat), (Builtin.firstCells i5.size l.length (.slice base l.length cap)).run Tryd.prog w.drew = .ok (l.map u8v).toArray w.drew → cap < l.length + m.length →
      ∃ v' w', (Builtin.append_ #[89, tx] ty #[.slice base l.length cap, x]).run Tryd.prog w = .ok v' w' ∧ Br w' B v' (l ++ m) ∧ ∀ r, w.grownBy w' r := by
    intro base cap hold hg
    refine ⟨_, _, run_append_grow_src w 89 tx ty 5 i5 _ Tryd.underlying89 hi hz0 base l.length cap (l.map u8v) hold x m.length (m.map u8v) hs' hg (by omega) (by rw [hz2]; exact growslice_fits (bytes := 1) (by omega) (by omega)), ?_, fun r => ⟨rfl, rfl, rfl, by simp, fun k hk _ => heap_alloc_old w.drew _ hk⟩⟩
    have hge := grownCap_ge w (l.length + m.length) cap 5
    have hmx := grownCap_le_maxLen w (l.length + m.length) cap 5 (by unfold maxLen; omega)
    obtain ⟨N, hN⟩ : ∃ N, N = grownCap w (l.length + m.length) cap 5 := ⟨_, rfl⟩
    rw [← hN] at hge hmx ⊢
    have hzc : (Builtin.zeroCells (Value.int .u8 0).cells (N - (l.length + m.length))).size = N - (l.length + m.length) := by rw [size_zeroCells]; simp [Value.cells]
    have hh : ((w.drew.alloc (.cells ((l.map u8v ++ m.map u8v).toArray ++ Builtin.zeroCells (Value.int .u8 0).cells (N - (l.length + m.length))) 5))).heap[w.heap.size]? = some (.cells ((l.map u8v ++ m.map u8v).toArray ++ Builtin.zeroCells (Value.int .u8 0).cells (N - (l.length + m.length))) 5) := heap_alloc_new w.drew _
    refine .inr ⟨w.heap.size, N, by rw [List.length_append], hB, by simp, by rw [List.length_append]; exact hge, hmx, fun j hj => ⟨?_, ?_⟩, fun j y hy => ?_⟩
    · simp only [World.cell?, hh]
      simp [hzc]
      omega
    · simp only [World.frozen?, hh]
      simp
    · simp only [World.cell?, hh]
      have hj := (List.getElem?_eq_some_iff.1 hy).1
      rw [← List.map_append]
      simp only [Option.isSome_none, Bool.false_eq_true, if_false]
      rw [Array.getElem?_append_left (by simpa using hj), List.getElem?_toArray, List.getElem?_map, hy]
      rfl
  rcases h with ⟨rfl, rfl⟩ | ⟨g, cap, rfl, h2, h3, h4, h5, h6, h7⟩
  · by_cases hm : m = []
    · subst hm
      refine ⟨.slice none 0 0, w, ?_, .inl ⟨rfl, rfl⟩, ⟨rfl, rfl, rfl, Nat.le_refl _, fun _ _ _ => rfl⟩⟩
      have hsl := hs'.len
      have hsc := hs'.cells
      simp only [List.length_nil, List.map_nil] at hsl hsc
      rcases hs'.kind with ⟨e', hk⟩ | hk <;> simp [Builtin.append_, run_underlying Tryd.underlying89, run_underlying hk, sizeOf, typeInfo, hi, hsl, hsc]
    · have hml : 0 < m.length := by cases m with | nil => exact absurd rfl hm | cons a r => simp
      obtain ⟨v', w', h1, h2, h3⟩ := grow none 0 (run_firstCells_none w.drew i5.size 0 0 0) (by simpa using hml)
      exact ⟨v', w', h1, h2, h3 _⟩
  · by_cases hroom : l.length + m.length ≤ cap
    · refine ⟨_, _, run_append_room_src w 89 tx ty 5 i5 Tryd.underlying89 hi g 0 l.length cap x m.length (m.map u8v) hs' hroom ?_ ?_, ?_, ?_⟩
      · intro j hj
        rw [List.length_map] at hj
        rw [hz1]
        exact (h6 _ (by omega)).1
      · intro j hj
        rw [List.length_map] at hj
        rw [hz1]
        exact (h6 _ (by omega)).2
      · rw [hz1]
        have e0 : 0 + l.length * 1 = l.length := by omega
        rw [e0]
        refine .inr ⟨g, cap, by rw [List.length_append], h2, by rw [(setCells_same _ _ _ _).2.2.2]; exact h3, by rw [List.length_append]; exact hroom, h5, fun i hi => ⟨?_, ?_⟩, fun i y hy => ?_⟩
        · exact World.isSome_setCells g _ _ w _ (h6 i hi).1
        · rw [World.frozen?_setCells]; exact (h6 i hi).2
        · have hi := (List.getElem?_eq_some_iff.1 hy).1
          by_cases hlt : i < l.length
          · rw [World.cell?_setCells_out _ _ _ _ _ (fun _ _ => .inl hlt)]
            rw [List.getElem?_append_left hlt] at hy
            exact h7 i y hy
          · obtain ⟨j, rfl⟩ : ∃ j, i = l.length + j := ⟨i - l.length, by omega⟩
            rw [List.getElem?_append_right (by omega), show l.length + j - l.length = j by omega] at hy
            have hj := (List.getElem?_eq_some_iff.1 hy).1
            rw [World.cell?_setCells_in g (m.map u8v) l.length w (fun k hk => by rw [List.length_map] at hk; exact (h6 _ (by omega)).1) j (by simpa using hj)]
            rw [List.getElem_map]
            rw [(List.getElem?_eq_some_iff.1 hy).2]
      · obtain ⟨q1, q2, q3, q4⟩ := setCells_same g (m.map u8v) (0 + l.length * i5.size) w
        refine ⟨q1, q2, q3, by rw [q4]; exact Nat.le_refl _, fun k hk hne => ?_⟩
        exact World.heap_setCells_other w g _ _ hk (fun e => hne (by rw [e]; rfl))
    · obtain ⟨v', w', e1, e2, e3⟩ := grow (some ⟨g, 0, none⟩) cap (run_firstCells_some w.drew i5.size l.length ⟨g, 0, none⟩ l.length cap (l.map u8v) (by rw [hz1]; simp) (fun j u hu => by
        rw [List.getElem?_map] at hu
        cases hx : l[j]? with
        | none => rw [hx] at hu; cases hu
        | some y => rw [hx] at hu; cases hu; rw [Addr.add_lit]; simpa using h7 j y hx)) (by omega)
      exact ⟨v', w', e1, e2, e3 _⟩

/-- append, as a law of the walk. -/
theorem wpList_br {w : World} {ops : Array Oper} {rest : List Oper} {o : Oper} {a : Act} {Q : Exit → Act → World → Prop} (hgd : o.guard = none) (s x : Operand) (tx : TypeId)
    (ho : o.op = .call { callee := .builtin .append, args := #[s, x], argTypes := #[89, tx] })
    (B : Nat) (v y : Value) (l m : List UInt8) (hv : a.eval s = v) (hx : a.eval x = y) (h : Br w B v l) (hs : Src Tryd.prog 1 tx y m.length (m.map u8v) w) (hl : l.length + m.length ≤ 1000000000) (hB : B ≤ w.heap.size)
    (hk : ∀ v' w', Br w' B v' (l ++ m) → w.grownBy w' v.ownBlock → wpList Tryd.prog ops Q rest (a.put o.dst v') w') : wpList Tryd.prog ops Q (o :: rest) a w := by
  refine wpList_plain hgd fun K hK => ?_
  obtain ⟨v', w', hr, h2, h3⟩ := run_br h tx o.type y m hs hl hB
  unfold Oper.wp
  simp [execOp, ho, resolve, invoke, builtin, hv, hx, hr, Result.andThen]
  exact hK _ _ (hk v' w' h2 h3)

/-- The slice v holds the bytes l. -/
def Rd (w : World) (v : Value) (l : List UInt8) : Prop :=
  (v = .slice none 0 0 ∧ l = []) ∨ ∃ g cap, v = .slice (some ⟨g, 0, none⟩) l.length cap ∧ g < w.heap.size ∧ ∀ (i : Nat) (x : UInt8), l[i]? = some x → w.cell? ⟨g, i, none⟩ = some (u8v x)
theorem Br.rd {w : World} {B : Nat} {v : Value} {l : List UInt8} (h : Br w B v l) : Rd w v l := by
  rcases h with h | ⟨g, cap, h1, h2, h3, h4, h5, h6, h7⟩
  · exact .inl h
  · exact .inr ⟨g, cap, h1, h3, h7⟩
theorem Rd.alloc {w : World} {v : Value} {l : List UInt8} (h : Rd w v l) (o : Obj) : Rd (w.alloc o) v l := by
  rcases h with h | ⟨g, cap, h1, h2, h3⟩
  · exact .inl h
  · exact .inr ⟨g, cap, h1, Nat.lt_of_lt_of_le h2 (by simp), fun i x hx => (World.cell?_of_block (a := ⟨g, i, none⟩) (heap_alloc_old w o h2)).trans (h3 i x hx)⟩
theorem Bys.rd {w : World} {g cap n : Nat} {l : List UInt8} (h : Bys w g l) (hn : l.length = n) : Rd w (.slice (some ⟨g, 0, none⟩) n cap) l := by
  subst hn
  exact .inr ⟨g, cap, rfl, h.lt, fun i x hx => h.cell hx⟩
theorem br_snoc {w : World} {B k : Nat} {v : Value} {l : List UInt8} {c : UInt8} (h : Br w B v (l ++ List.replicate k c ++ [c])) : Br w B v (l ++ List.replicate (k + 1) c) := by
  rw [List.replicate_succ', ← List.append_assoc]; exact h

/-- 'string(b)'. -/
theorem conv_rd {w : World} {v : Value} {l : List UInt8} (h : Rd w v l) : ∃ t, (convert 89 9 v).run Tryd.prog w = .ok (.string t) w ∧ bts t = l := by
  rcases h with ⟨rfl, rfl⟩ | ⟨g, cap, rfl, h3, h7⟩
  · exact ⟨_, run_convert_bytes_nil w 89 5 Tryd.underlying89 Tryd.underlying5 0 0 9 Tryd.underlying9, rfl⟩
  · exact ⟨_, conv_str (fun i c hi => by rw [Nat.zero_add]; exact h7 i c hi), bts_mk l⟩
/-- '[]byte(s)'. -/
theorem conv_to_br (s : ByteArray) (w : World) (hs : s.size ≤ 1000000000) : ∃ v w1, (convert 9 89 (.string s)).run Tryd.prog w = .ok v w1 ∧ Br w1 w.heap.size v (bts s) ∧ Below w.heap.size w w1 := by
  refine ⟨_, _, run_bytes_of_string w 9 89 5 s Tryd.underlying9 Tryd.underlying89 Tryd.underlying5, ?_, (Below.refl _ w).drew.alloc (Nat.le_refl _) _⟩
  have hge := grownCap_ge w s.size 0 5
  have hmx := grownCap_le_maxLen w s.size 0 5 (by unfold maxLen; omega)
  obtain ⟨N, hN⟩ : ∃ N, N = grownCap w s.size 0 5 := ⟨_, rfl⟩
  rw [← hN] at hge hmx ⊢
  have hsz : (bytesRow s N).size = N := by unfold bytesRow; simp; omega
  have hh := heap_alloc_new w.drew (.cells (bytesRow s N) 5 ((bytesRow s N).size, (bytesRow s N).size + 1))
  refine .inr ⟨w.heap.size, N, by rw [bts_length], Nat.le_refl _, by simp, by rw [bts_length]; exact hge, hmx, fun j hj => ⟨?_, ?_⟩, fun j y hy => ?_⟩
  · simp only [World.cell?]
    rw [show (w.drew.alloc (.cells (bytesRow s N) 5 ((bytesRow s N).size, (bytesRow s N).size + 1))).heap[w.heap.size]? = _ from hh]
    simp [hsz, hj]
  · simp only [World.frozen?]
    rw [show (w.drew.alloc (.cells (bytesRow s N) 5 ((bytesRow s N).size, (bytesRow s N).size + 1))).heap[w.heap.size]? = _ from hh]
    simp [hsz]; omega
  · simp only [World.cell?]
    rw [show (w.drew.alloc (.cells (bytesRow s N) 5 ((bytesRow s N).size, (bytesRow s N).size + 1))).heap[w.heap.size]? = _ from hh]
    have hj : j < s.size := by have := (List.getElem?_eq_some_iff.1 hy).1; rwa [bts_length] at this
    have e : s.data[j]? = some y := by unfold bts at hy; rw [Array.getElem?_toList] at hy; exact hy
    simp only [Option.isSome_none, Bool.false_eq_true, if_false]
    unfold bytesRow
    rw [Array.getElem?_append_left (by simpa using hj), Array.getElem?_map, e]
    rfl
end Go.Proofs.YtoilgjlbpimcpaaDoor
