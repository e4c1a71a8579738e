/- The formats, by their options: a map of method values. -/
import Derived.Test.YtmjifmlibgpjiaaGreatDoorDf
import Derived.Maps.Views
import Derived.Maps.OwnOps
import Derived.Maps.Own
namespace Go.Proofs.YtmjifmlibgpjiaaGreatDoor
open Go.RowKit Go.Shelf Tx Go.Maps
set_option linter.unusedVariables false
set_option maxRecDepth 100000

/-- An element reads as itself. -/
def Rv (v : Value) : Option (DataW Value × List MemPlace) := some (.held v, [])
theorem wpList_insert_own {H : Type} {P : Program} (w : World) {ops : Array Oper} {rest : List Oper} {o : Oper} {a : Act} {Q : Exit → Act → World → Prop}
    (hg : o.guard = none) (m x v : Operand) (t : TypeId) (hop : o.op = Op.insert t m x v)
    (k e : TypeId) (K : Keyed P k) (ht : P.underlying t = some (.map k e)) (R : Value → Option (DataW H × List MemPlace)) (b n : Nat) (D : DataW H)
    (hm : a.eval m = .map (some b)) (hown : w.ownsMap P k R b n D) (hn : n < maxLen) (key val : Value) (kl : Lit) (hx : a.eval x = key) (hv : a.eval v = val) (hkey : keyOf P k key = some kl)
    (d : DataW H) (ps : List MemPlace) (hval : R val = some (d, ps))
    (hK : ∀ w', w'.ownsMap P k R b (n + 1) (D.put kl d) → w.grownBy w' (some b) → wpList P ops Q rest (a.put o.dst undef) w') :
    wpList P ops Q (o :: rest) a w := by
  refine wpList_plain hg fun K' hK' => ?_
  obtain ⟨w', hrun, r1, r2⟩ := hown.update K ht hn hkey hval
  unfold Oper.wp
  simp [execOp, hop, hm, hx, hv, hrun, Result.andThen]
  exact hK' _ _ (hK w' r1 r2)
/-- The map holds these values, by their bytes. -/
def FMap (D : DataW Value) (l : List (UInt8 × Value)) : Prop := IsMap D ∧ ∀ (x : UInt8) (z : DataW Value), D.atKey (.int .u8 (x.toNat : Int)) z = match l.lookup x with | some v => .held v | none => z
theorem FMap.empty : FMap (.map []) [] := ⟨isMap_empty, fun x z => rfl⟩
theorem FMap.put {D : DataW Value} {l : List (UInt8 × Value)} (h : FMap D l) (x : UInt8) (v : Value) : FMap (D.put (.int .u8 (x.toNat : Int)) (.held v)) ((x, v) :: l) := by
  refine ⟨h.1.put _ _, fun y z => ?_⟩
  by_cases e : y = x
  · subst e
    rw [atKey_put_same h.1 (by trivial)]
    simp [List.lookup]
  · rw [atKey_put_other (by intro q; injection q with _ q; exact e (UInt8.toNat_inj.1 (by omega))), h.2]
    rw [List.lookup_cons, beq_eq_false_iff_ne.2 e]
theorem u8_wf' (x : UInt8) : (Lit.int .u8 (x.toNat : Int)).wf = true := WalkArith.wf_u8 (by have := x.toNat_lt; omega)
theorem look_ok {P : Program} {w : World} {t k e : TypeId} {b n : Nat} {D : DataW Value} {l : List (UInt8 × Value)} {z : Value} (K : Keyed P k) (ht : P.underlying t = some (.map k e)) (hz : (zeroValue e).run P w = .ok z w)
    (hown : w.ownsMap P k Rv b n D) (hF : FMap D l) (x : UInt8) (hk : P.underlying k = some (.int .u8)) :
    (Instr.lookup t (.map (some b)) (.int .u8 (x.toNat : Int)) true).run P w = .ok (match l.lookup x with | some v => .tuple #[v, .bool true] | none => .tuple #[z, .bool false]) w := by
  have hkey : keyOf P k (.int .u8 (x.toNat : Int)) = some (.int .u8 (x.toNat : Int)) := keyOf_int_mk hk (u8_wf' x)
  obtain ⟨es, clock, hb, F, _, rfl⟩ := hown
  rcases Maps.fit_look true K ht hz hb F hkey with ⟨hrun, _, hat⟩ | ⟨e0, y, _, _, hrun, hRv, hat, _⟩
  · rw [hrun]
    have q := hF.2 x .nil
    rw [hat] at q
    cases hl : l.lookup x with
    | none => rfl
    | some v => rw [hl] at q; cases q
  · rw [hrun]
    have q := hF.2 x .nil
    rw [hat] at q
    have hy : y = (.held e0.val, []) := (Option.some.inj hRv).symm
    subst hy
    cases hl : l.lookup x with
    | none => rw [hl] at q; cases q
    | some v => rw [hl] at q; injection q with q; subst q; rfl
theorem upd {P : Program} {W : World} {t k e : TypeId} {b n : Nat} {D : DataW Value} {l : List (UInt8 × Value)} (K : Keyed P k) (ht : P.underlying t = some (.map k e)) (hk : P.underlying k = some (.int .u8)) (hn : n < 1000)
    (hown : W.ownsMap P k Rv b n D) (hF : FMap D l) (x : UInt8) (xi : Int) (hx : xi = (x.toNat : Int)) (v : Value) :
    ∃ (W' : World) (D' : DataW Value), (Instr.mapUpdate t (.map (some b)) (.int .u8 xi) v).run P W = .ok () W' ∧ W'.ownsMap P k Rv b (n + 1) D' ∧ FMap D' ((x, v) :: l) ∧ W.grownBy W' (some b) := by
  subst hx
  obtain ⟨W', hrun, r1, r2⟩ := hown.update (R := Rv) K ht (by unfold maxLen; omega) (keyOf_int_mk hk (u8_wf' x)) (show Rv v = some (.held v, []) from rfl)
  exact ⟨W', _, hrun, r1, hF.put x v, r2⟩
theorem lawU8 : Keyed Tryz.prog 5 := int_keyed Tryz.underlying5
theorem zeroF (w : World) : (zeroValue 79).run Tryz.prog w = .ok .nilFunc w := by kernel_rfl
theorem zeroG (w : World) : (zeroValue 72).run Tryz.prog w = .ok .nilFunc w := by kernel_rfl
/-- The map's values. -/
def datFL (y m k : Nat) : List (UInt8 × Value) := [(87, .func (.func 97) #[dtV y m k] #[]), (85, .func (.func 96) #[dtV y m k] #[]), (83, .func (.func 95) #[dtV y m k] #[]), (79, .func (.func 94) #[dtV y m k] #[]), (78, .func (.func 93) #[dtV y m k] #[]), (77, .func (.func 92) #[dtV y m k] #[]), (73, .func (.func 91) #[dtV y m k] #[]), (69, .func (.func 90) #[dtV y m k] #[]), (68, .func (.func 89) #[dtV y m k] #[]), (67, .func (.func 88) #[dtV y m k] #[]), (66, .func (.func 87) #[dtV y m k] #[])]
set_option maxHeartbeats 4000000 in
theorem datF_any (y m k : Nat) (w : World) :
    Calls Tryz.prog 60 #[dtV y m k] w fun e w' => ∃ (b n : Nat) (D : DataW Value), e = .returned (.map (some b)) ∧ Hid (w'.ownsMap Tryz.prog 5 Rv b n D ∧ FMap D (datFL y m k)) ∧ Below w.heap.size w w' := by
  have hmf : ∀ (fn : Fn) (first cap : Array Value) (w : World), (Instr.makeFunc fn first cap).run Tryz.prog w = .ok (.func fn first cap) w := fun _ _ _ _ => rfl
  have hmm := @run_makeMap Tryz.prog
  have own0 : World.ownsMap (H := Value) ((w.alloc (.cells #[.int .i64 (y : Int), .int .i64 (m : Int), .int .i64 (k : Int)] 70)).alloc (.map #[] 0)) Tryz.prog 5 Rv (w.heap.size + 1) 0 (.map []) := by have q := World.ownsMap_made (H := Value) (w.alloc (.cells #[.int .i64 (y : Int), .int .i64 (m : Int), .int .i64 (k : Int)] 70)) Tryz.prog 5 Rv; first | exact q | (rw [World.size_alloc] at q; exact q)
  have fm0 : FMap (.map []) [] := FMap.empty
  have bx0 : BoxC ((w.alloc (.cells #[.int .i64 (y : Int), .int .i64 (m : Int), .int .i64 (k : Int)] 70)).alloc (.map #[] 0)) w.heap.size 70 #[.int .i64 (y : Int), .int .i64 (m : Int), .int .i64 (k : Int)] := (BoxC.new _ _ _).alloc _
  have bl0 : Below w.heap.size w ((w.alloc (.cells #[.int .i64 (y : Int), .int .i64 (m : Int), .int .i64 (k : Int)] 70)).alloc (.map #[] 0)) := by repeat (first | exact Below.refl _ _ | refine Bl.alloc ?_ _)
  obtain ⟨W1, D1, hr1, own1, fm1, gr1⟩ := upd lawU8 Tryz.underlying81 Tryz.underlying5 (by decide) own0 fm0 66 66 rfl (.func (.func 87) #[dtV y m k] #[])
  have bx1 := bx0.kept gr1 (by simp)
  have bl1 := bl0.grown gr1 bl0.size (fun k hk => by simp at hk; omega)
  obtain ⟨W2, D2, hr2, own2, fm2, gr2⟩ := upd lawU8 Tryz.underlying81 Tryz.underlying5 (by decide) own1 fm1 67 67 rfl (.func (.func 88) #[dtV y m k] #[])
  have bx2 := bx1.kept gr2 (by simp)
  have bl2 := bl1.grown gr2 bl1.size (fun k hk => by simp at hk; omega)
  obtain ⟨W3, D3, hr3, own3, fm3, gr3⟩ := upd lawU8 Tryz.underlying81 Tryz.underlying5 (by decide) own2 fm2 68 68 rfl (.func (.func 89) #[dtV y m k] #[])
  have bx3 := bx2.kept gr3 (by simp)
  have bl3 := bl2.grown gr3 bl2.size (fun k hk => by simp at hk; omega)
  obtain ⟨W4, D4, hr4, own4, fm4, gr4⟩ := upd lawU8 Tryz.underlying81 Tryz.underlying5 (by decide) own3 fm3 69 69 rfl (.func (.func 90) #[dtV y m k] #[])
  have bx4 := bx3.kept gr4 (by simp)
  have bl4 := bl3.grown gr4 bl3.size (fun k hk => by simp at hk; omega)
  obtain ⟨W5, D5, hr5, own5, fm5, gr5⟩ := upd lawU8 Tryz.underlying81 Tryz.underlying5 (by decide) own4 fm4 73 73 rfl (.func (.func 91) #[dtV y m k] #[])
  have bx5 := bx4.kept gr5 (by simp)
  have bl5 := bl4.grown gr5 bl4.size (fun k hk => by simp at hk; omega)
  obtain ⟨W6, D6, hr6, own6, fm6, gr6⟩ := upd lawU8 Tryz.underlying81 Tryz.underlying5 (by decide) own5 fm5 77 77 rfl (.func (.func 92) #[dtV y m k] #[])
  have bx6 := bx5.kept gr6 (by simp)
  have bl6 := bl5.grown gr6 bl5.size (fun k hk => by simp at hk; omega)
  obtain ⟨W7, D7, hr7, own7, fm7, gr7⟩ := upd lawU8 Tryz.underlying81 Tryz.underlying5 (by decide) own6 fm6 78 78 rfl (.func (.func 93) #[dtV y m k] #[])
  have bx7 := bx6.kept gr7 (by simp)
  have bl7 := bl6.grown gr7 bl6.size (fun k hk => by simp at hk; omega)
  obtain ⟨W8, D8, hr8, own8, fm8, gr8⟩ := upd lawU8 Tryz.underlying81 Tryz.underlying5 (by decide) own7 fm7 79 79 rfl (.func (.func 94) #[dtV y m k] #[])
  have bx8 := bx7.kept gr8 (by simp)
  have bl8 := bl7.grown gr8 bl7.size (fun k hk => by simp at hk; omega)
  obtain ⟨W9, D9, hr9, own9, fm9, gr9⟩ := upd lawU8 Tryz.underlying81 Tryz.underlying5 (by decide) own8 fm8 83 83 rfl (.func (.func 95) #[dtV y m k] #[])
  have bx9 := bx8.kept gr9 (by simp)
  have bl9 := bl8.grown gr9 bl8.size (fun k hk => by simp at hk; omega)
  obtain ⟨W10, D10, hr10, own10, fm10, gr10⟩ := upd lawU8 Tryz.underlying81 Tryz.underlying5 (by decide) own9 fm9 85 85 rfl (.func (.func 96) #[dtV y m k] #[])
  have bx10 := bx9.kept gr10 (by simp)
  have bl10 := bl9.grown gr10 bl9.size (fun k hk => by simp at hk; omega)
  obtain ⟨W11, D11, hr11, own11, fm11, gr11⟩ := upd lawU8 Tryz.underlying81 Tryz.underlying5 (by decide) own10 fm10 87 87 rfl (.func (.func 97) #[dtV y m k] #[])
  have bx11 := bx10.kept gr11 (by simp)
  have bl11 := bl10.grown gr11 bl10.size (fun k hk => by simp at hk; omega)
  have OWN := Lib.hid (And.intro own11 fm11)
  have BL := Lib.hid bl11
  have x0_0 := bx0.cell (i := 0) rfl
  have x0_1 := bx0.cell (i := 1) rfl
  have x0_2 := bx0.cell (i := 2) rfl
  have x1_0 := bx1.cell (i := 0) rfl
  have x1_1 := bx1.cell (i := 1) rfl
  have x1_2 := bx1.cell (i := 2) rfl
  have x2_0 := bx2.cell (i := 0) rfl
  have x2_1 := bx2.cell (i := 1) rfl
  have x2_2 := bx2.cell (i := 2) rfl
  have x3_0 := bx3.cell (i := 0) rfl
  have x3_1 := bx3.cell (i := 1) rfl
  have x3_2 := bx3.cell (i := 2) rfl
  have x4_0 := bx4.cell (i := 0) rfl
  have x4_1 := bx4.cell (i := 1) rfl
  have x4_2 := bx4.cell (i := 2) rfl
  have x5_0 := bx5.cell (i := 0) rfl
  have x5_1 := bx5.cell (i := 1) rfl
  have x5_2 := bx5.cell (i := 2) rfl
  have x6_0 := bx6.cell (i := 0) rfl
  have x6_1 := bx6.cell (i := 1) rfl
  have x6_2 := bx6.cell (i := 2) rfl
  have x7_0 := bx7.cell (i := 0) rfl
  have x7_1 := bx7.cell (i := 1) rfl
  have x7_2 := bx7.cell (i := 2) rfl
  have x8_0 := bx8.cell (i := 0) rfl
  have x8_1 := bx8.cell (i := 1) rfl
  have x8_2 := bx8.cell (i := 2) rfl
  have x9_0 := bx9.cell (i := 0) rfl
  have x9_1 := bx9.cell (i := 1) rfl
  have x9_2 := bx9.cell (i := 2) rfl
  have x10_0 := bx10.cell (i := 0) rfl
  have x10_1 := bx10.cell (i := 1) rfl
  have x10_2 := bx10.cell (i := 2) rfl
  have x11_0 := bx11.cell (i := 0) rfl
  have x11_1 := bx11.cell (i := 1) rfl
  have x11_2 := bx11.cell (i := 2) rfl
  clear own0 fm0 bl0 own1 fm1 bl1 own2 fm2 bl2 own3 fm3 bl3 own4 fm4 bl4 own5 fm5 bl5 own6 fm6 bl6 own7 fm7 bl7 own8 fm8 bl8 own9 fm9 bl9 own10 fm10 bl10 own11 fm11 bl11 gr1 gr2 gr3 gr4 gr5 gr6 gr7 gr8 gr9 gr10 gr11 bx0 bx1 bx2 bx3 bx4 bx5 bx6 bx7 bx8 bx9 bx10 bx11
  go_enter Tryz.func60, Tryz.ntmps60
  go_wp2
  go_ret
  exact ⟨_, _, _, rfl, OWN, BL.out⟩
/-- The map's values. -/
def cloFL (c : Nat) : List (UInt8 × Value) := [(83, .func (.func 113) #[.int .i64 (c : Int)] #[]), (78, .func (.func 112) #[.int .i64 (c : Int)] #[]), (77, .func (.func 111) #[.int .i64 (c : Int)] #[]), (76, .func (.func 110) #[.int .i64 (c : Int)] #[]), (72, .func (.func 109) #[.int .i64 (c : Int)] #[]), (70, .func (.func 108) #[.int .i64 (c : Int)] #[]), (67, .func (.func 107) #[.int .i64 (c : Int)] #[])]
set_option maxHeartbeats 4000000 in
theorem cloF_any (c : Nat) (w : World) :
    Calls Tryz.prog 73 #[.int .i64 (c : Int)] w fun e w' => ∃ (b n : Nat) (D : DataW Value), e = .returned (.map (some b)) ∧ Hid (w'.ownsMap Tryz.prog 5 Rv b n D ∧ FMap D (cloFL c)) ∧ Below w.heap.size w w' := by
  have hmf : ∀ (fn : Fn) (first cap : Array Value) (w : World), (Instr.makeFunc fn first cap).run Tryz.prog w = .ok (.func fn first cap) w := fun _ _ _ _ => rfl
  have hmm := @run_makeMap Tryz.prog
  have own0 : World.ownsMap (H := Value) (w.alloc (.map #[] 0)) Tryz.prog 5 Rv w.heap.size 0 (.map []) := by have q := World.ownsMap_made (H := Value) w Tryz.prog 5 Rv; first | exact q | (rw [World.size_alloc] at q; exact q)
  have fm0 : FMap (.map []) [] := FMap.empty
  have bl0 : Below w.heap.size w (w.alloc (.map #[] 0)) := by repeat (first | exact Below.refl _ _ | refine Bl.alloc ?_ _)
  obtain ⟨W1, D1, hr1, own1, fm1, gr1⟩ := upd lawU8 Tryz.underlying81 Tryz.underlying5 (by decide) own0 fm0 67 67 rfl (.func (.func 107) #[.int .i64 (c : Int)] #[])
  have bl1 := bl0.grown gr1 bl0.size (fun k hk => by simp at hk; omega)
  obtain ⟨W2, D2, hr2, own2, fm2, gr2⟩ := upd lawU8 Tryz.underlying81 Tryz.underlying5 (by decide) own1 fm1 70 70 rfl (.func (.func 108) #[.int .i64 (c : Int)] #[])
  have bl2 := bl1.grown gr2 bl1.size (fun k hk => by simp at hk; omega)
  obtain ⟨W3, D3, hr3, own3, fm3, gr3⟩ := upd lawU8 Tryz.underlying81 Tryz.underlying5 (by decide) own2 fm2 72 72 rfl (.func (.func 109) #[.int .i64 (c : Int)] #[])
  have bl3 := bl2.grown gr3 bl2.size (fun k hk => by simp at hk; omega)
  obtain ⟨W4, D4, hr4, own4, fm4, gr4⟩ := upd lawU8 Tryz.underlying81 Tryz.underlying5 (by decide) own3 fm3 76 76 rfl (.func (.func 110) #[.int .i64 (c : Int)] #[])
  have bl4 := bl3.grown gr4 bl3.size (fun k hk => by simp at hk; omega)
  obtain ⟨W5, D5, hr5, own5, fm5, gr5⟩ := upd lawU8 Tryz.underlying81 Tryz.underlying5 (by decide) own4 fm4 77 77 rfl (.func (.func 111) #[.int .i64 (c : Int)] #[])
  have bl5 := bl4.grown gr5 bl4.size (fun k hk => by simp at hk; omega)
  obtain ⟨W6, D6, hr6, own6, fm6, gr6⟩ := upd lawU8 Tryz.underlying81 Tryz.underlying5 (by decide) own5 fm5 78 78 rfl (.func (.func 112) #[.int .i64 (c : Int)] #[])
  have bl6 := bl5.grown gr6 bl5.size (fun k hk => by simp at hk; omega)
  obtain ⟨W7, D7, hr7, own7, fm7, gr7⟩ := upd lawU8 Tryz.underlying81 Tryz.underlying5 (by decide) own6 fm6 83 83 rfl (.func (.func 113) #[.int .i64 (c : Int)] #[])
  have bl7 := bl6.grown gr7 bl6.size (fun k hk => by simp at hk; omega)
  have OWN := Lib.hid (And.intro own7 fm7)
  have BL := Lib.hid bl7
  clear own0 fm0 bl0 own1 fm1 bl1 own2 fm2 bl2 own3 fm3 bl3 own4 fm4 bl4 own5 fm5 bl5 own6 fm6 bl6 own7 fm7 bl7 gr1 gr2 gr3 gr4 gr5 gr6 gr7
  go_enter Tryz.func73, Tryz.ntmps73
  go_wp2
  go_ret
  exact ⟨_, _, _, rfl, OWN, BL.out⟩
/-- The map's values. -/
def dayRL (s : ByteArray) (y : Nat) : List (UInt8 × Value) := [(85, .func (.func 105) #[.agg #[.string s, .int .i64 (y : Int)]] #[]), (83, .func (.func 104) #[.agg #[.string s, .int .i64 (y : Int)]] #[]), (79, .func (.func 103) #[.agg #[.string s, .int .i64 (y : Int)]] #[]), (78, .func (.func 102) #[.agg #[.string s, .int .i64 (y : Int)]] #[]), (73, .func (.func 101) #[.agg #[.string s, .int .i64 (y : Int)]] #[]), (69, .func (.func 100) #[.agg #[.string s, .int .i64 (y : Int)]] #[]), (68, .func (.func 99) #[.agg #[.string s, .int .i64 (y : Int)]] #[]), (66, .func (.func 98) #[.agg #[.string s, .int .i64 (y : Int)]] #[])]
set_option maxHeartbeats 4000000 in
theorem dayR_any (s : ByteArray) (y : Nat) (w : World) :
    Calls Tryz.prog 65 #[.agg #[.string s, .int .i64 (y : Int)]] w fun e w' => ∃ (b n : Nat) (D : DataW Value), e = .returned (.map (some b)) ∧ Hid (w'.ownsMap Tryz.prog 5 Rv b n D ∧ FMap D (dayRL s y)) ∧ Below w.heap.size w w' := by
  have hmf : ∀ (fn : Fn) (first cap : Array Value) (w : World), (Instr.makeFunc fn first cap).run Tryz.prog w = .ok (.func fn first cap) w := fun _ _ _ _ => rfl
  have hmm := @run_makeMap Tryz.prog
  have own0 : World.ownsMap (H := Value) ((w.alloc (.cells #[.string s, .int .i64 (y : Int)] 88)).alloc (.map #[] 0)) Tryz.prog 5 Rv (w.heap.size + 1) 0 (.map []) := by have q := World.ownsMap_made (H := Value) (w.alloc (.cells #[.string s, .int .i64 (y : Int)] 88)) Tryz.prog 5 Rv; first | exact q | (rw [World.size_alloc] at q; exact q)
  have fm0 : FMap (.map []) [] := FMap.empty
  have bx0 : BoxC ((w.alloc (.cells #[.string s, .int .i64 (y : Int)] 88)).alloc (.map #[] 0)) w.heap.size 88 #[.string s, .int .i64 (y : Int)] := (BoxC.new _ _ _).alloc _
  have bl0 : Below w.heap.size w ((w.alloc (.cells #[.string s, .int .i64 (y : Int)] 88)).alloc (.map #[] 0)) := by repeat (first | exact Below.refl _ _ | refine Bl.alloc ?_ _)
  obtain ⟨W1, D1, hr1, own1, fm1, gr1⟩ := upd lawU8 Tryz.underlying86 Tryz.underlying5 (by decide) own0 fm0 66 66 rfl (.func (.func 98) #[.agg #[.string s, .int .i64 (y : Int)]] #[])
  have bx1 := bx0.kept gr1 (by simp)
  have bl1 := bl0.grown gr1 bl0.size (fun k hk => by simp at hk; omega)
  obtain ⟨W2, D2, hr2, own2, fm2, gr2⟩ := upd lawU8 Tryz.underlying86 Tryz.underlying5 (by decide) own1 fm1 68 68 rfl (.func (.func 99) #[.agg #[.string s, .int .i64 (y : Int)]] #[])
  have bx2 := bx1.kept gr2 (by simp)
  have bl2 := bl1.grown gr2 bl1.size (fun k hk => by simp at hk; omega)
  obtain ⟨W3, D3, hr3, own3, fm3, gr3⟩ := upd lawU8 Tryz.underlying86 Tryz.underlying5 (by decide) own2 fm2 69 69 rfl (.func (.func 100) #[.agg #[.string s, .int .i64 (y : Int)]] #[])
  have bx3 := bx2.kept gr3 (by simp)
  have bl3 := bl2.grown gr3 bl2.size (fun k hk => by simp at hk; omega)
  obtain ⟨W4, D4, hr4, own4, fm4, gr4⟩ := upd lawU8 Tryz.underlying86 Tryz.underlying5 (by decide) own3 fm3 73 73 rfl (.func (.func 101) #[.agg #[.string s, .int .i64 (y : Int)]] #[])
  have bx4 := bx3.kept gr4 (by simp)
  have bl4 := bl3.grown gr4 bl3.size (fun k hk => by simp at hk; omega)
  obtain ⟨W5, D5, hr5, own5, fm5, gr5⟩ := upd lawU8 Tryz.underlying86 Tryz.underlying5 (by decide) own4 fm4 78 78 rfl (.func (.func 102) #[.agg #[.string s, .int .i64 (y : Int)]] #[])
  have bx5 := bx4.kept gr5 (by simp)
  have bl5 := bl4.grown gr5 bl4.size (fun k hk => by simp at hk; omega)
  obtain ⟨W6, D6, hr6, own6, fm6, gr6⟩ := upd lawU8 Tryz.underlying86 Tryz.underlying5 (by decide) own5 fm5 79 79 rfl (.func (.func 103) #[.agg #[.string s, .int .i64 (y : Int)]] #[])
  have bx6 := bx5.kept gr6 (by simp)
  have bl6 := bl5.grown gr6 bl5.size (fun k hk => by simp at hk; omega)
  obtain ⟨W7, D7, hr7, own7, fm7, gr7⟩ := upd lawU8 Tryz.underlying86 Tryz.underlying5 (by decide) own6 fm6 83 83 rfl (.func (.func 104) #[.agg #[.string s, .int .i64 (y : Int)]] #[])
  have bx7 := bx6.kept gr7 (by simp)
  have bl7 := bl6.grown gr7 bl6.size (fun k hk => by simp at hk; omega)
  obtain ⟨W8, D8, hr8, own8, fm8, gr8⟩ := upd lawU8 Tryz.underlying86 Tryz.underlying5 (by decide) own7 fm7 85 85 rfl (.func (.func 105) #[.agg #[.string s, .int .i64 (y : Int)]] #[])
  have bx8 := bx7.kept gr8 (by simp)
  have bl8 := bl7.grown gr8 bl7.size (fun k hk => by simp at hk; omega)
  have OWN := Lib.hid (And.intro own8 fm8)
  have BL := Lib.hid bl8
  have x0_0 := bx0.cell (i := 0) rfl
  have x0_1 := bx0.cell (i := 1) rfl
  have x1_0 := bx1.cell (i := 0) rfl
  have x1_1 := bx1.cell (i := 1) rfl
  have x2_0 := bx2.cell (i := 0) rfl
  have x2_1 := bx2.cell (i := 1) rfl
  have x3_0 := bx3.cell (i := 0) rfl
  have x3_1 := bx3.cell (i := 1) rfl
  have x4_0 := bx4.cell (i := 0) rfl
  have x4_1 := bx4.cell (i := 1) rfl
  have x5_0 := bx5.cell (i := 0) rfl
  have x5_1 := bx5.cell (i := 1) rfl
  have x6_0 := bx6.cell (i := 0) rfl
  have x6_1 := bx6.cell (i := 1) rfl
  have x7_0 := bx7.cell (i := 0) rfl
  have x7_1 := bx7.cell (i := 1) rfl
  have x8_0 := bx8.cell (i := 0) rfl
  have x8_1 := bx8.cell (i := 1) rfl
  clear own0 fm0 bl0 own1 fm1 bl1 own2 fm2 bl2 own3 fm3 bl3 own4 fm4 bl4 own5 fm5 bl5 own6 fm6 bl6 own7 fm7 bl7 own8 fm8 bl8 gr1 gr2 gr3 gr4 gr5 gr6 gr7 gr8 bx0 bx1 bx2 bx3 bx4 bx5 bx6 bx7 bx8
  go_enter Tryz.func65, Tryz.ntmps65
  go_wp2
  go_ret
  exact ⟨_, _, _, rfl, OWN, BL.out⟩
/-- The map's values. -/
def timRL (s : ByteArray) : List (UInt8 × Value) := [(83, .func (.func 120) #[.string s] #[]), (78, .func (.func 119) #[.string s] #[]), (77, .func (.func 118) #[.string s] #[]), (76, .func (.func 117) #[.string s] #[]), (72, .func (.func 116) #[.string s] #[]), (70, .func (.func 115) #[.string s] #[]), (67, .func (.func 114) #[.string s] #[])]
set_option maxHeartbeats 4000000 in
theorem timR_any (s : ByteArray) (w : World) :
    Calls Tryz.prog 74 #[.string s] w fun e w' => ∃ (b n : Nat) (D : DataW Value), e = .returned (.map (some b)) ∧ Hid (w'.ownsMap Tryz.prog 5 Rv b n D ∧ FMap D (timRL s)) ∧ Below w.heap.size w w' := by
  have hmf : ∀ (fn : Fn) (first cap : Array Value) (w : World), (Instr.makeFunc fn first cap).run Tryz.prog w = .ok (.func fn first cap) w := fun _ _ _ _ => rfl
  have hmm := @run_makeMap Tryz.prog
  have own0 : World.ownsMap (H := Value) (w.alloc (.map #[] 0)) Tryz.prog 5 Rv w.heap.size 0 (.map []) := by have q := World.ownsMap_made (H := Value) w Tryz.prog 5 Rv; first | exact q | (rw [World.size_alloc] at q; exact q)
  have fm0 : FMap (.map []) [] := FMap.empty
  have bl0 : Below w.heap.size w (w.alloc (.map #[] 0)) := by repeat (first | exact Below.refl _ _ | refine Bl.alloc ?_ _)
  obtain ⟨W1, D1, hr1, own1, fm1, gr1⟩ := upd lawU8 Tryz.underlying86 Tryz.underlying5 (by decide) own0 fm0 67 67 rfl (.func (.func 114) #[.string s] #[])
  have bl1 := bl0.grown gr1 bl0.size (fun k hk => by simp at hk; omega)
  obtain ⟨W2, D2, hr2, own2, fm2, gr2⟩ := upd lawU8 Tryz.underlying86 Tryz.underlying5 (by decide) own1 fm1 70 70 rfl (.func (.func 115) #[.string s] #[])
  have bl2 := bl1.grown gr2 bl1.size (fun k hk => by simp at hk; omega)
  obtain ⟨W3, D3, hr3, own3, fm3, gr3⟩ := upd lawU8 Tryz.underlying86 Tryz.underlying5 (by decide) own2 fm2 72 72 rfl (.func (.func 116) #[.string s] #[])
  have bl3 := bl2.grown gr3 bl2.size (fun k hk => by simp at hk; omega)
  obtain ⟨W4, D4, hr4, own4, fm4, gr4⟩ := upd lawU8 Tryz.underlying86 Tryz.underlying5 (by decide) own3 fm3 76 76 rfl (.func (.func 117) #[.string s] #[])
  have bl4 := bl3.grown gr4 bl3.size (fun k hk => by simp at hk; omega)
  obtain ⟨W5, D5, hr5, own5, fm5, gr5⟩ := upd lawU8 Tryz.underlying86 Tryz.underlying5 (by decide) own4 fm4 77 77 rfl (.func (.func 118) #[.string s] #[])
  have bl5 := bl4.grown gr5 bl4.size (fun k hk => by simp at hk; omega)
  obtain ⟨W6, D6, hr6, own6, fm6, gr6⟩ := upd lawU8 Tryz.underlying86 Tryz.underlying5 (by decide) own5 fm5 78 78 rfl (.func (.func 119) #[.string s] #[])
  have bl6 := bl5.grown gr6 bl5.size (fun k hk => by simp at hk; omega)
  obtain ⟨W7, D7, hr7, own7, fm7, gr7⟩ := upd lawU8 Tryz.underlying86 Tryz.underlying5 (by decide) own6 fm6 83 83 rfl (.func (.func 120) #[.string s] #[])
  have bl7 := bl6.grown gr7 bl6.size (fun k hk => by simp at hk; omega)
  have OWN := Lib.hid (And.intro own7 fm7)
  have BL := Lib.hid bl7
  clear own0 fm0 bl0 own1 fm1 bl1 own2 fm2 bl2 own3 fm3 bl3 own4 fm4 bl4 own5 fm5 bl5 own6 fm6 bl6 own7 fm7 bl7 gr1 gr2 gr3 gr4 gr5 gr6 gr7
  go_enter Tryz.func74, Tryz.ntmps74
  go_wp2
  go_ret
  exact ⟨_, _, _, rfl, OWN, BL.out⟩
end Go.Proofs.YtmjifmlibgpjiaaGreatDoor
