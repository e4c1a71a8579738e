/- sane: the examples of the chapter. -/
import Derived.Test.YtmjifmlibgpjiaaGreatDoorDr
import Derived.Test.YtmjifmlibgpjiaaGreatDoorDk
import Derived.Test.YtmjifmlibgpjiaaGreatDoorDp
import Derived.Test.YtmjifmlibgpjiaaGreatDoorCh
namespace Go.Proofs.YtmjifmlibgpjiaaGreatDoor
open Go.RowKit Go.Shelf Tx Go.Maps
set_option linter.unusedVariables false
set_option maxRecDepth 100000

theorem dt0 : IsDate 730178 2000 2 29 := ⟨by decide, by decide, by decide, by decide, by decide, by decide⟩
theorem dt1 (n : Nat) : ¬ IsCal n 1900 2 29 := by
  rintro ⟨y, m, k, hy, hm, hk, h, _⟩
  obtain rfl : y = 1900 := by omega
  obtain rfl : m = 2 := by omega
  obtain rfl : k = 29 := by omega
  exact absurd h.kd (by decide)
theorem wk0 : IsWeek 737790 2020 53 5 := by
  have h : IsDate (thu 737790) 2020 12 31 := ⟨by decide, by decide, by decide, by decide, by decide, by decide⟩
  exact ⟨h.isYear, by decide, by decide⟩
theorem bts_lit (l : List UInt8) : bts ⟨⟨l⟩⟩ = l := rfl
theorem sufOk_lit (s : ByteArray) (hs : s.size ≤ 1000000) (ha : ∀ b ∈ bts s, b.toNat < 128) : SufOk s := by
  rintro t ⟨k, hk⟩
  have hl : t.size ≤ s.size := by
    have := congrArg List.length hk
    rw [List.length_drop] at this
    have e1 : (bts t).length = t.size := Array.length_toList
    have e2 : (bts s).length = s.size := Array.length_toList
    omega
  refine idxOk_ascii t (by omega) (fun j b hj => ha b ?_)
  have e : (bts t)[j]? = some b := hj
  rw [hk] at e
  exact List.mem_of_mem_drop (List.mem_of_getElem? e)
theorem s_B : bts ⟨#[55, 51, 48, 49, 55, 56]⟩ = Lib.decDigits 730178 := by simp [bts, Lib.decDigits]
theorem s_60 : bts ⟨#[54, 48]⟩ = Lib.decDigits 60 := by simp [bts, Lib.decDigits]
theorem s_C : bts ⟨#[54, 48]⟩ = Lib.decDigits (730178 - bef (cenY 2000 - 1) + 1) := by
  have e : 730178 - bef (cenY 2000 - 1) + 1 = 60 := by decide
  rw [e]; exact s_60
theorem s_D : bts ⟨#[54, 48]⟩ = Lib.decDigits (730178 - bef (2000 - 1) + 1) := by
  have e : 730178 - bef (2000 - 1) + 1 = 60 := by decide
  rw [e]; exact s_60
theorem s_I : bts ⟨#[50, 48, 48, 48, 45, 48, 50, 45, 50, 57]⟩ = longL [45] 2000 2 29 := by simp [bts, longL, Lib.join, padd, Lib.decDigits]
theorem s_N : bts ⟨#[50, 57, 32, 70, 101, 98, 32, 50, 48, 48, 48]⟩ = normL 2000 2 29 := by simp [bts, normL, monN, monL, padd, Lib.decDigits]
theorem s_O : bts ⟨#[48, 48, 47, 48, 50, 47, 50, 57]⟩ = shortL (2000 % 100) (2 % 100) (29 % 100) := by simp [bts, shortL, Lib.join, padd, Lib.decDigits]
theorem s_W : bts ⟨#[84, 117, 101, 115, 100, 97, 121]⟩ = dayN (730178 % 7) := by
  first | rfl | decide | simp [bts, dayN, dayL]
theorem s_E : bts ⟨#[50, 57, 47, 48, 50, 47, 48, 48]⟩ = shortL (29 % 100) (2 % 100) (2000 % 100) := by simp [bts, shortL, Lib.join, padd, Lib.decDigits]
theorem t_C : bts ⟨#[49, 58, 48, 53, 112, 109]⟩ = civL 47105000012 := by simp [bts, civL, hourF, minF, Lib.join, padd, Lib.decDigits]
theorem t_C0 : bts ⟨#[49, 58, 48, 53, 112, 109]⟩ = civL 47100000000 := by simp [bts, civL, hourF, minF, Lib.join, padd, Lib.decDigits]
theorem t_L : bts ⟨#[49, 51, 58, 48, 53, 58, 48, 53, 46, 48, 48, 48, 48, 49, 50]⟩ = longT 47105000012 := by simp [bts, longT, hmsL, minF, secF, Lib.join, padd, Lib.decDigits]
theorem t_M : bts ⟨#[55, 56, 53]⟩ = Lib.decDigits (47105000012 / 60000000) := by simp [bts, Lib.decDigits]
theorem e_S : bts ⟨#[49, 46, 53, 48, 48, 48, 48, 48]⟩ = Lib.join [padd (1500000 / 1000000) 1, padd (1500000 % 1000000) 6] [46] := by simp [bts, Lib.join, padd, Lib.decDigits]
theorem n_1 : num1 (bts ⟨#[50, 57, 47, 48, 50, 47, 48, 48]⟩) = ((29 : Nat) : Int) ∧ num2 (bts ⟨#[50, 57, 47, 48, 50, 47, 48, 48]⟩) = ((2 : Nat) : Int) ∧ fyR 2000 (num3 (bts ⟨#[50, 57, 47, 48, 50, 47, 48, 48]⟩)) = ((2000 : Nat) : Int) := ⟨by decide, by decide, by decide⟩
theorem n_2 : num1 (bts ⟨#[49, 58, 48, 53, 112, 109]⟩) = ((1 : Nat) : Int) ∧ num2 (bts ⟨#[49, 58, 48, 53, 112, 109]⟩) = ((5 : Nat) : Int) := ⟨by decide, by decide⟩
theorem a_E : ∀ b ∈ bts ⟨#[50, 57, 47, 48, 50, 47, 48, 48]⟩, b.toNat < 128 := by decide
theorem a_P : ∀ b ∈ bts ⟨#[49, 58, 48, 53, 112, 109]⟩, b.toNat < 128 := by decide
theorem k_DayOf (W : World) : Calls Tryz.prog 15 #[.int .i64 2000, .int .i64 2, .int .i64 29] W (Gives W #[.int .i64 730178, .int .i64 0]) := DayOf_ok 730178 2000 2 29 W dt0 (by decide)
theorem k_DateOf (W : World) : Calls Tryz.prog 17 #[.int .i64 730178] W (Gives W #[.int .i64 2000, .int .i64 2, .int .i64 29, .int .i64 0]) := DateOf_ok 730178 2000 2 29 W dt0 (by decide)
theorem k_DayOfB (W : World) : Calls Tryz.prog 15 #[.int .i64 1900, .int .i64 2, .int .i64 29] W (Gives W #[.int .i64 0, .int .i64 1]) := DayOf_bad 1900 2 29 W dt1
theorem k_Weekday (W : World) : Calls Tryz.prog 19 #[.int .i64 730178] W (Gives W #[.int .i64 1, .int .i64 0]) := Weekday_ok 730178 W (by decide)
theorem k_Week (W : World) : Calls Tryz.prog 24 #[.int .i64 737790] W (Gives W #[.int .i64 2020, .int .i64 53, .int .i64 5, .int .i64 0]) := Week_ok 737790 2020 53 5 W wk0 (by decide)
theorem k_ReadDay (W : World) (hW : Env W) : Calls Tryz.prog 30 #[.string ⟨#[50, 57, 47, 48, 50, 47, 48, 48]⟩, .int .u8 69, .int .i64 730178] W (Gives W #[.int .i64 730178, .int .i64 0]) := ReadDay_E_yes ⟨#[50, 57, 47, 48, 50, 47, 48, 48]⟩ 730178 2000 2 29 730178 2000 2 29 W dt0 (by decide) dt0 (by decide) n_1.2.2 n_1.2.1 n_1.1 s_E (by decide) (sufOk_lit _ (by decide) a_E) hW
theorem k_ReadTime (W : World) (hW : Env W) : Calls Tryz.prog 34 #[.string ⟨#[49, 58, 48, 53, 112, 109]⟩, .int .u8 67] W (Gives W #[.int .i64 47100000000, .int .i64 0]) := ReadTime_C1_yes ⟨#[49, 58, 48, 53, 112, 109]⟩ 1 5 47100000000 W (by decide) (sufOk_lit _ (by decide) a_P) n_2.1 n_2.2 (by decide) (by decide) (by decide) (by decide) (by decide) (by decide) (by decide) t_C0 hW
theorem k_Elapsed (W : World) (hW : Env W) : Calls Tryz.prog 36 #[.int .i64 1500000] W (GivesSE W (Lib.join [padd (1500000 / 1000000) 1, padd (1500000 % 1000000) 6] [46])) := Elapsed_pos 1500000 W (by decide) (by decide) hW
theorem k_dB (W : World) (hW : Env W) : Calls Tryz.prog 54 #[.int .i64 730178, .int .u8 66, .string ⟨#[55, 51, 48, 49, 55, 56]⟩] W fun e w' => e = .returned (.bool true) ∧ Below W.heap.size W w' := ldate_any 730178 66 ⟨#[55, 51, 48, 49, 55, 56]⟩ _ W (Date_B 730178 2000 2 29 W dt0 (by decide) hW) s_B
theorem k_dC (W : World) (hW : Env W) : Calls Tryz.prog 54 #[.int .i64 730178, .int .u8 67, .string ⟨#[54, 48]⟩] W fun e w' => e = .returned (.bool true) ∧ Below W.heap.size W w' := ldate_any 730178 67 ⟨#[54, 48]⟩ _ W (Date_C 730178 2000 2 29 W dt0 (by decide) hW) s_C
theorem k_dD (W : World) (hW : Env W) : Calls Tryz.prog 54 #[.int .i64 730178, .int .u8 68, .string ⟨#[54, 48]⟩] W fun e w' => e = .returned (.bool true) ∧ Below W.heap.size W w' := ldate_any 730178 68 ⟨#[54, 48]⟩ _ W (Date_D 730178 2000 2 29 W dt0 (by decide) hW) s_D
theorem k_dI (W : World) (hW : Env W) : Calls Tryz.prog 54 #[.int .i64 730178, .int .u8 73, .string ⟨#[50, 48, 48, 48, 45, 48, 50, 45, 50, 57]⟩] W fun e w' => e = .returned (.bool true) ∧ Below W.heap.size W w' := ldate_any 730178 73 ⟨#[50, 48, 48, 48, 45, 48, 50, 45, 50, 57]⟩ _ W (Date_I 730178 2000 2 29 W dt0 (by decide) hW) s_I
theorem k_dN (W : World) (hW : Env W) : Calls Tryz.prog 54 #[.int .i64 730178, .int .u8 78, .string ⟨#[50, 57, 32, 70, 101, 98, 32, 50, 48, 48, 48]⟩] W fun e w' => e = .returned (.bool true) ∧ Below W.heap.size W w' := ldate_any 730178 78 ⟨#[50, 57, 32, 70, 101, 98, 32, 50, 48, 48, 48]⟩ _ W (Date_N 730178 2000 2 29 W dt0 (by decide) hW) s_N
theorem k_dO (W : World) (hW : Env W) : Calls Tryz.prog 54 #[.int .i64 730178, .int .u8 79, .string ⟨#[48, 48, 47, 48, 50, 47, 50, 57]⟩] W fun e w' => e = .returned (.bool true) ∧ Below W.heap.size W w' := ldate_any 730178 79 ⟨#[48, 48, 47, 48, 50, 47, 50, 57]⟩ _ W (Date_O 730178 2000 2 29 W dt0 (by decide) hW) s_O
theorem k_dW (W : World) (hW : Env W) : Calls Tryz.prog 54 #[.int .i64 730178, .int .u8 87, .string ⟨#[84, 117, 101, 115, 100, 97, 121]⟩] W fun e w' => e = .returned (.bool true) ∧ Below W.heap.size W w' := ldate_any 730178 87 ⟨#[84, 117, 101, 115, 100, 97, 121]⟩ _ W (Date_W 730178 2000 2 29 W dt0 (by decide) hW) s_W
theorem k_tC (W : World) (hW : Env W) : Calls Tryz.prog 55 #[.int .i64 47105000012, .int .u8 67, .string ⟨#[49, 58, 48, 53, 112, 109]⟩] W fun e w' => e = .returned (.bool true) ∧ Below W.heap.size W w' := lclock_any 47105000012 67 ⟨#[49, 58, 48, 53, 112, 109]⟩ _ W (Time_C 47105000012 W (by decide) hW) t_C
theorem k_tL (W : World) (hW : Env W) : Calls Tryz.prog 55 #[.int .i64 47105000012, .int .u8 76, .string ⟨#[49, 51, 58, 48, 53, 58, 48, 53, 46, 48, 48, 48, 48, 49, 50]⟩] W fun e w' => e = .returned (.bool true) ∧ Below W.heap.size W w' := lclock_any 47105000012 76 ⟨#[49, 51, 58, 48, 53, 58, 48, 53, 46, 48, 48, 48, 48, 49, 50]⟩ _ W (Time_L 47105000012 W (by decide) hW) t_L
theorem k_tM (W : World) (hW : Env W) : Calls Tryz.prog 55 #[.int .i64 47105000012, .int .u8 77, .string ⟨#[55, 56, 53]⟩] W fun e w' => e = .returned (.bool true) ∧ Below W.heap.size W w' := lclock_any 47105000012 77 ⟨#[55, 56, 53]⟩ _ W (Time_M 47105000012 W (by decide) hW) t_M
end Go.Proofs.YtmjifmlibgpjiaaGreatDoor
