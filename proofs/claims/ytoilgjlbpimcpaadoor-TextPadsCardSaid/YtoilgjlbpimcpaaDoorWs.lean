/- The other program's Strip. -/
import Derived.Test.YtoilgjlbpimcpaaDoorWr
namespace Go.Proofs.YtoilgjlbpimcpaaDoor
open Go.RowKit Go.Shelf Tx
set_option linter.unusedVariables false
set_option maxRecDepth 100000

set_option maxHeartbeats 4000000 in
theorem RStrip_any (s : ByteArray) (side : Int) (c : UInt8) (w : World) (hss : s.size ≤ maxLen) :
    Calls Tryd.prog 30 #[.string s, .int .i64 side, .int .u8 (c.toNat : Int)] w (GivesA w (stripR (bts s) side (c.toNat : Int))) := by
  have KVs := fun (W : World) => Lib.hid (RValid_any s W hss)
  have KPc := fun (W : World) => Lib.hid (RPad_any (c.toNat : Int) W)
  cases hv0 : validL (bts s) with
  | false =>
    rw [hv0] at KVs
    have HR := Lib.hid (show stripR (bts s) side (c.toNat : Int) = ([], 1) by unfold stripR guardR; simp only [hv0, Bool.and_false, Bool.false_and, Bool.true_and, Bool.and_true]; rfl)
    clear hv0
    go_enter Tryd.func30, Tryd.ntmps30
    go_wp2_with (first
      | (go_at_call 32; (with_reducible refine Calls.mono (KVs _).out ?_); rintro e w1 ⟨rfl, rfl⟩))
    refine bodyPost_ret (v := .agg #[.string ⟨#[]⟩, .int .i64 1]) (by simp [results, Tryd.results30, go_sem]) rfl ?_
    exact givesA HR.out rfl ((Below.refl _ w).alloc (Nat.le_refl _) _)
  | true =>
    rw [hv0] at KVs
    cases hv1 : padI (c.toNat : Int) with
    | false =>
      rw [hv1] at KPc
      have HR := Lib.hid (show stripR (bts s) side (c.toNat : Int) = ([], 1) by unfold stripR guardR; simp only [hv0, hv1, Bool.and_false, Bool.false_and, Bool.true_and, Bool.and_true]; rfl)
      clear hv0 hv1
      go_enter Tryd.func30, Tryd.ntmps30
      go_wp2_with (first
        | (go_at_call 32; (with_reducible refine Calls.mono (KVs _).out ?_); rintro e w1 ⟨rfl, rfl⟩)
        | (go_at_call 107; (with_reducible refine Calls.mono (KPc _).out ?_); rintro e w1 ⟨rfl, rfl⟩))
      refine bodyPost_ret (v := .agg #[.string ⟨#[]⟩, .int .i64 1]) (by simp [results, Tryd.results30, go_sem]) rfl ?_
      exact givesA HR.out rfl ((Below.refl _ w).alloc (Nat.le_refl _) _)
    | true =>
      rw [hv1] at KPc
      have hlen := valid_le hv0
      by_cases hs0 : 0 ≤ side
      · by_cases hs2 : side ≤ 2
        · rcases (show side = 0 ∨ side = 1 ∨ side = 2 by omega) with rfl | rfl | rfl
          · clear hs0 hs2
            have HR0 := Lib.hid (show stripR (bts s) 0 (c.toNat : Int) = (stripB 0 (bts s) c, 0) by unfold stripR guardR; rw [hv0, hv1, pb_u8]; rfl)
            clear hv0 hv1 hss
            go_enter Tryd.func30, Tryd.ntmps30
            go_wp2_with (first
              | (go_at_call 32; (with_reducible refine Calls.mono (KVs _).out ?_); rintro e w1 ⟨rfl, rfl⟩)
              | (go_at_call 107; (with_reducible refine Calls.mono (KPc _).out ?_); rintro e w1 ⟨rfl, rfl⟩))
            go_loop [7] (fun f => ∃ k : Nat, f = .int .i64 k ∧ k ≤ s.size ∧ Hid (∀ j, j < k → (bts s)[j]? = some c)) (fun f => s.size - (intOf f).toNat)
            case atStart => exact ⟨0, rfl, Nat.zero_le _, Lib.hid (fun j h => by omega)⟩
            case round =>
              obtain ⟨k, rfl, hk, hkk⟩ := hrel
              by_cases hlt : k < s.size
              · by_cases hc : s[k] = c
                · have HN := Lib.hid (show ∀ j, j < k + 1 → (bts s)[j]? = some c from fun j h => by
                    by_cases e : j = k
                    · subst e; rw [bts_get s hlt, hc]
                    · exact hkk.out j (by omega))
                  have hc3 : (s[k].toNat : Int) = (c.toNat : Int) := by rw [hc]
                  go_wp2
                  go_round
                  case rel => exact ⟨k + 1, by go_num, by omega, HN⟩
                  case measure => simp [intOf]; omega
                · have HA := Lib.hid (show lead (bts s) c = k from lead_stop (by rw [bts_length]; exact hk) hkk.out (.inr (str_cell_ne hlt hc)))
                  have hc3 : ¬ (s[k].toNat : Int) = (c.toNat : Int) := fun h => hc (UInt8.toNat_inj.1 (by omega))
                  clear hc
                  go_wp2
                  go_loop [8] (fun t => ∃ q : Nat, t = .int .i64 q ∧ k ≤ q ∧ q ≤ s.size ∧ Hid (∀ j, q ≤ j → j < s.size → (bts s)[j]? = some c)) (fun t => (intOf t).toNat)
                  case atStart => exact ⟨s.size, rfl, hk, Nat.le_refl _, Lib.hid (fun j h1 h2 => by omega)⟩
                  case round =>
                    obtain ⟨q, rfl, hq1, hq2, hqq⟩ := hrel
                    by_cases haq : k < q
                    · obtain ⟨r, rfl⟩ : ∃ r, q = r + 1 := ⟨q - 1, by omega⟩
                      have hri : ((r + 1 : Nat) : Int) = (r : Int) + 1 := by omega
                      have hrs : r < s.size := by omega
                      rw [hri]
                      by_cases hc2 : s[r] = c
                      · have HN := Lib.hid (show ∀ j, r ≤ j → j < s.size → (bts s)[j]? = some c from fun j h1 h2 => by
                          by_cases e : j = r
                          · subst e; rw [bts_get s hrs, hc2]
                          · exact hqq.out j (by omega) h2)
                        have hc3 : (s[r].toNat : Int) = (c.toNat : Int) := by rw [hc2]
                        clear hri
                        go_wp2
                        go_round
                        case rel => exact ⟨r, by first | rfl | go_num, by omega, by omega, HN⟩
                        case measure => simp [intOf]
                      · have HT := Lib.hid (show trail (bts s) c k = r + 1 from trail_stop hq1 (by rw [bts_length]; exact hq2) (fun j h1 h2 => hqq.out j h1 (by rwa [bts_length] at h2)) (.inr (by rw [Nat.add_sub_cancel]; exact str_cell_ne hrs hc2)))
                        have hc3 : ¬ (s[r].toNat : Int) = (c.toNat : Int) := fun h => hc2 (UInt8.toNat_inj.1 (by omega))
                        clear hri hc2
                        go_wp2
                        refine bodyPost_ret (v := .agg #[.string (s.extract k (r + 1)), .int .i64 0]) (by simp [results, Tryd.results30, go_sem]) rfl ?_
                        exact givesA (by rw [HR0.out]; unfold stripB; rw [show fromS 0 (bts s) c = k by unfold fromS; rw [if_neg (by decide)]; exact HA.out, show toS 0 (bts s) c k = (r + 1) by unfold toS; rw [if_neg (by decide)]; exact HT.out]; first | (rw [bts_extract]; done) | (rw [Nat.sub_self, List.take_zero]; rfl)) rfl ((Below.refl _ w).alloc (Nat.le_refl _) _)
                    · obtain rfl : q = k := by omega
                      have HT := Lib.hid (show trail (bts s) c q = q from trail_stop (Nat.le_refl _) (by rw [bts_length]; exact hq2) (fun j h1 h2 => hqq.out j h1 (by rwa [bts_length] at h2)) (.inl rfl))
                      go_wp2
                      refine bodyPost_ret (v := .agg #[.string (s.extract q q), .int .i64 0]) (by simp [results, Tryd.results30, go_sem]) rfl ?_
                      exact givesA (by rw [HR0.out]; unfold stripB; rw [show fromS 0 (bts s) c = q by unfold fromS; rw [if_neg (by decide)]; exact HA.out, show toS 0 (bts s) c q = q by unfold toS; rw [if_neg (by decide)]; exact HT.out]; first | (rw [bts_extract]; done) | (rw [Nat.sub_self, List.take_zero]; rfl)) rfl ((Below.refl _ w).alloc (Nat.le_refl _) _)
              · have hkn : (k : Int) = (s.size : Int) := by omega
                have HA := Lib.hid (show lead (bts s) c = k from lead_stop (by rw [bts_length]; exact hk) hkk.out (.inl (by rw [bts_length]; omega)))
                clear hkn
                go_wp2
                go_loop [8] (fun t => ∃ q : Nat, t = .int .i64 q ∧ k ≤ q ∧ q ≤ s.size ∧ Hid (∀ j, q ≤ j → j < s.size → (bts s)[j]? = some c)) (fun t => (intOf t).toNat)
                case atStart => exact ⟨s.size, rfl, hk, Nat.le_refl _, Lib.hid (fun j h1 h2 => by omega)⟩
                case round =>
                  obtain ⟨q, rfl, hq1, hq2, hqq⟩ := hrel
                  by_cases haq : k < q
                  · exfalso; omega
                  · obtain rfl : q = k := by omega
                    have HT := Lib.hid (show trail (bts s) c q = q from trail_stop (Nat.le_refl _) (by rw [bts_length]; exact hq2) (fun j h1 h2 => hqq.out j h1 (by rwa [bts_length] at h2)) (.inl rfl))
                    go_wp2
                    refine bodyPost_ret (v := .agg #[.string (s.extract q q), .int .i64 0]) (by simp [results, Tryd.results30, go_sem]) rfl ?_
                    exact givesA (by rw [HR0.out]; unfold stripB; rw [show fromS 0 (bts s) c = q by unfold fromS; rw [if_neg (by decide)]; exact HA.out, show toS 0 (bts s) c q = q by unfold toS; rw [if_neg (by decide)]; exact HT.out]; first | (rw [bts_extract]; done) | (rw [Nat.sub_self, List.take_zero]; rfl)) rfl ((Below.refl _ w).alloc (Nat.le_refl _) _)
          · clear hs0 hs2
            have HR0 := Lib.hid (show stripR (bts s) 1 (c.toNat : Int) = (stripB 1 (bts s) c, 0) by unfold stripR guardR; rw [hv0, hv1, pb_u8]; rfl)
            clear hv0 hv1 hss
            go_enter Tryd.func30, Tryd.ntmps30
            go_wp2_with (first
              | (go_at_call 32; (with_reducible refine Calls.mono (KVs _).out ?_); rintro e w1 ⟨rfl, rfl⟩)
              | (go_at_call 107; (with_reducible refine Calls.mono (KPc _).out ?_); rintro e w1 ⟨rfl, rfl⟩))
            go_loop [7] (fun f => ∃ k : Nat, f = .int .i64 k ∧ k ≤ s.size ∧ Hid (∀ j, j < k → (bts s)[j]? = some c)) (fun f => s.size - (intOf f).toNat)
            case atStart => exact ⟨0, rfl, Nat.zero_le _, Lib.hid (fun j h => by omega)⟩
            case round =>
              obtain ⟨k, rfl, hk, hkk⟩ := hrel
              by_cases hlt : k < s.size
              · by_cases hc : s[k] = c
                · have HN := Lib.hid (show ∀ j, j < k + 1 → (bts s)[j]? = some c from fun j h => by
                    by_cases e : j = k
                    · subst e; rw [bts_get s hlt, hc]
                    · exact hkk.out j (by omega))
                  have hc3 : (s[k].toNat : Int) = (c.toNat : Int) := by rw [hc]
                  go_wp2
                  go_round
                  case rel => exact ⟨k + 1, by go_num, by omega, HN⟩
                  case measure => simp [intOf]; omega
                · have HA := Lib.hid (show lead (bts s) c = k from lead_stop (by rw [bts_length]; exact hk) hkk.out (.inr (str_cell_ne hlt hc)))
                  have hc3 : ¬ (s[k].toNat : Int) = (c.toNat : Int) := fun h => hc (UInt8.toNat_inj.1 (by omega))
                  clear hc
                  go_wp2
                  go_loop [8] (fun t => t = .int .i64 (s.size : Int)) (fun t => 0)
                  case atStart => rfl
                  case round =>
                    obtain rfl := hrel
                    go_wp2
                    refine bodyPost_ret (v := .agg #[.string (s.extract k s.size), .int .i64 0]) (by simp [results, Tryd.results30, go_sem]) rfl ?_
                    exact givesA (by rw [HR0.out]; unfold stripB; rw [show fromS 1 (bts s) c = k by unfold fromS; rw [if_neg (by decide)]; exact HA.out, show toS 1 (bts s) c k = s.size by unfold toS; rw [if_pos rfl, bts_length]]; first | (rw [bts_extract]; done) | (rw [Nat.sub_self, List.take_zero]; rfl)) rfl ((Below.refl _ w).alloc (Nat.le_refl _) _)
              · have hkn : (k : Int) = (s.size : Int) := by omega
                have HA := Lib.hid (show lead (bts s) c = k from lead_stop (by rw [bts_length]; exact hk) hkk.out (.inl (by rw [bts_length]; omega)))
                clear hkn
                go_wp2
                go_loop [8] (fun t => t = .int .i64 (s.size : Int)) (fun t => 0)
                case atStart => rfl
                case round =>
                  obtain rfl := hrel
                  go_wp2
                  refine bodyPost_ret (v := .agg #[.string (s.extract k s.size), .int .i64 0]) (by simp [results, Tryd.results30, go_sem]) rfl ?_
                  exact givesA (by rw [HR0.out]; unfold stripB; rw [show fromS 1 (bts s) c = k by unfold fromS; rw [if_neg (by decide)]; exact HA.out, show toS 1 (bts s) c k = s.size by unfold toS; rw [if_pos rfl, bts_length]]; first | (rw [bts_extract]; done) | (rw [Nat.sub_self, List.take_zero]; rfl)) rfl ((Below.refl _ w).alloc (Nat.le_refl _) _)
          · clear hs0 hs2
            have HR0 := Lib.hid (show stripR (bts s) 2 (c.toNat : Int) = (stripB 2 (bts s) c, 0) by unfold stripR guardR; rw [hv0, hv1, pb_u8]; rfl)
            clear hv0 hv1 hss
            go_enter Tryd.func30, Tryd.ntmps30
            go_wp2_with (first
              | (go_at_call 32; (with_reducible refine Calls.mono (KVs _).out ?_); rintro e w1 ⟨rfl, rfl⟩)
              | (go_at_call 107; (with_reducible refine Calls.mono (KPc _).out ?_); rintro e w1 ⟨rfl, rfl⟩))
            go_loop [7] (fun f => f = .int .i64 0) (fun f => 0)
            case atStart => rfl
            case round =>
              obtain rfl := hrel
              go_wp2
              go_loop [8] (fun t => ∃ q : Nat, t = .int .i64 q ∧ 0 ≤ q ∧ q ≤ s.size ∧ Hid (∀ j, q ≤ j → j < s.size → (bts s)[j]? = some c)) (fun t => (intOf t).toNat)
              case atStart => exact ⟨s.size, rfl, Nat.zero_le _, Nat.le_refl _, Lib.hid (fun j h1 h2 => by omega)⟩
              case round =>
                obtain ⟨q, rfl, hq1, hq2, hqq⟩ := hrel
                by_cases haq : 0 < q
                · obtain ⟨r, rfl⟩ : ∃ r, q = r + 1 := ⟨q - 1, by omega⟩
                  have hri : ((r + 1 : Nat) : Int) = (r : Int) + 1 := by omega
                  have hrs : r < s.size := by omega
                  rw [hri]
                  by_cases hc2 : s[r] = c
                  · have HN := Lib.hid (show ∀ j, r ≤ j → j < s.size → (bts s)[j]? = some c from fun j h1 h2 => by
                      by_cases e : j = r
                      · subst e; rw [bts_get s hrs, hc2]
                      · exact hqq.out j (by omega) h2)
                    have hc3 : (s[r].toNat : Int) = (c.toNat : Int) := by rw [hc2]
                    clear hri
                    go_wp2
                    go_round
                    case rel => exact ⟨r, by first | rfl | go_num, by omega, by omega, HN⟩
                    case measure => simp [intOf]
                  · have HT := Lib.hid (show trail (bts s) c 0 = r + 1 from trail_stop hq1 (by rw [bts_length]; exact hq2) (fun j h1 h2 => hqq.out j h1 (by rwa [bts_length] at h2)) (.inr (by rw [Nat.add_sub_cancel]; exact str_cell_ne hrs hc2)))
                    have hc3 : ¬ (s[r].toNat : Int) = (c.toNat : Int) := fun h => hc2 (UInt8.toNat_inj.1 (by omega))
                    clear hri hc2
                    go_wp2
                    refine bodyPost_ret (v := .agg #[.string (s.extract 0 (r + 1)), .int .i64 0]) (by simp [results, Tryd.results30, go_sem]) rfl ?_
                    exact givesA (by rw [HR0.out]; unfold stripB; rw [show fromS 2 (bts s) c = 0 from rfl, show toS 2 (bts s) c 0 = (r + 1) by unfold toS; rw [if_neg (by decide)]; exact HT.out]; first | (rw [bts_extract]; done) | (rw [Nat.sub_self, List.take_zero]; rfl)) rfl ((Below.refl _ w).alloc (Nat.le_refl _) _)
                · have hq0 : q = 0 := by omega
                  subst hq0
                  have HT := Lib.hid (show trail (bts s) c 0 = 0 from trail_stop (Nat.le_refl _) (by rw [bts_length]; exact hq2) (fun j h1 h2 => hqq.out j h1 (by rwa [bts_length] at h2)) (.inl rfl))
                  go_wp2
                  refine bodyPost_ret (v := .agg #[.string (s.extract 0 0), .int .i64 0]) (by simp [results, Tryd.results30, go_sem]) rfl ?_
                  exact givesA (by rw [HR0.out]; unfold stripB; rw [show fromS 2 (bts s) c = 0 from rfl, show toS 2 (bts s) c 0 = 0 by unfold toS; rw [if_neg (by decide)]; exact HT.out]; first | (rw [bts_extract]; done) | (rw [Nat.sub_self, List.take_zero]; rfl)) rfl ((Below.refl _ w).alloc (Nat.le_refl _) _)
        · have HR := Lib.hid (show stripR (bts s) side (c.toNat : Int) = ([], 1) by unfold stripR guardR; simp [hs2])
          have e0 : (side != 0) = true := by simp; omega
          have e1 : (side != 1) = true := by simp; omega
          have e2 : (side != 2) = true := by simp; omega
          clear hv0 hv1 hss
          go_enter Tryd.func30, Tryd.ntmps30
          go_wp2_with (first
            | (go_at_call 32; (with_reducible refine Calls.mono (KVs _).out ?_); rintro e w1 ⟨rfl, rfl⟩)
            | (go_at_call 107; (with_reducible refine Calls.mono (KPc _).out ?_); rintro e w1 ⟨rfl, rfl⟩))
          refine bodyPost_ret (v := .agg #[.string ⟨#[]⟩, .int .i64 1]) (by simp [results, Tryd.results30, go_sem]) rfl ?_
          exact givesA HR.out rfl ((Below.refl _ w).alloc (Nat.le_refl _) _)
      · have HR := Lib.hid (show stripR (bts s) side (c.toNat : Int) = ([], 1) by unfold stripR guardR; simp [hs0])
        have e0 : (side != 0) = true := by simp; omega
        have e1 : (side != 1) = true := by simp; omega
        have e2 : (side != 2) = true := by simp; omega
        clear hv0 hv1 hss
        go_enter Tryd.func30, Tryd.ntmps30
        go_wp2_with (first
          | (go_at_call 32; (with_reducible refine Calls.mono (KVs _).out ?_); rintro e w1 ⟨rfl, rfl⟩)
          | (go_at_call 107; (with_reducible refine Calls.mono (KPc _).out ?_); rintro e w1 ⟨rfl, rfl⟩))
        refine bodyPost_ret (v := .agg #[.string ⟨#[]⟩, .int .i64 1]) (by simp [results, Tryd.results30, go_sem]) rfl ?_
        exact givesA HR.out rfl ((Below.refl _ w).alloc (Nat.le_refl _) _)
end Go.Proofs.YtoilgjlbpimcpaaDoor
