/-
  The walk of the statement ValueRanges: which numbers may stand in which kinds, told by their widths. Condition, as the card has it: the table utf.shapes lies as the program's text lays it.
-/
import Derived.Test.YtdbcdabijolagaaDoorWrk
namespace Go.Proofs.YtdbcdabijolagaaDoor.valueRanges
open Go.RowKit Go.Proofs.YtdbcdabijolagaaDoor.Utf Go.Proofs.YtdbcdabijolagaaDoor.Val V

/-- May a number stand in a kind? -/
noncomputable def ranB (k n : Nat) : Bool := okB (.mk k n ⟨#[]⟩ [])
theorem ran_eq (k n : Nat) (h : k ≠ 23 ∧ k ≠ 24 ∧ k ≠ 25) : ranB k n = aloneOk k n ⟨#[]⟩ 0 := by
  simp [ranB, okB, items, itemsL, depth, depthL, mayB, mayL, kidsOk, h.1, h.2.1, h.2.2]
theorem ran_num (k n : Nat) (h : 2 ≤ k ∧ k ≤ 14) : ranB k n = numB k n := by
  rw [ran_eq k n (by omega)]
  unfold aloneOk
  rw [if_neg (by omega), if_pos h, emp0]
  simp
theorem ran_null (n : Nat) : ranB 1 n = decide (n = 0) := by
  rw [ran_eq 1 n (by omega)]; simp [aloneOk, emp0]
theorem ran_bin (n : Nat) : ranB 19 n = decide (n = 0) := by
  rw [ran_eq 19 n (by omega)]; simp [aloneOk, textB]
theorem ran_list (n : Nat) : ranB 22 n = decide (n = 0) := by
  rw [ran_eq 22 n (by omega)]; simp [aloneOk, emp0]
theorem ran_uuid (n : Nat) : ranB 15 n = false := by
  rw [ran_eq 15 n (by omega)]
  have : textB 15 ⟨#[]⟩ = false := rfl
  simp [aloneOk, this]
theorem ran_26 (n : Nat) : ranB 26 n = false := by
  rw [ran_eq 26 n (by omega)]; simp [aloneOk]
theorem ran_0 (n : Nat) : ranB 0 n = false := by
  rw [ran_eq 0 n (by omega)]; simp [aloneOk]
theorem num_any (k n : Int) (w : World) : Calls Tryd.prog 19 #[.int .u8 k, .int .u64 n] w fun e w' => e = .returned (.agg #[.int .u8 k, .int .u64 n, .string ⟨#[]⟩, .slice none 0 0]) ∧ Below w.heap.size w w' := by
  go_enter Tryd.func19, Tryd.ntmps19
  go_wp2
  exact bodyPost_ret (v := .agg #[.int .u8 k, .int .u64 n, .string ⟨#[]⟩, .slice none 0 0]) (by simp [results, Tryd.results19, go_sem]) rfl ⟨rfl, (Below.refl _ _).alloc (Nat.le_refl _) _⟩
def RanAt (K : Int) (n : Nat) (p : Bool) : Prop := ∀ w, Tab w → Calls Tryd.prog 13 #[.agg #[.int .u8 K, .int .u64 n, .string ⟨#[]⟩, .slice none 0 0]] w (GivesB p w)
theorem RanAt.at {K : Int} {n : Nat} {p : Bool} {w : World} (h : RanAt K n p) (ht : Tab w) : Calls Tryd.prog 13 #[.agg #[.int .u8 K, .int .u64 n, .string ⟨#[]⟩, .slice none 0 0]] w (GivesB p w) := h w ht
theorem ran_at (k n : Nat) (hn : n < 18446744073709551616) (p : Bool) (h : ranB k n = p) : RanAt (k : Int) n p := fun w ht => h ▸ vright_any k n ⟨#[]⟩ [] none 0 0 w (by decide) (by decide) hn (Kd.none_ _ _ _) ht

/-- What stays: memory that was there, the table, and the list of widths. -/
def Low (B : Nat) (X w : World) : Prop := Below B X w ∧ B ≤ w.heap.size ∧ Tab w
theorem Low.tab {B : Nat} {X w : World} (h : Low B X w) : Tab w := h.2.2
theorem Low.call {B : Nat} {X w w' : World} (h : Low B X w) (hb : Below w.heap.size w w') : Low B X w' := ⟨h.1.trans (hb.mono h.2.1), Nat.le_trans h.2.1 hb.size, h.2.2.call hb⟩

theorem round_0 (n : Nat) (hn : n < 18446744073709551616) : ∃ p q1 q2 : Bool, RanAt 3 n p ∧ RanAt 7 n (q1 || q2) ∧ decide ((n : Int) < 256) = p ∧ (((n : Int) / 128 == 0) = q1) ∧ (((n : Int) / 128 == 144115188075855871) = q2) := by
  refine ⟨_, _, _, ran_at 3 n hn (decide ((n : Int) < 256)) ?_, ran_at 7 n hn _ ?_, rfl, rfl, rfl⟩
  · rw [ran_num _ _ (by omega), Bool.eq_iff_iff]; simp [numB]; omega
  · rw [ran_num _ _ (by omega), Bool.eq_iff_iff]; simp [numB, sgB]; omega
theorem round_1 (n : Nat) (hn : n < 18446744073709551616) : ∃ p q1 q2 : Bool, RanAt 4 n p ∧ RanAt 8 n (q1 || q2) ∧ decide ((n : Int) < 65536) = p ∧ (((n : Int) / 32768 == 0) = q1) ∧ (((n : Int) / 32768 == 562949953421311) = q2) := by
  refine ⟨_, _, _, ran_at 4 n hn (decide ((n : Int) < 65536)) ?_, ran_at 8 n hn _ ?_, rfl, rfl, rfl⟩
  · rw [ran_num _ _ (by omega), Bool.eq_iff_iff]; simp [numB]; omega
  · rw [ran_num _ _ (by omega), Bool.eq_iff_iff]; simp [numB, sgB]; omega
theorem round_2 (n : Nat) (hn : n < 18446744073709551616) : ∃ p q1 q2 : Bool, RanAt 5 n p ∧ RanAt 9 n (q1 || q2) ∧ decide ((n : Int) < 4294967296) = p ∧ (((n : Int) / 2147483648 == 0) = q1) ∧ (((n : Int) / 2147483648 == 8589934591) = q2) := by
  refine ⟨_, _, _, ran_at 5 n hn (decide ((n : Int) < 4294967296)) ?_, ran_at 9 n hn _ ?_, rfl, rfl, rfl⟩
  · rw [ran_num _ _ (by omega), Bool.eq_iff_iff]; simp [numB]; omega
  · rw [ran_num _ _ (by omega), Bool.eq_iff_iff]; simp [numB, sgB]; omega
theorem round_3 (n : Nat) (hn : n < 18446744073709551616) : ∃ p q1 q2 : Bool, RanAt 6 n p ∧ RanAt 10 n (q1 || q2) ∧ p = true ∧ (((n : Int) / 9223372036854775808 == 0) = q1) ∧ (((n : Int) / 9223372036854775808 == 1) = q2) := by
  refine ⟨_, _, _, ran_at 6 n hn true ?_, ran_at 10 n hn _ ?_, rfl, rfl, rfl⟩
  · rw [ran_num _ _ (by omega), Bool.eq_iff_iff]; simp [numB]
  · rw [ran_num _ _ (by omega), Bool.eq_iff_iff]; simp [numB]; omega

theorem rest_of (n : Nat) (hn : n < 18446744073709551616) : ∃ p0 p1 p2 c1 c2 c3 : Bool, RanAt 2 n p2 ∧ RanAt 1 n p0 ∧ RanAt 11 n p1 ∧ RanAt 12 n true ∧ RanAt 14 n true ∧ RanAt 19 n p0 ∧ RanAt 22 n p0 ∧ RanAt 15 n false ∧ RanAt 26 n false ∧ RanAt 0 n false ∧ RanAt 13 n (c1 || (c2 && c3)) ∧ decide ((n : Int) < 2) = p2 ∧ ((n : Int) == 0) = p0 ∧ decide ((n : Int) < 4294967296) = p1 ∧ decide ((n : Int) < 55296) = c1 ∧ decide (57344 ≤ (n : Int)) = c2 ∧ decide ((n : Int) < 1114112) = c3 := by
  refine ⟨_, _, _, _, _, _, ran_at 2 n hn _ ?_, ran_at 1 n hn _ ?_, ran_at 11 n hn _ ?_, ran_at 12 n hn _ ?_, ran_at 14 n hn _ ?_, ran_at 19 n hn _ ?_, ran_at 22 n hn _ ?_, ran_at 15 n hn _ ?_, ran_at 26 n hn _ ?_, ran_at 0 n hn _ ?_, ran_at 13 n hn _ ?_, rfl, rfl, rfl, rfl, rfl, rfl⟩
  · rw [ran_num _ _ (by omega), Bool.eq_iff_iff]; simp [numB]; omega
  · rw [ran_null, Bool.eq_iff_iff]; simp
  · rw [ran_num _ _ (by omega), Bool.eq_iff_iff]; simp [numB]; omega
  · rw [ran_num _ _ (by omega), Bool.eq_iff_iff]; simp [numB]
  · rw [ran_num _ _ (by omega), Bool.eq_iff_iff]; simp [numB]
  · rw [ran_bin, Bool.eq_iff_iff]; simp
  · rw [ran_list, Bool.eq_iff_iff]; simp
  · rw [ran_uuid]
  · rw [ran_26]
  · rw [ran_0]
  · rw [ran_num _ _ (by omega), Bool.eq_iff_iff]; simp [numB, isC]; omega

set_option maxRecDepth 100000 in
set_option maxHeartbeats 2000000 in
theorem walk (n : Nat) (w : World) (ht : Tab w) (hn : n < 18446744073709551616) : Calls Tryd.prog 8 #[.int .u64 n] w (GivesB true w) := by
  have hbA : Below w.heap.size w (w.alloc (.cells #[.int .i64 8, .int .i64 16, .int .i64 32, .int .i64 64] 3)) := (Below.refl _ _).alloc (Nat.le_refl _) _
  have hTA := ht.call hbA
  go_enter Tryd.func8, Tryd.ntmps8
  go_wp2_with fail
  go_loopw [4] (fun i wr => ∃ j : Nat, j ≤ 4 ∧ i = .int .i64 j ∧ Low (w.heap.size + 1) (w.alloc (.cells #[.int .i64 8, .int .i64 16, .int .i64 32, .int .i64 64] 3)) wr) (fun i _ => 4 - (intOf i).toNat)
  case atStart => exact ⟨0, by omega, rfl, Below.refl _ _, by simp, hTA⟩
  case round =>
    obtain ⟨j, hj, rfl, hL⟩ := hrel
    by_cases hlt : j < 4
    · obtain ⟨c0, c1, c2, c3⟩ : wr.cell? ⟨w.heap.size, 0, none⟩ = some (.int .i64 8) ∧ wr.cell? ⟨w.heap.size, 1, none⟩ = some (.int .i64 16) ∧ wr.cell? ⟨w.heap.size, 2, none⟩ = some (.int .i64 32) ∧ wr.cell? ⟨w.heap.size, 3, none⟩ = some (.int .i64 64) := by
        refine ⟨?_, ?_, ?_, ?_⟩ <;> (rw [hL.1.cell (by simp)]; simp)
      rcases (show j = 0 ∨ j = 1 ∨ j = 2 ∨ j = 3 by omega) with rfl | rfl | rfl | rfl
      · obtain ⟨p, q1, q2, R3, R7, d1, d2, d3⟩ := round_0 n hn
        clear hn
        cases q1 <;> cases q2
        all_goals
          go_wp2_with (first
            | (go_at_call 19; (with_reducible refine (num_any _ _ _).mono ?_); rintro e w1 ⟨rfl, hb1⟩; have hL := hL.call hb1)
            | (go_at_call 13; (with_reducible refine (R3.at hL.tab).mono ?_); rintro e w2 ⟨rfl, hb2⟩; have hL := hL.call hb2)
            | (go_at_call 13; (with_reducible refine (R7.at hL.tab).mono ?_); rintro e w2 ⟨rfl, hb2⟩; have hL := hL.call hb2))
          go_roundw
          case rel => exact ⟨1, by omega, rfl, hL⟩
          case measure => simp [intOf]
      · obtain ⟨p, q1, q2, R3, R7, d1, d2, d3⟩ := round_1 n hn
        clear hn
        cases q1 <;> cases q2
        all_goals
          go_wp2_with (first
            | (go_at_call 19; (with_reducible refine (num_any _ _ _).mono ?_); rintro e w1 ⟨rfl, hb1⟩; have hL := hL.call hb1)
            | (go_at_call 13; (with_reducible refine (R3.at hL.tab).mono ?_); rintro e w2 ⟨rfl, hb2⟩; have hL := hL.call hb2)
            | (go_at_call 13; (with_reducible refine (R7.at hL.tab).mono ?_); rintro e w2 ⟨rfl, hb2⟩; have hL := hL.call hb2))
          go_roundw
          case rel => exact ⟨2, by omega, rfl, hL⟩
          case measure => simp [intOf]
      · obtain ⟨p, q1, q2, R3, R7, d1, d2, d3⟩ := round_2 n hn
        clear hn
        cases q1 <;> cases q2
        all_goals
          go_wp2_with (first
            | (go_at_call 19; (with_reducible refine (num_any _ _ _).mono ?_); rintro e w1 ⟨rfl, hb1⟩; have hL := hL.call hb1)
            | (go_at_call 13; (with_reducible refine (R3.at hL.tab).mono ?_); rintro e w2 ⟨rfl, hb2⟩; have hL := hL.call hb2)
            | (go_at_call 13; (with_reducible refine (R7.at hL.tab).mono ?_); rintro e w2 ⟨rfl, hb2⟩; have hL := hL.call hb2))
          go_roundw
          case rel => exact ⟨3, by omega, rfl, hL⟩
          case measure => simp [intOf]
      · obtain ⟨p, q1, q2, R3, R7, d1, d2, d3⟩ := round_3 n hn
        clear hn
        cases q1 <;> cases q2
        all_goals
          go_wp2_with (first
            | (go_at_call 19; (with_reducible refine (num_any _ _ _).mono ?_); rintro e w1 ⟨rfl, hb1⟩; have hL := hL.call hb1)
            | (go_at_call 13; (with_reducible refine (R3.at hL.tab).mono ?_); rintro e w2 ⟨rfl, hb2⟩; have hL := hL.call hb2)
            | (go_at_call 13; (with_reducible refine (R7.at hL.tab).mono ?_); rintro e w2 ⟨rfl, hb2⟩; have hL := hL.call hb2))
          go_roundw
          case rel => exact ⟨4, by omega, rfl, hL⟩
          case measure => simp [intOf]
    · obtain ⟨p0, p1, p2, k1, k2, k3, R2, R1, R11, R12, R14, R19, R22, R15, R26, R0, R13, d2, d0, d1, e1, e2, e3⟩ := rest_of n hn
      have hbA2 := Lib.hid hbA
      clear hn hTA ht hbA
      obtain rfl : j = 4 := by omega
      clear hlt hj
      have E1 := Lib.hid e1
      have E2 := Lib.hid e2
      have E3 := Lib.hid e3
      clear e1 e2 e3
      go_upto_region 17 with (first
          | (go_at_call 19; (with_reducible refine (num_any _ _ _).mono ?_); rintro e w1 ⟨rfl, hb1⟩; have hL := hL.call hb1)
          | (go_at_call 13; (with_reducible refine (R2.at hL.tab).mono ?_); rintro e w2 ⟨rfl, hb2⟩; have hL := hL.call hb2)
          | (go_at_call 13; (with_reducible refine (R1.at hL.tab).mono ?_); rintro e w2 ⟨rfl, hb2⟩; have hL := hL.call hb2)
          | (go_at_call 13; (with_reducible refine (R11.at hL.tab).mono ?_); rintro e w2 ⟨rfl, hb2⟩; have hL := hL.call hb2)
          | (go_at_call 13; (with_reducible refine (R12.at hL.tab).mono ?_); rintro e w2 ⟨rfl, hb2⟩; have hL := hL.call hb2)
          | (go_at_call 13; (with_reducible refine (R14.at hL.tab).mono ?_); rintro e w2 ⟨rfl, hb2⟩; have hL := hL.call hb2)
          | (go_at_call 13; (with_reducible refine (R19.at hL.tab).mono ?_); rintro e w2 ⟨rfl, hb2⟩; have hL := hL.call hb2)
          | (go_at_call 13; (with_reducible refine (R22.at hL.tab).mono ?_); rintro e w2 ⟨rfl, hb2⟩; have hL := hL.call hb2)
          | (go_at_call 13; (with_reducible refine (R15.at hL.tab).mono ?_); rintro e w2 ⟨rfl, hb2⟩; have hL := hL.call hb2)
          | (go_at_call 13; (with_reducible refine (R26.at hL.tab).mono ?_); rintro e w2 ⟨rfl, hb2⟩; have hL := hL.call hb2)
          | (go_at_call 13; (with_reducible refine (R0.at hL.tab).mono ?_); rintro e w2 ⟨rfl, hb2⟩; have hL := hL.call hb2)
          | (go_at_call 13; (with_reducible refine (R13.at hL.tab).mono ?_); rintro e w2 ⟨rfl, hb2⟩; have hL := hL.call hb2)
          | fail)
      have e1 := E1.out
      have e2 := E2.out
      have e3 := E3.out
      cases k1 <;> cases k2 <;> cases k3
      all_goals
        go_wp2_with (first
          | (go_at_call 19; (with_reducible refine (num_any _ _ _).mono ?_); rintro e w1 ⟨rfl, hb1⟩; have hL := hL.call hb1)
          | (go_at_call 13; (with_reducible refine (R13.at hL.tab).mono ?_); rintro e w2 ⟨rfl, hb2⟩; have hL := hL.call hb2)
          | (go_at_call 11; (with_reducible refine (works_any _ hL.tab).mono ?_); rintro e w3 ⟨rfl, hb3⟩; have hL := hL.call hb3))
        go_ret
        exact ⟨rfl, hbA2.out.trans (hL.1.mono (by omega))⟩
end Go.Proofs.YtdbcdabijolagaaDoor.valueRanges
