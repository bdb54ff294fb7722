/-
  Contract of rightNumber.
-/
import Derived.Test.YtdbcdabijolagaaDoorNum
namespace Go.Proofs.YtdbcdabijolagaaDoor.Val
open Go.RowKit Go.Proofs.YtdbcdabijolagaaDoor.Utf V

theorem rn2 (n : Nat) (w : World) : Calls Tryd.prog 51 #[.int .u8 2, .int .u64 n] w (GivesB (decide (n ≤ 1)) w) := by
  have HE := Lib.hid (dec_nat' n 1)
  go_enter Tryd.func51, Tryd.ntmps51
  go_wp2
  go_ret
  exact ⟨congrArg (fun b => Ending.returned (.bool b)) HE.out, Below.refl _ _⟩

theorem rn3 (n : Nat) (w : World) : Calls Tryd.prog 51 #[.int .u8 3, .int .u64 n] w (GivesB (decide (n < 256)) w) := by
  have HE := Lib.hid (dec_nat n 256)
  go_enter Tryd.func51, Tryd.ntmps51
  go_wp2
  go_ret
  exact ⟨congrArg (fun b => Ending.returned (.bool b)) HE.out, Below.refl _ _⟩

theorem rn4 (n : Nat) (w : World) : Calls Tryd.prog 51 #[.int .u8 4, .int .u64 n] w (GivesB (decide (n < 65536)) w) := by
  have HE := Lib.hid (dec_nat n 65536)
  go_enter Tryd.func51, Tryd.ntmps51
  go_wp2
  go_ret
  exact ⟨congrArg (fun b => Ending.returned (.bool b)) HE.out, Below.refl _ _⟩

theorem rn5 (n : Nat) (w : World) : Calls Tryd.prog 51 #[.int .u8 5, .int .u64 n] w (GivesB (decide (n < 4294967296)) w) := by
  have HE := Lib.hid (dec_nat n 4294967296)
  go_enter Tryd.func51, Tryd.ntmps51
  go_wp2
  go_ret
  exact ⟨congrArg (fun b => Ending.returned (.bool b)) HE.out, Below.refl _ _⟩

theorem rn11 (n : Nat) (w : World) : Calls Tryd.prog 51 #[.int .u8 11, .int .u64 n] w (GivesB (decide (n < 4294967296)) w) := by
  have HE := Lib.hid (dec_nat n 4294967296)
  go_enter Tryd.func51, Tryd.ntmps51
  go_wp2
  go_ret
  exact ⟨congrArg (fun b => Ending.returned (.bool b)) HE.out, Below.refl _ _⟩

theorem rn7 (n : Nat) (hn : n < 18446744073709551616) (w : World) : Calls Tryd.prog 51 #[.int .u8 7, .int .u64 n] w (GivesB (sgB 128 n) w) := by
  have HE := Lib.hid (conv8 n hn)
  clear hn
  go_enter Tryd.func51, Tryd.ntmps51
  go_wp2
  go_ret
  exact ⟨congrArg (fun b => Ending.returned (.bool b)) HE.out, Below.refl _ _⟩

theorem rn8 (n : Nat) (hn : n < 18446744073709551616) (w : World) : Calls Tryd.prog 51 #[.int .u8 8, .int .u64 n] w (GivesB (sgB 32768 n) w) := by
  have HE := Lib.hid (conv16 n hn)
  clear hn
  go_enter Tryd.func51, Tryd.ntmps51
  go_wp2
  go_ret
  exact ⟨congrArg (fun b => Ending.returned (.bool b)) HE.out, Below.refl _ _⟩

theorem rn9 (n : Nat) (hn : n < 18446744073709551616) (w : World) : Calls Tryd.prog 51 #[.int .u8 9, .int .u64 n] w (GivesB (sgB 2147483648 n) w) := by
  have HE := Lib.hid (conv32' n hn)
  clear hn
  go_enter Tryd.func51, Tryd.ntmps51
  go_wp2
  go_ret
  exact ⟨congrArg (fun b => Ending.returned (.bool b)) HE.out, Below.refl _ _⟩

theorem rn13 (n : Nat) (w : World) : Calls Tryd.prog 51 #[.int .u8 13, .int .u64 n] w (GivesB (isC n) w) := by
  go_enter Tryd.func51, Tryd.ntmps51
  go_wp2_with fail
  refine (char_any n _).mono ?_
  rintro e w1 ⟨rfl, rfl⟩
  go_wp2
  go_ret
  exact ⟨rfl, Below.refl _ _⟩
theorem rnx (k n : Nat) (w : World) (h : k ≠ 2 ∧ k ≠ 3 ∧ k ≠ 4 ∧ k ≠ 5 ∧ k ≠ 11 ∧ k ≠ 7 ∧ k ≠ 8 ∧ k ≠ 9 ∧ k ≠ 13) : Calls Tryd.prog 51 #[.int .u8 k, .int .u64 n] w (GivesB true w) := by
  have d2 : ((k : Int) == 2) = false := by rw [beq_eq_false_iff_ne]; omega
  have d3 : ((k : Int) == 3) = false := by rw [beq_eq_false_iff_ne]; omega
  have d4 : ((k : Int) == 4) = false := by rw [beq_eq_false_iff_ne]; omega
  have d5 : ((k : Int) == 5) = false := by rw [beq_eq_false_iff_ne]; omega
  have d11 : ((k : Int) == 11) = false := by rw [beq_eq_false_iff_ne]; omega
  have d7 : ((k : Int) == 7) = false := by rw [beq_eq_false_iff_ne]; omega
  have d8 : ((k : Int) == 8) = false := by rw [beq_eq_false_iff_ne]; omega
  have d9 : ((k : Int) == 9) = false := by rw [beq_eq_false_iff_ne]; omega
  have d13 : ((k : Int) == 13) = false := by rw [beq_eq_false_iff_ne]; omega
  clear h
  go_enter Tryd.func51, Tryd.ntmps51
  go_wp2
  go_ret
  exact ⟨rfl, Below.refl _ _⟩
theorem rightNumber_any (k n : Nat) (hn : n < 18446744073709551616) (w : World) : Calls Tryd.prog 51 #[.int .u8 k, .int .u64 n] w (GivesB (numB k n) w) := by
  unfold numB
  by_cases h2 : k = 2
  · subst h2; exact rn2 n w
  rw [if_neg h2]
  by_cases h3 : k = 3
  · subst h3; exact rn3 n w
  rw [if_neg h3]
  by_cases h4 : k = 4
  · subst h4; exact rn4 n w
  rw [if_neg h4]
  by_cases h5 : k = 5 ∨ k = 11
  · rw [if_pos h5]
    rcases h5 with rfl | rfl
    · exact rn5 n w
    · exact rn11 n w
  rw [if_neg h5]
  by_cases h7 : k = 7
  · subst h7; exact rn7 n hn w
  rw [if_neg h7]
  by_cases h8 : k = 8
  · subst h8; exact rn8 n hn w
  rw [if_neg h8]
  by_cases h9 : k = 9
  · subst h9; exact rn9 n hn w
  rw [if_neg h9]
  by_cases h13 : k = 13
  · subst h13; exact rn13 n w
  rw [if_neg h13]
  exact rnx k n w ⟨h2, h3, h4, fun h => h5 (.inl h), fun h => h5 (.inr h), h7, h8, h9, h13⟩
end Go.Proofs.YtdbcdabijolagaaDoor.Val
