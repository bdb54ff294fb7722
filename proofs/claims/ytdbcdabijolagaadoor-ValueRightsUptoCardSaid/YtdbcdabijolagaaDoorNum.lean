/-
  Which numbers may stand in which kinds: contracts of rightNumber and of the document's within.
-/
import Derived.Test.YtdbcdabijolagaaDoorAlone
import Derived.Test.YtdbcdabijolagaaDoorRrt
namespace Go.Proofs.YtdbcdabijolagaaDoor.Val
open Go.RowKit Go.Proofs.YtdbcdabijolagaaDoor.Utf V

/-- A number of 64 bits that is one of fewer bits with a sign: half: 2^(bits-1). -/
def sgB (half n : Nat) : Bool := decide (n < half) || decide (18446744073709551616 - half ≤ n)
theorem sg64 (n : Nat) (hn : n < 18446744073709551616) : ∃ x : Int, wrap64 (n : Int) = x ∧ -9223372036854775808 ≤ x ∧ x < 9223372036854775808 ∧ (x = n ∨ x = (n : Int) - 18446744073709551616) := by
  refine ⟨wrap64 n, rfl, ?_, ?_, ?_⟩ <;> simp only [wrap64] <;> omega

theorem within8 (n : Nat) (hn : n < 18446744073709551616) (w : World) : Calls Tryd.prog 56 #[.int .u64 n, .int .i64 8] w (GivesB (sgB 128 n) w) := by
  obtain ⟨x, hx, h1, h2, h3⟩ := sg64 n hn
  have hS : sgB 128 n = (decide (-128 ≤ x) && decide (x < 128)) := by
    rw [Bool.eq_iff_iff]
    simp only [sgB, Bool.or_eq_true, Bool.and_eq_true, decide_eq_true_eq]
    omega
  have HS := Lib.hid hS
  clear hn h1 h2 h3 hS
  by_cases hA : -128 ≤ x
  · have dA : decide (-128 ≤ x) = true := by simpa using hA
    by_cases hB : x < 128
    · have dB : decide (x < 128) = true := by simpa using hB
      go_enter Tryd.func56, Tryd.ntmps56
      go_wp2
      go_ret
      exact ⟨by rw [HS.out, dA, dB]; rfl, Below.refl _ _⟩
    · have dB : decide (x < 128) = false := by simpa using hB
      go_enter Tryd.func56, Tryd.ntmps56
      go_wp2
      go_ret
      exact ⟨by rw [HS.out, dA, dB]; rfl, Below.refl _ _⟩
  · have dA : decide (-128 ≤ x) = false := by simpa using hA
    go_enter Tryd.func56, Tryd.ntmps56
    go_wp2
    go_ret
    exact ⟨by rw [HS.out, dA]; rfl, Below.refl _ _⟩

theorem within16 (n : Nat) (hn : n < 18446744073709551616) (w : World) : Calls Tryd.prog 56 #[.int .u64 n, .int .i64 16] w (GivesB (sgB 32768 n) w) := by
  obtain ⟨x, hx, h1, h2, h3⟩ := sg64 n hn
  have hS : sgB 32768 n = (decide (-32768 ≤ x) && decide (x < 32768)) := by
    rw [Bool.eq_iff_iff]
    simp only [sgB, Bool.or_eq_true, Bool.and_eq_true, decide_eq_true_eq]
    omega
  have HS := Lib.hid hS
  clear hn h1 h2 h3 hS
  by_cases hA : -32768 ≤ x
  · have dA : decide (-32768 ≤ x) = true := by simpa using hA
    by_cases hB : x < 32768
    · have dB : decide (x < 32768) = true := by simpa using hB
      go_enter Tryd.func56, Tryd.ntmps56
      go_wp2
      go_ret
      exact ⟨by rw [HS.out, dA, dB]; rfl, Below.refl _ _⟩
    · have dB : decide (x < 32768) = false := by simpa using hB
      go_enter Tryd.func56, Tryd.ntmps56
      go_wp2
      go_ret
      exact ⟨by rw [HS.out, dA, dB]; rfl, Below.refl _ _⟩
  · have dA : decide (-32768 ≤ x) = false := by simpa using hA
    go_enter Tryd.func56, Tryd.ntmps56
    go_wp2
    go_ret
    exact ⟨by rw [HS.out, dA]; rfl, Below.refl _ _⟩

theorem within32 (n : Nat) (hn : n < 18446744073709551616) (w : World) : Calls Tryd.prog 56 #[.int .u64 n, .int .i64 32] w (GivesB (sgB 2147483648 n) w) := by
  obtain ⟨x, hx, h1, h2, h3⟩ := sg64 n hn
  have hS : sgB 2147483648 n = (decide (-2147483648 ≤ x) && decide (x < 2147483648)) := by
    rw [Bool.eq_iff_iff]
    simp only [sgB, Bool.or_eq_true, Bool.and_eq_true, decide_eq_true_eq]
    omega
  have HS := Lib.hid hS
  clear hn h1 h2 h3 hS
  by_cases hA : -2147483648 ≤ x
  · have dA : decide (-2147483648 ≤ x) = true := by simpa using hA
    by_cases hB : x < 2147483648
    · have dB : decide (x < 2147483648) = true := by simpa using hB
      go_enter Tryd.func56, Tryd.ntmps56
      go_wp2
      go_ret
      exact ⟨by rw [HS.out, dA, dB]; rfl, Below.refl _ _⟩
    · have dB : decide (x < 2147483648) = false := by simpa using hB
      go_enter Tryd.func56, Tryd.ntmps56
      go_wp2
      go_ret
      exact ⟨by rw [HS.out, dA, dB]; rfl, Below.refl _ _⟩
  · have dA : decide (-2147483648 ≤ x) = false := by simpa using hA
    go_enter Tryd.func56, Tryd.ntmps56
    go_wp2
    go_ret
    exact ⟨by rw [HS.out, dA]; rfl, Below.refl _ _⟩

theorem conv8 (n : Nat) (hn : n < 18446744073709551616) : ((n : Int) == IntKind.u64.wrap (IntKind.i8.wrap n)) = sgB 128 n := by
  rw [Bool.eq_iff_iff]
  simp only [beq_iff_eq, sgB, Bool.or_eq_true, decide_eq_true_eq, IntKind.wrap, IntKind.bits, IntKind.signed, Bool.true_and, Bool.false_and]
  simp
  split <;> omega

theorem conv16 (n : Nat) (hn : n < 18446744073709551616) : ((n : Int) == IntKind.u64.wrap (IntKind.i16.wrap n)) = sgB 32768 n := by
  rw [Bool.eq_iff_iff]
  simp only [beq_iff_eq, sgB, Bool.or_eq_true, decide_eq_true_eq, IntKind.wrap, IntKind.bits, IntKind.signed, Bool.true_and, Bool.false_and]
  simp
  split <;> omega

theorem conv32 (n : Nat) (hn : n < 18446744073709551616) : ((n : Int) == IntKind.u64.wrap (IntKind.i32.wrap n)) = sgB 2147483648 n := by
  rw [Bool.eq_iff_iff]
  simp only [beq_iff_eq, sgB, Bool.or_eq_true, decide_eq_true_eq, IntKind.wrap, IntKind.bits, IntKind.signed, Bool.true_and, Bool.false_and]
  simp
  split <;> omega

theorem conv32' (n : Nat) (hn : n < 18446744073709551616) : ((n : Int) == IntKind.u64.wrap (wrap32 n)) = sgB 2147483648 n := by
  rw [← conv32 n hn, show wrap32 (n : Int) = IntKind.i32.wrap n by unfold wrap32 IntKind.wrap; simp only [IntKind.bits, IntKind.signed, Bool.true_and]; simp; split <;> omega]
/-- May a number be one of a kind of numbers? -/
def numB (k n : Nat) : Bool :=
  if k = 2 then decide (n ≤ 1) else if k = 3 then decide (n < 256) else if k = 4 then decide (n < 65536) else if k = 5 ∨ k = 11 then decide (n < 4294967296) else
  if k = 7 then sgB 128 n else if k = 8 then sgB 32768 n else if k = 9 then sgB 2147483648 n else if k = 13 then isC n else true

theorem dec_nat (n m : Nat) : decide ((n : Int) < (m : Int)) = decide (n < m) := by simp
theorem dec_nat' (n m : Nat) : decide ((n : Int) ≤ (m : Int)) = decide (n ≤ m) := by simp
end Go.Proofs.YtdbcdabijolagaaDoor.Val
