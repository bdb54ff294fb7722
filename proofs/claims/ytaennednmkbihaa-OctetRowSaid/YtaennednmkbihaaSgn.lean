/-
  Contracts of the two functions that tell a number's sign: octet.Signed and the document's. Both answer 'sg', for every number and every width; the world stays.
-/
import Derived.Test.YtaennednmkbihaaRows
import Derived.Test.YtaennednmkbihaaMath
import Derived.WalkKit
import Derived.Outline
import Derived.Lib.Hide
namespace Go.Proofs.Ytaennednmkbihaa.Oct
open Go.RowKit

theorem ret_int {k : IntKind} {a b : Int} (h : a = b) : Ending.returned (.int k a) = .returned (.int k b) := by rw [h]

theorem sg_lit (X : Nat) (k : Nat) (h1 : 1 ≤ k) (h2 : k ≤ 7) : (IntKind.u64.wrap (wrap64 (IntKind.u64.wrap (X * 2 ^ (8 * (8 - k)))) / 2 ^ (8 * (8 - k)))) = (sg X k : Int) := by
  rw [sg_val X k h1 h2]
  unfold wrap64
  simp only [IntKind.wrap, IntKind.bits, IntKind.signed]
  obtain rfl | rfl | rfl | rfl | rfl | rfl | rfl : k = 1 ∨ k = 2 ∨ k = 3 ∨ k = 4 ∨ k = 5 ∨ k = 6 ∨ k = 7 := by omega
  all_goals simp
  all_goals split <;> omega

theorem sgn_any (X : Nat) (k : Int) (w : World) :
    Calls Try.prog 16 #[.int .u64 X, .int .i64 k] w fun e w' => e = .returned (.int .u64 (sg X k.toNat : Nat)) ∧ w = w' := by
  by_cases h1 : k < 1
  · have e : sg X k.toNat = X := by unfold sg; rw [if_neg (by omega)]
    rw [e]
    go_enter Try.func16, Try.ntmps16
    go_wp2
    go_ret
    exact ⟨rfl, rfl⟩
  by_cases h2 : 8 ≤ k
  · have e : sg X k.toNat = X := by unfold sg; rw [if_neg (by omega)]
    rw [e]
    go_enter Try.func16, Try.ntmps16
    go_wp2
    go_ret
    exact ⟨rfl, rfl⟩
  obtain ⟨n, rfl⟩ := Int.eq_ofNat_of_zero_le (a := k) (by omega)
  have e := sg_lit X n (by omega) (by omega)
  rw [Int.toNat_natCast]
  have E := Lib.hid e
  clear e
  go_enter Try.func16, Try.ntmps16
  go_wp2
  go_ret
  exact ⟨ret_int E.out, rfl⟩

theorem bit_int (X j : Nat) : ((X : Int) / 2 ^ j).tmod 2 = ((X / 2 ^ j % 2 : Nat) : Int) := by
  have h : ((X : Int) / 2 ^ j) = ((X / 2 ^ j : Nat) : Int) := by simp
  rw [h]
  generalize X / 2 ^ j = a
  rw [Int.tmod_eq_emod_of_nonneg (Int.natCast_nonneg a)]
  omega

theorem bit_yes (X n m j : Nat) (hX : X < 18446744073709551616) (hlt : m < 64) (hst : sg X n % 2 ^ (m + 1) = sg X n % 2 ^ m + 2 ^ m * (X / 2 ^ j % 2)) (h : (((X : Int) / 2 ^ j).tmod 2 == 1) = true) :
    IntKind.u64.wrap ((sg X n : Int) % 2 ^ m + IntKind.u64.wrap (2 ^ m)) = ((sg X n % 2 ^ (m + 1) : Nat) : Int) := by
  rw [bit_int, beq_iff_eq] at h
  have h' : X / 2 ^ j % 2 = 1 := by omega
  rw [h', Nat.mul_one] at hst
  have hp : (2 : Nat) ^ m < 2 ^ 64 := Nat.pow_lt_pow_right (by omega) hlt
  have hle := sg_lt X n hX
  have hm := Nat.mod_le (sg X n) (2 ^ (m + 1))
  have e1 : ((sg X n : Int) % 2 ^ m) = ((sg X n % 2 ^ m : Nat) : Int) := by simp
  have e2 : (2 : Int) ^ m = ((2 ^ m : Nat) : Int) := by simp
  rw [hst] at hm
  rw [hst, e1, e2]
  generalize sg X n % 2 ^ m = a at *
  generalize (2 : Nat) ^ m = b at *
  simp only [IntKind.wrap, IntKind.bits, IntKind.signed]
  simp
  omega

theorem bit_no (X n m j : Nat) (hst : sg X n % 2 ^ (m + 1) = sg X n % 2 ^ m + 2 ^ m * (X / 2 ^ j % 2)) (h : (((X : Int) / 2 ^ j).tmod 2 == 1) = false) : sg X n % 2 ^ m = sg X n % 2 ^ (m + 1) := by
  rw [bit_int, beq_eq_false_iff_ne] at h
  have h' : X / 2 ^ j % 2 = 0 := by omega
  rw [h', Nat.mul_zero, Nat.add_zero] at hst
  exact hst.symm

theorem sgr_any (X : Nat) (k : Int) (w : World) (h : X < 18446744073709551616) :
    Calls Try.prog 17 #[.int .u64 X, .int .i64 k] w fun e w' => e = .returned (.int .u64 (sg X k.toNat : Nat)) ∧ w = w' := by
  by_cases h1 : k < 1
  · have e : sg X k.toNat = X := by unfold sg; rw [if_neg (by omega)]
    rw [e]
    go_enter Try.func17, Try.ntmps17
    go_wp2
    go_ret
    exact ⟨rfl, rfl⟩
  by_cases h2 : 7 < k
  · have e : sg X k.toNat = X := by unfold sg; rw [if_neg (by omega)]
    rw [e]
    go_enter Try.func17, Try.ntmps17
    go_wp2
    go_ret
    exact ⟨rfl, rfl⟩
  obtain ⟨n, rfl⟩ := Int.eq_ofNat_of_zero_le (a := k) (by omega)
  rw [Int.toNat_natCast]
  have d1 : decide ((n : Int) < 1) = false := by simp; omega
  have d2 : decide (7 < (n : Int)) = false := by simp; omega
  go_enter Try.func17, Try.ntmps17
  go_wp2
  go_loop [5, 6] (fun o i => ∃ m : Nat, m ≤ 64 ∧ i = .int .i64 m ∧ o = .int .u64 (sg X n % 2 ^ m : Nat)) (fun _ i => 64 - (intOf i).toNat)
  case atStart => exact ⟨0, by omega, rfl, by simp [Nat.mod_one]⟩
  case round =>
    obtain ⟨m, hm, rfl, rfl⟩ := hrel
    by_cases hlt : m < 64
    · have hst := sg_step X n m (by omega) (by omega) hlt
      by_cases hmin : m ≤ 8 * n - 1
      · rw [Nat.min_eq_left hmin] at hst
        have HS := Lib.hid hst
        clear hst
        go_wp2
        · exact ⟨⟨m + 1, by omega, by go_num, by rw [bit_yes X n m m h hlt HS.out (by assumption)]⟩, by simp [intOf]; omega⟩
        · exact ⟨⟨m + 1, by omega, by go_num, by rw [bit_no X n m m HS.out (by assumption)]⟩, by simp [intOf]; omega⟩
      · rw [Nat.min_eq_right (by omega)] at hst
        have HS := Lib.hid hst
        clear hst
        go_wp2
        · exact ⟨⟨m + 1, by omega, by go_num, by rw [bit_yes X n m (8 * n - 1) h hlt HS.out (by assumption)]⟩, by simp [intOf]; omega⟩
        · exact ⟨⟨m + 1, by omega, by go_num, by rw [bit_no X n m (8 * n - 1) HS.out (by assumption)]⟩, by simp [intOf]; omega⟩
    · have e : (sg X n : Int) % 2 ^ m = sg X n := by
        obtain rfl : m = 64 := by omega
        have := sg_lt X n h
        omega
      have E := Lib.hid e
      clear e
      go_wp2
      go_ret
      exact ⟨ret_int E.out, rfl⟩
end Go.Proofs.Ytaennednmkbihaa.Oct
