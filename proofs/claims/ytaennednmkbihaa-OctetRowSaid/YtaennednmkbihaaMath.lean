/-
  Plain facts on numbers and lists of bytes, used by the proofs of this seat: the bytes of a number, the number of bytes, the sign. No condition; nothing of the program is named here.
-/
import Derived.Laws.BitsAllLaws
namespace Go.Proofs.Ytaennednmkbihaa.Oct

/-- The k lowest bytes of X, the one that counts most first. -/
def be (X : Nat) : Nat → List UInt8
  | 0 => []
  | k + 1 => UInt8.ofNat (X / 256 ^ k) :: be X k

/-- The number that bytes are. -/
def tl (l : List UInt8) : Nat := l.foldl (fun a c => a * 256 + c.toNat) 0

theorem be_length (X : Nat) : ∀ k, (be X k).length = k
  | 0 => rfl
  | k + 1 => by simp [be, be_length X k]

theorem foldl_tl (l : List UInt8) : ∀ a : Nat, l.foldl (fun a c => a * 256 + c.toNat) a = a * 256 ^ l.length + tl l := by
  induction l with
  | nil => intro a; simp [tl]
  | cons c l ih =>
    intro a
    have h0 : tl (c :: l) = (0 * 256 + c.toNat) * 256 ^ l.length + tl l := ih (0 * 256 + c.toNat)
    rw [List.foldl_cons, ih, h0]
    simp only [List.length_cons, Nat.pow_succ, Nat.add_mul, Nat.zero_mul, Nat.zero_add]
    rw [Nat.mul_assoc, Nat.mul_comm 256]
    omega

theorem tl_nil : tl [] = 0 := rfl
theorem tl_cons (c : UInt8) (l : List UInt8) : tl (c :: l) = c.toNat * 256 ^ l.length + tl l := by
  rw [tl, List.foldl_cons, foldl_tl]; simp
theorem tl_snoc (l : List UInt8) (c : UInt8) : tl (l ++ [c]) = tl l * 256 + c.toNat := by
  simp [tl, List.foldl_append]
theorem tl_lt : ∀ l : List UInt8, tl l < 256 ^ l.length
  | [] => by simp [tl]
  | c :: l => by
    have h := tl_lt l
    have hc : c.toNat < 256 := c.toNat_lt
    rw [tl_cons, List.length_cons, Nat.pow_succ]
    have : c.toNat * 256 ^ l.length + 256 ^ l.length ≤ 256 ^ l.length * 256 := by
      rw [← Nat.succ_mul, Nat.mul_comm]
      exact Nat.mul_le_mul_left _ hc
    omega

theorem pow256 (k : Nat) : 256 ^ k = 2 ^ (8 * k) := by rw [show (256 : Nat) = 2 ^ 8 from rfl, ← Nat.pow_mul]

theorem tl_be (X : Nat) : ∀ k, tl (be X k) = X % 256 ^ k
  | 0 => by simp [be, tl, Nat.mod_one]
  | k + 1 => by
    rw [be, tl_cons, be_length, tl_be X k]
    have h : (UInt8.ofNat (X / 256 ^ k)).toNat = X / 256 ^ k % 256 := by simp
    rw [h, Nat.pow_succ, Nat.mod_mul, Nat.mul_comm, Nat.add_comm]

theorem be_mod (X : Nat) : ∀ k n, k ≤ n → be (X % 256 ^ n) k = be X k
  | 0, _, _ => rfl
  | k + 1, n, h => by
    rw [be, be, be_mod X k n (by omega)]
    congr 1
    apply UInt8.toNat_inj.1
    simp only [UInt8.toNat_ofNat']
    obtain ⟨d, rfl⟩ : ∃ d, n = k + (1 + d) := ⟨n - k - 1, by omega⟩
    rw [Nat.pow_add, Nat.mod_mul_right_div_self]
    show X / 256 ^ k % 256 ^ (1 + d) % 256 = X / 256 ^ k % 256
    exact Nat.mod_mod_of_dvd _ ⟨256 ^ d, by rw [Nat.pow_add, Nat.pow_one]⟩

theorem be_tl : ∀ l : List UInt8, be (tl l) l.length = l
  | [] => rfl
  | c :: l => by
    rw [List.length_cons, be, tl_cons]
    have h1 : (c.toNat * 256 ^ l.length + tl l) / 256 ^ l.length = c.toNat := by
      rw [Nat.mul_comm, Nat.mul_add_div (Nat.pow_pos (by omega)), Nat.div_eq_of_lt (tl_lt l)]; omega
    have h2 : be (c.toNat * 256 ^ l.length + tl l) l.length = be (tl l) l.length := by
      rw [← be_mod _ l.length l.length (Nat.le_refl _), Nat.add_comm, Nat.add_mul_mod_self_right, be_mod _ _ _ (Nat.le_refl _)]
    rw [h1, h2, be_tl l]
    simp

/-- The sign: of a number of k bytes (1 to 7) the highest bit goes on upwards; of any other width it is the number itself. -/
def sg (X k : Nat) : Nat := if 1 ≤ k ∧ k ≤ 7 then ((BitVec.ofNat (8 * k) X).signExtend 64).toNat else X

theorem sg_lt (X k : Nat) (h : X < 18446744073709551616) : sg X k < 18446744073709551616 := by
  unfold sg
  split
  · exact BitVec.isLt _
  · exact h

theorem sg_val (X k : Nat) (h1 : 1 ≤ k) (h2 : k ≤ 7) :
    sg X k = if X % 2 ^ (8 * k) < 2 ^ (8 * k - 1) then X % 2 ^ (8 * k) else X % 2 ^ (8 * k) + (2 ^ 64 - 2 ^ (8 * k)) := by
  unfold sg
  rw [if_pos ⟨h1, h2⟩, BitVec.toNat_signExtend]
  simp only [BitVec.toNat_setWidth, BitVec.toNat_ofNat, BitVec.msb_eq_decide]
  have hp : (2 : Nat) ^ (8 * k) ≤ 2 ^ 64 := Nat.pow_le_pow_right (by omega) (by omega)
  have hm : X % 2 ^ (8 * k) % 2 ^ 64 = X % 2 ^ (8 * k) := Nat.mod_eq_of_lt (Nat.lt_of_lt_of_le (Nat.mod_lt _ (Nat.two_pow_pos _)) hp)
  rw [hm]
  by_cases hb : X % 2 ^ (8 * k) < 2 ^ (8 * k - 1)
  · rw [if_pos hb, if_neg (by simp; omega)]; omega
  · rw [if_neg hb, if_pos (by simp; omega)]

theorem sg_bit (X k i : Nat) (h1 : 1 ≤ k) (h2 : k ≤ 7) (hi : i < 64) : (sg X k).testBit i = X.testBit (min i (8 * k - 1)) := by
  unfold sg
  rw [if_pos ⟨h1, h2⟩, BitVec.testBit_toNat, BitVec.getLsbD_signExtend, BitVec.msb_eq_getLsbD_last]
  simp only [BitVec.getLsbD_ofNat, hi, decide_true, Bool.true_and]
  by_cases hlt : i < 8 * k
  · rw [if_pos hlt, Nat.min_eq_left (by omega)]; simp [hlt]
  · rw [if_neg hlt, Nat.min_eq_right (by omega)]; simp; omega

theorem sg_step (X k i : Nat) (h1 : 1 ≤ k) (h2 : k ≤ 7) (hi : i < 64) :
    sg X k % 2 ^ (i + 1) = sg X k % 2 ^ i + 2 ^ i * (X / 2 ^ (min i (8 * k - 1)) % 2) := by
  have h := sg_bit X k i h1 h2 hi
  rw [Nat.testBit_eq_decide_div_mod_eq, Nat.testBit_eq_decide_div_mod_eq, decide_eq_decide] at h
  have e : sg X k / 2 ^ i % 2 = X / 2 ^ (min i (8 * k - 1)) % 2 := by omega
  rw [Nat.mod_pow_succ, e]

end Go.Proofs.Ytaennednmkbihaa.Oct
