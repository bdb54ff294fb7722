/-
  Whole numbers below 2^53 as floats of 64 bits, and as the parts of complex numbers: they are exact, and so are their sums. Plain mathematics.
-/
import Derived.Laws.ComplexArith
namespace Go.Proofs.YtikjnbognjicdaaDoor.Enc
open Ieee

theorem cut_exact (way : Toward) (s : Bool) (n d : Nat) (hd : d ≤ n.log2 + 2) (h : n % 2 ^ d = 0) : way.cut s n d = n / 2 ^ d := by
  have e : 1 <<< min d (n.log2 + 2) = 2 ^ d := by rw [Nat.min_eq_left hd, Nat.one_shiftLeft]
  have hp : 0 < 2 ^ d := Nat.two_pow_pos d
  unfold Toward.cut
  simp only [e, h]
  cases way <;> simp <;> omega
theorem cut_zero (way : Toward) (s : Bool) (d : Nat) : way.cut s 0 d = 0 := by
  have hp : 0 < 1 <<< min d (Nat.log2 0 + 2) := by rw [Nat.one_shiftLeft]; exact Nat.two_pow_pos _
  unfold Toward.cut
  cases way <;> simp <;> omega

/-- The word of a whole number. -/
def wd (n : Nat) : Nat := if n = 0 then 0 else (n.log2 + 1022) * 2 ^ 52 + n * 2 ^ (52 - n.log2)

theorem log2_le {n : Nat} (h : n < 2 ^ 53) (h0 : n ≠ 0) : n.log2 ≤ 52 := by
  have := (Nat.log2_lt h0).2 h
  omega
theorem pow_split {a b : Nat} (h : a ≤ b) : 2 ^ b = 2 ^ a * 2 ^ (b - a) := by rw [← Nat.pow_add]; congr 1; omega
theorem kept_bound {n : Nat} (h : n < 2 ^ 53) (h0 : n ≠ 0) : 2 ^ 52 ≤ n * 2 ^ (52 - n.log2) ∧ n * 2 ^ (52 - n.log2) < 2 ^ 53 := by
  have hl := log2_le h h0
  have h1 : 2 ^ n.log2 ≤ n := Nat.log2_self_le h0
  have h2 : n < 2 ^ (n.log2 + 1) := Nat.lt_log2_self
  have e1 : 2 ^ 52 = 2 ^ n.log2 * 2 ^ (52 - n.log2) := pow_split hl
  have e2 : 2 ^ 53 = 2 ^ (n.log2 + 1) * 2 ^ (52 - n.log2) := by rw [← Nat.pow_add]; congr 1; omega
  have hp : 0 < 2 ^ (52 - n.log2) := Nat.two_pow_pos _
  constructor
  · rw [e1]; exact Nat.mul_le_mul_right _ h1
  · rw [e2]; exact Nat.mul_lt_mul_of_pos_right h2 hp
theorem log2_mul_pow {n : Nat} (h0 : n ≠ 0) (a : Nat) : (n * 2 ^ a).log2 = n.log2 + a := by
  have hp : 0 < 2 ^ a := Nat.two_pow_pos a
  have hne : n * 2 ^ a ≠ 0 := Nat.mul_ne_zero h0 (by omega)
  have h1 : 2 ^ n.log2 ≤ n := Nat.log2_self_le h0
  have h2 : n < 2 ^ (n.log2 + 1) := Nat.lt_log2_self
  have h3 : 2 ^ (n.log2 + a) ≤ n * 2 ^ a := by rw [Nat.pow_add]; exact Nat.mul_le_mul_right _ h1
  have h4 : n * 2 ^ a < 2 ^ (n.log2 + a + 1) := by
    rw [show n.log2 + a + 1 = (n.log2 + 1) + a by omega, Nat.pow_add]; exact Nat.mul_lt_mul_of_pos_right h2 hp
  have h5 : n.log2 + a ≤ (n * 2 ^ a).log2 := (Nat.le_log2 hne).2 h3
  have h6 : (n * 2 ^ a).log2 < n.log2 + a + 1 := (Nat.log2_lt hne).2 h4
  omega

theorem infRung_d : double.infRung = 2047 * 2 ^ 52 := rfl
theorem leastPlace_d : double.leastPlace = -1074 := rfl

theorem nearest_exact (n a : Nat) (h : n < 2 ^ 53) : double.nearest false (n * 2 ^ a) (-(a : Int)) = wd n := by
  by_cases h0 : n = 0
  · subst h0
    simp [Format.nearest, wd, Format.word]
  have hp : 0 < 2 ^ a := Nat.two_pow_pos a
  have hne : n * 2 ^ a ≠ 0 := Nat.mul_ne_zero h0 (by omega)
  have hl := log2_le h h0
  have hk := kept_bound h h0
  have hlast : max (-(a : Int) + ((n * 2 ^ a).log2 : Nat) - (double.fractionBits : Nat)) double.leastPlace = (n.log2 : Int) - 52 := by
    rw [log2_mul_pow h0, leastPlace_d]
    show max (-(a : Int) + ((n.log2 + a : Nat) : Int) - ((52 : Nat) : Int)) (-1074) = _
    omega
  unfold Format.nearest
  rw [if_neg hne]
  simp only [hlast]
  have e1 : (-(a : Int) - ((n.log2 : Int) - 52)).toNat = 52 - n.log2 - a := by omega
  have e2 : ((n.log2 : Int) - 52 - -(a : Int)).toNat = a - (52 - n.log2) := by omega
  have e3 : ((n.log2 : Int) - 52 - double.leastPlace).toNat = n.log2 + 1022 := by rw [leastPlace_d]; omega
  have hc : Toward.even.cut false ((n * 2 ^ a) <<< (52 - n.log2 - a)) (a - (52 - n.log2)) = n * 2 ^ (52 - n.log2) := by
    rw [Nat.shiftLeft_eq]
    by_cases ha : a ≤ 52 - n.log2
    · rw [show a - (52 - n.log2) = 0 by omega, cut_exact _ _ _ _ (by omega) (by simp [Nat.mod_one]), Nat.pow_zero, Nat.div_one, Nat.mul_assoc, ← Nat.pow_add, Nat.add_sub_cancel' ha]
    · rw [show 52 - n.log2 - a = 0 by omega, Nat.pow_zero, Nat.mul_one]
      have e : n * 2 ^ a = n * 2 ^ (52 - n.log2) * 2 ^ (a - (52 - n.log2)) := by rw [Nat.mul_assoc, ← Nat.pow_add, show 52 - n.log2 + (a - (52 - n.log2)) = a by omega]
      rw [cut_exact _ _ _ _ (by rw [log2_mul_pow h0]; omega) (by rw [e]; exact Nat.mul_mod_left _ _), e, Nat.mul_div_cancel _ (Nat.two_pow_pos _)]
  have hbi : double.binade = 2 ^ 52 := rfl
  rw [e1, e2, e3, hc, infRung_d, hbi, Format.word, if_neg (by decide), wd, if_neg h0]
  exact Nat.min_eq_left (by omega)

/-- What the word of a whole number stands for. -/
theorem read_wd (n : Nat) (h : n < 2 ^ 53) : ∃ a : Nat, a ≤ 1074 ∧ double.read (wd n) = .number false (n * 2 ^ a) (-(a : Int)) := by
  by_cases h0 : n = 0
  · subst h0
    obtain ⟨a, ha⟩ : ∃ a : Nat, a = 1074 := ⟨_, rfl⟩
    have h : double.read (wd 0) = .number false 0 (-(a : Int)) := by rw [ha]; rfl
    exact ⟨a, by omega, by rw [Nat.zero_mul]; exact h⟩
  have hl := log2_le h h0
  have hk := kept_bound h h0
  refine ⟨52 - n.log2, by omega, ?_⟩
  have hw : wd n = (n.log2 + 1022) * 2 ^ 52 + n * 2 ^ (52 - n.log2) := by rw [wd, if_neg h0]
  generalize hK : n * 2 ^ (52 - n.log2) = K at *
  have hsw : double.signWeight = 2 ^ 63 := rfl
  have hbi : double.binade = 2 ^ 52 := rfl
  have hlt : wd n < 2 ^ 63 := by rw [hw]; omega
  have e1 : wd n / 2 ^ 63 = 0 := Nat.div_eq_of_lt hlt
  have e2 : wd n % 2 ^ 63 = wd n := Nat.mod_eq_of_lt hlt
  unfold Format.read
  simp only [hsw, hbi, e1, e2, infRung_d, leastPlace_d]
  rw [if_neg (by rw [hw]; omega), if_pos (by rw [hw]; omega)]
  have e3 : wd n / 2 ^ 52 = n.log2 + 1023 := by rw [hw]; omega
  have e4 : wd n % 2 ^ 52 = K - 2 ^ 52 := by rw [hw]; omega
  have e5 : 2 ^ 52 + (K - 2 ^ 52) = K := by omega
  have e6 : (-1074 : Int) + ((n.log2 + 1023 - 1 : Nat) : Int) = -((52 - n.log2 : Nat) : Int) := by omega
  rw [e3, e4, e5, e6]
  rfl

theorem sum_exact (m n a b : Nat) : ∃ c : Nat, (Datum.number false (m * 2 ^ a) (-(a : Int))).sum (.number false (n * 2 ^ b) (-(b : Int))) = some (.number false ((m + n) * 2 ^ c) (-(c : Int))) := by
  refine ⟨max a b, ?_⟩
  have e0 : min (-(a : Int)) (-(b : Int)) = -((max a b : Nat) : Int) := by omega
  have e1 : (-(a : Int) - -((max a b : Nat) : Int)).toNat = max a b - a := by omega
  have e2 : (-(b : Int) - -((max a b : Nat) : Int)).toNat = max a b - b := by omega
  have k1 : m * 2 ^ a * 2 ^ (max a b - a) = m * 2 ^ max a b := by rw [Nat.mul_assoc, ← Nat.pow_add, show a + (max a b - a) = max a b by omega]
  have k2 : n * 2 ^ b * 2 ^ (max a b - b) = n * 2 ^ max a b := by rw [Nat.mul_assoc, ← Nat.pow_add, show b + (max a b - b) = max a b by omega]
  simp only [Datum.sum, e0, e1, e2, signed, Bool.false_eq_true, if_false, Nat.shiftLeft_eq, k1, k2]
  have k3 : ((m * 2 ^ max a b : Nat) : Int) + ((n * 2 ^ max a b : Nat) : Int) = (((m + n) * 2 ^ max a b : Nat) : Int) := by rw [Nat.add_mul]; rfl
  rw [k3, Int.natAbs_natCast]
  generalize (m + n) * 2 ^ max a b = X
  have k6 : (if (X : Int) = 0 then (false && false) else decide ((X : Int) < 0)) = false := by
    have : ¬ ((X : Int) < 0) := by omega
    simp [this]
  rw [k6]

/-- A whole number as a float. -/
def fb (n : Nat) : Nat := floatOfInt .f64 (n : Int)
theorem fb_wd (n : Nat) (h : n < 2 ^ 53) : fb n = wd n := by
  have := nearest_exact n 0 h
  rw [Nat.pow_zero, Nat.mul_one] at this
  have e : decide ((n : Int) < 0) = false := by simp
  unfold fb floatOfInt FloatKind.nearest
  rw [e, Int.natAbs_natCast]
  exact this
theorem fb_add (m n : Nat) (h : m + n < 2 ^ 53) : floatBits .add .f64 (fb m) (fb n) = some (fb (m + n)) := by
  obtain ⟨a, _, ha⟩ := read_wd m (by omega)
  obtain ⟨b, _, hb⟩ := read_wd n (by omega)
  obtain ⟨c, hc⟩ := sum_exact m n a b
  rw [fb_wd m (by omega), fb_wd n (by omega), fb_wd (m + n) h]
  show ((double.read (wd m)).sum (double.read (wd n))).map double.write = _
  rw [ha, hb, hc]
  show some (double.nearest false _ _) = _
  rw [nearest_exact _ _ h]
theorem fb_int (n : Nat) (h : n < 2 ^ 53) : floatToIntVal .f64 (fb n) .i64 = some (n : Int) := by
  obtain ⟨a, _, ha⟩ := read_wd n h
  have hi : (double.read (wd n)).toInt .zero = some (n : Int) := by
    rw [ha]
    have hc : Toward.zero.cut false (n * 2 ^ a) a = n := by
      by_cases h0 : n = 0
      · subst h0; rw [Nat.zero_mul]; exact cut_zero _ _ _
      · rw [cut_exact _ _ _ _ (by rw [log2_mul_pow h0]; omega) (Nat.mul_mod_left _ _), Nat.mul_div_cancel _ (Nat.two_pow_pos _)]
    have e1 : (-(a : Int)).toNat = 0 := by omega
    have e2 : (-(-(a : Int))).toNat = a := by omega
    simp only [Datum.toInt, Datum.integral, e1, e2, Nat.shiftLeft_eq, Nat.pow_zero, Nat.mul_one, hc, signed, Bool.false_eq_true, if_false]
  unfold floatToIntVal
  rw [fb_wd n h]
  show (match (double.read (wd n)).toInt .zero with | some n => _ | none => none) = _
  rw [hi]
  simp only
  rw [if_pos]
  simp [IntKind.min, IntKind.max, IntKind.signed, IntKind.bits]
  omega
theorem fb_sum (a b c d : Nat) (h : a + c < 2 ^ 53) (h' : b + d < 2 ^ 53) : cSumBits .add .f64 (fb a) (fb b) (fb c) (fb d) = some (fb (a + c), fb (b + d)) := by
  simp [cSumBits, fb_add a c h, fb_add b d h']
theorem fb_zero : fb 0 = 0 := fb_wd 0 (by decide)
end Go.Proofs.YtikjnbognjicdaaDoor.Enc
