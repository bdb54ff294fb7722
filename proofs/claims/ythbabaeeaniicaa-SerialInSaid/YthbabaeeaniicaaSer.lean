/-
  Contracts of package serial, of the document's own answers for it and of the anchor: each is a plain function of the numbers; the world stays. Conditions: numbers of 32 bits are such.
-/
import Derived.Test.YthbabaeeaniicaaRows
import Derived.WalkKit
import Derived.Outline
import Derived.Lib.Hide
namespace Go.Proofs.Ythbabaeeaniicaa.Ser
open Go.RowKit

/-- A number of 32 bits. -/
def U (a : Int) : Prop := 0 ≤ a ∧ a < 4294967296
def I (n : Int) : Prop := -9223372036854775808 ≤ n ∧ n < 9223372036854775808

/-- Steps from one number to another one. -/
def d (a b : Int) : Int := (b - a) % 4294967296
def ad (a n : Int) : Int := (a + n) % 4294967296
def ls (a b : Int) : Bool := decide (1 ≤ d a b ∧ d a b < 2147483648)
def sq (a b : Int) : Bool := decide (d a b < 2147483648)
def sp (a b : Int) : Int := if d a b < 2147483648 then d a b + 1 else 0
def inn (x f n : Int) : Bool := decide (1 ≤ n ∧ d f x < n)

theorem ret_int {k : IntKind} {a b : Int} (h : a = b) : Ending.returned (.int k a) = .returned (.int k b) := by rw [h]
theorem ret_bool {a b : Bool} (h : a = b) : Ending.returned (.bool a) = .returned (.bool b) := by rw [h]
theorem ret_both {a b : Int} {p q : Bool} (h : a = b) (h' : p = q) : Ending.returned (.tuple #[.int .i64 a, .bool p]) = .returned (.tuple #[.int .i64 b, .bool q]) := by rw [h, h']

theorem d_u (a b : Int) : U (d a b) := by unfold U d; omega
theorem ad_u (a b : Int) : U (ad a b) := by unfold U ad; omega

theorem steps_any (a b : Int) (w : World) : Calls Try.prog 18 #[.int .u32 a, .int .u32 b] w fun e w' => e = .returned (.int .u32 (d a b)) ∧ w = w' := by
  go_enter Try.func18, Try.ntmps18
  go_wp2
  go_ret
  exact ⟨rfl, rfl⟩

theorem less_any (a b : Int) (w : World) : Calls Try.prog 11 #[.int .u32 a, .int .u32 b] w fun e w' => e = .returned (.bool (ls a b)) ∧ w = w' := by
  have hu := d_u a b
  unfold ls
  generalize hx : d a b = x at *
  unfold U at hu
  obtain h | h | h : x = 0 ∨ (1 ≤ x ∧ x < 2147483648) ∨ 2147483648 ≤ x := by omega
  all_goals
    go_enter Try.func11, Try.ntmps11
    go_wp2_with (go_at_call 18; refine (steps_any a b _).mono ?_; rw [hx]; rintro e w' ⟨rfl, rfl⟩)
    go_ret
    exact ⟨ret_bool (Bool.eq_iff_iff.2 (by simp <;> omega)), rfl⟩

theorem add_any (a n : Int) (w : World) : Calls Try.prog 13 #[.int .u32 a, .int .i64 n] w fun e w' => e = .returned (.int .u32 (ad a n)) ∧ w = w' := by
  go_enter Try.func13, Try.ntmps13
  go_wp2
  go_ret
  exact ⟨ret_int (by simp [ad]), rfl⟩

theorem span_any (a b : Int) (w : World) : Calls Try.prog 9 #[.int .u32 a, .int .u32 b] w fun e w' => e = .returned (.tuple #[.int .i64 (sp a b), .bool (sq a b)]) ∧ w = w' := by
  have hu := d_u a b
  unfold sp sq
  generalize hx : d a b = x at *
  unfold U at hu
  by_cases h2 : x < 2147483648
  all_goals
    go_enter Try.func9, Try.ntmps9
    go_wp2_with (go_at_call 18; refine (steps_any a b _).mono ?_; rw [hx]; rintro e w' ⟨rfl, rfl⟩)
    go_ret2
    exact ⟨ret_both (by simp) (by simp), rfl⟩

theorem in_any (x f n : Int) (w : World) (hn : I n) : Calls Try.prog 15 #[.int .u32 x, .int .u32 f, .int .i64 n] w fun e w' => e = .returned (.bool (inn x f n)) ∧ w = w' := by
  have hu := d_u f x
  unfold inn
  generalize hx : d f x = y at *
  unfold U at hu
  unfold I at hn
  obtain h | h | h : n < 1 ∨ (1 ≤ n ∧ y < n) ∨ (1 ≤ n ∧ n ≤ y) := by omega
  all_goals
    go_enter Try.func15, Try.ntmps15
    go_wp2_with (go_at_call 18; refine (steps_any f x _).mono ?_; rw [hx]; rintro e w' ⟨rfl, rfl⟩)
    go_ret
    exact ⟨ret_bool (Bool.eq_iff_iff.2 (by simp <;> omega)), rfl⟩

theorem ahead_any (a b : Int) (ha : U a) (hb : U b) (w : World) : Calls Try.prog 19 #[.int .u32 a, .int .u32 b] w fun e w' => e = .returned (.int .i64 (d a b)) ∧ w = w' := by
  unfold U at ha hb
  by_cases h : b < a
  all_goals
    go_enter Try.func19, Try.ntmps19
    go_wp2
    go_ret
    exact ⟨ret_int (by unfold d; omega), rfl⟩

theorem rless_any (a b : Int) (ha : U a) (hb : U b) (w : World) : Calls Try.prog 12 #[.int .u32 a, .int .u32 b] w fun e w' => e = .returned (.bool (ls a b)) ∧ w = w' := by
  have hu := d_u a b
  have hz : d a b = 0 ↔ a = b := by unfold U d at *; omega
  unfold ls
  generalize hx : d a b = x at *
  have hu' := hu
  unfold U at hu'
  obtain ⟨h, h'⟩ | ⟨h, h'⟩ | ⟨h, h'⟩ : (a = b ∧ x = 0) ∨ (¬ a = b ∧ (1 ≤ x ∧ x < 2147483648)) ∨ (¬ a = b ∧ 2147483648 ≤ x) := by omega
  all_goals
    clear hz
    go_enter Try.func12, Try.ntmps12
    go_wp2_with (go_at_call 19; refine (ahead_any a b ha hb _).mono ?_; rw [hx]; rintro e w' ⟨rfl, rfl⟩)
    go_ret
    exact ⟨ret_bool (Bool.eq_iff_iff.2 (by simp <;> omega)), rfl⟩

theorem tm (n : Int) : (∃ q, n = 4294967296 * q + n.tmod 4294967296) ∧ -4294967296 < n.tmod 4294967296 ∧ n.tmod 4294967296 < 4294967296 := by
  rcases Int.le_total 0 n with h | h
  · rw [Int.tmod_eq_emod_of_nonneg h]
    exact ⟨⟨n / 4294967296, by omega⟩, by omega, by omega⟩
  · have e : n.tmod 4294967296 = -((-n).tmod 4294967296) := by rw [Int.neg_tmod, Int.neg_neg]
    rw [e, Int.tmod_eq_emod_of_nonneg (by omega)]
    exact ⟨⟨-((-n) / 4294967296), by omega⟩, by omega, by omega⟩

theorem radd_any (a n : Int) (ha : U a) (w : World) : Calls Try.prog 14 #[.int .u32 a, .int .i64 n] w fun e w' => e = .returned (.int .u32 (ad a n)) ∧ w = w' := by
  unfold U at ha
  obtain ⟨⟨q, hq⟩, h1, h2⟩ := tm n
  obtain ⟨⟨r, hr⟩, h3, h4⟩ := tm (a + n.tmod 4294967296)
  have hw : wrap64 (a + n.tmod 4294967296) = a + n.tmod 4294967296 := by unfold wrap64; omega
  have hw' : wrap64 ((a + n.tmod 4294967296).tmod 4294967296 + 4294967296) = (a + n.tmod 4294967296).tmod 4294967296 + 4294967296 := by unfold wrap64; omega
  have HQ := Lib.hid hq
  have HR := Lib.hid hr
  clear hq hr
  by_cases h : (a + n.tmod 4294967296).tmod 4294967296 < 0
  all_goals
    go_enter Try.func14, Try.ntmps14
    go_wp2
    go_ret
    exact ⟨ret_int (by have := HQ.out; have := HR.out; unfold ad; omega), rfl⟩

theorem rspan_any (a b : Int) (ha : U a) (hb : U b) (w : World) : Calls Try.prog 10 #[.int .u32 a, .int .u32 b] w fun e w' => e = .returned (.tuple #[.int .i64 (sp a b), .bool (sq a b)]) ∧ w = w' := by
  have hu := d_u a b
  unfold sp sq
  generalize hx : d a b = x at *
  unfold U at hu
  by_cases h2 : x < 2147483648
  all_goals
    go_enter Try.func10, Try.ntmps10
    go_wp2_with (go_at_call 19; refine (ahead_any a b ha hb _).mono ?_; rw [hx]; rintro e w' ⟨rfl, rfl⟩)
    go_ret2
    exact ⟨ret_both (by simp) (by simp), rfl⟩

theorem rin_any (x f n : Int) (hx0 : U x) (hf : U f) (w : World) : Calls Try.prog 16 #[.int .u32 x, .int .u32 f, .int .i64 n] w fun e w' => e = .returned (.bool (inn x f n)) ∧ w = w' := by
  have hu := d_u f x
  unfold inn
  generalize hx : d f x = y at *
  unfold U at hu
  obtain h | h | h : n ≤ 0 ∨ (0 < n ∧ y < n) ∨ (0 < n ∧ n ≤ y) := by omega
  all_goals
    go_enter Try.func16, Try.ntmps16
    go_wp2_with (go_at_call 19; refine (ahead_any f x hf hx0 _).mono ?_; rw [hx]; rintro e w' ⟨rfl, rfl⟩)
    go_ret
    exact ⟨ret_bool (Bool.eq_iff_iff.2 (by simp <;> omega)), rfl⟩

theorem works_any (w : World) : Calls Try.prog 17 #[] w fun e w' => e = .returned (.bool true) ∧ w = w' := by
  go_enter Try.func17, Try.ntmps17
  go_wp2
  go_ret
  exact ⟨rfl, rfl⟩
end Go.Proofs.Ythbabaeeaniicaa.Ser
