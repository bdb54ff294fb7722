/-
  Contracts of the laws' helpers: same (characters), EqBytes, and of utf.Ascii and the document's Ascii. Conditions: at most 2^40 of them.
-/
import Derived.Test.YtdbcdabijolagaaDoorChars
import Derived.WalkLawsBesides
namespace Go.Proofs.YtdbcdabijolagaaDoor.Utf
open Go.RowKit

theorem less_self (l : List UInt8) : Op.bytesLess l l = false := by
  induction l with
  | nil => rfl
  | cons a l ih => simp [Op.bytesLess, ih]

theorem less_not : ∀ (l m : List UInt8), Op.bytesLess l m = true → Op.bytesLess m l = false
  | [], [], _ => by simp [Op.bytesLess]
  | [], _ :: _, _ => by simp [Op.bytesLess]
  | _ :: _, [], h => by simp [Op.bytesLess] at h
  | a :: l, b :: m, h => by
    simp only [Op.bytesLess, Bool.or_eq_true, Bool.and_eq_true, decide_eq_true_eq, beq_iff_eq] at h
    rcases h with h | ⟨rfl, h⟩
    · have h1 : ¬ b < a := fun h2 => by have := UInt8.lt_trans h h2; simp at this
      have h2 : ¬ b = a := fun h2 => by subst h2; simp at h
      simp [Op.bytesLess, h1, h2]
    · simp [Op.bytesLess, less_not l m h]

theorem sb_list (l : List Nat) : (sb l).toList = l.map UInt8.ofNat := by
  simp [sb]

theorem leq_both {x y : List UInt8} (h : x ≠ y) : ((Op.bytesLess x y || x == y) && (Op.bytesLess y x || y == x)) = false := by
  have h1 : (x == y) = false := by simpa using h
  have h2 : (y == x) = false := by simpa using fun e => h (Eq.symm e)
  rw [h1, h2]
  cases hl : Op.bytesLess x y with
  | false => rfl
  | true => rw [less_not x y hl]; rfl

/-- EqBytes of bytes that are the same. -/
theorem eqbytes_same (B B' : Nat) (A A' : Option Addr) (n c c' : Nat) (l : List Nat) (w : World) (hr : Rd .u8 256 w B A n l) (hr' : Rd .u8 256 w B' A' n l) :
    Calls Tryd.prog 67 #[.slice A n c, .slice A' n c'] w fun e w' => e = .returned (.bool true) ∧ w = w' := by
  have hs1 := run_str c hr
  have hs2 := run_str c' hr'
  go_enter Tryd.func67, Tryd.ntmps67
  go_wp2
  go_ret
  exact ⟨rfl, rfl⟩

/-- EqBytes of bytes that are not the same. -/
theorem eqbytes_other (B B' : Nat) (A A' : Option Addr) (n n' c c' : Nat) (l l' : List Nat) (w : World) (hr : Rd .u8 256 w B A n l) (hr' : Rd .u8 256 w B' A' n' l') (hne : l ≠ l') :
    Calls Tryd.prog 67 #[.slice A n c, .slice A' n' c'] w fun e w' => e = .returned (.bool false) ∧ w = w' := by
  have hs1 := run_str c hr
  have hs2 := run_str c' hr'
  have hX : (sb l).toList ≠ (sb l').toList := fun h => hne (by
    rw [sb_list, sb_list] at h
    refine sb_inj hr.lim hr'.lim ?_
    simp [sb, h])
  have HB := Lib.hid (leq_both hX)
  clear hX
  go_enter Tryd.func67, Tryd.ntmps67
  go_wp2
  all_goals
    go_ret
    first | exact ⟨rfl, rfl⟩ | exact ⟨congrArg (fun b => Ending.returned (.bool b)) HB.out, rfl⟩

def asc (l : List Nat) : Bool := l.all fun x => decide (x < 128)
theorem asc_step {l : List Nat} {k x : Nat} (h : l[k]? = some x) : asc (l.drop k) = (decide (x < 128) && asc (l.drop (k + 1))) := by
  rw [drop_at h]; simp [asc]

theorem ascii_any (B : Nat) (A : Option Addr) (n c : Nat) (l : List Nat) (w : World) (hr : Rd .u8 256 w B A n l) (hn : n ≤ 1099511627776) :
    Calls Tryd.prog 62 #[.slice A n c] w fun e w' => e = .returned (.bool (asc l)) ∧ w = w' := by
  go_enter Tryd.func62, Tryd.ntmps62
  go_wp2
  go_loop [7] (fun i => ∃ k : Nat, k ≤ n ∧ i = .int .i64 k ∧ asc l = asc (l.drop k)) (fun i => n - (intOf i).toNat)
  case atStart => exact ⟨0, Nat.zero_le _, rfl, rfl⟩
  case round =>
    obtain ⟨k, hk, rfl, ha⟩ := hrel
    by_cases hlt : k < n
    · obtain ⟨b, o, x, rfl, hb, hx, hx2, hc⟩ := hr.at_ hlt
      rw [asc_step hx] at ha
      clear hx
      by_cases h8 : x < 128
      · have HA : Hid (asc l = asc (l.drop (k + 1))) := Lib.hid (by rw [ha]; simp [h8])
        clear ha
        have d8 : decide (128 ≤ (x : Int)) = false := by simp; omega
        go_wp2
        exact ⟨⟨k + 1, by omega, by go_num, HA.out⟩, by simp [intOf]; omega⟩
      · have HA : Hid (asc l = false) := Lib.hid (by rw [ha]; simp [h8])
        clear ha
        have d8 : decide (128 ≤ (x : Int)) = true := by simp; omega
        go_wp2
        go_ret
        exact ⟨by rw [HA.out]; rfl, rfl⟩
    · have HA : Hid (asc l = true) := Lib.hid (by rw [ha, List.drop_of_length_le (by rw [hr.len]; omega)]; rfl)
      clear ha
      go_wp2
      go_ret
      exact ⟨by rw [HA.out]; rfl, rfl⟩

theorem rascii_any (B : Nat) (A : Option Addr) (n c : Nat) (l : List Nat) (w : World) (hr : Rd .u8 256 w B A n l) (hn : n ≤ 1099511627776) :
    Calls Tryd.prog 59 #[.slice A n c] w fun e w' => e = .returned (.bool (asc l)) ∧ w = w' := by
  go_enter Tryd.func59, Tryd.ntmps59
  go_wp2
  go_loop [3] (fun i => ∃ k : Nat, k ≤ n ∧ i = .int .i64 k ∧ asc l = asc (l.drop k)) (fun i => n - (intOf i).toNat)
  case atStart => exact ⟨0, Nat.zero_le _, rfl, rfl⟩
  case round =>
    obtain ⟨k, hk, rfl, ha⟩ := hrel
    by_cases hlt : k < n
    · obtain ⟨b, o, x, rfl, hb, hx, hx2, hc⟩ := hr.at_ hlt
      rw [asc_step hx] at ha
      clear hx
      by_cases h8 : x < 128
      · have HA : Hid (asc l = asc (l.drop (k + 1))) := Lib.hid (by rw [ha]; simp [h8])
        clear ha
        have d8 : decide (127 < (x : Int)) = false := by simp; omega
        go_wp2
        exact ⟨⟨k + 1, by omega, by go_num, HA.out⟩, by simp [intOf]; omega⟩
      · have HA : Hid (asc l = false) := Lib.hid (by rw [ha]; simp [h8])
        clear ha
        have d8 : decide (127 < (x : Int)) = true := by simp; omega
        go_wp2
        go_ret
        exact ⟨by rw [HA.out]; rfl, rfl⟩
    · have HA : Hid (asc l = true) := Lib.hid (by rw [ha, List.drop_of_length_le (by rw [hr.len]; omega)]; rfl)
      clear ha
      go_wp2
      go_ret
      exact ⟨by rw [HA.out]; rfl, rfl⟩
end Go.Proofs.YtdbcdabijolagaaDoor.Utf
