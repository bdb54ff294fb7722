/-
  Contract of rightAlone: has a value what its kind has, whatever its kids are? Condition: the table of package utf; a text of at most 2^30 bytes.
-/
import Derived.Test.YtdbcdabijolagaaDoorRtex
namespace Go.Proofs.YtdbcdabijolagaaDoor.Val
open Go.RowKit Go.Proofs.YtdbcdabijolagaaDoor.Utf V

def emptyB (t : ByteArray) : Bool := decide (t.size = 0)
theorem empty_eq {t : ByteArray} (h : t.size = 0) : t = ⟨#[]⟩ := by
  obtain ⟨a⟩ := t
  have : a = #[] := by apply Array.eq_empty_of_size_eq_zero; exact h
  rw [this]
theorem empty_no {t : ByteArray} (h : ¬ t.size = 0) : ¬ t.toList = [] := fun e => h (by
  have e2 : t = ⟨#[]⟩ := ba_toList (t := ⟨#[]⟩) (by rw [e]; simp)
  rw [e2]; rfl)

/-- Has a value what its kind has, and nothing else, whatever its kids are? -/
noncomputable def aloneOk (k n : Nat) (t : ByteArray) (l : Nat) : Bool :=
  if k = 1 then decide (n = 0) && emptyB t && decide (l = 0)
  else if 2 ≤ k ∧ k ≤ 14 then emptyB t && decide (l = 0) && numB k n
  else if 15 ≤ k ∧ k ≤ 21 then decide (n = 0) && decide (l = 0) && textB k t
  else if 22 ≤ k ∧ k ≤ 25 then decide (n = 0) && emptyB t else false

theorem empty_no' {t : ByteArray} (h : ¬ t.size = 0) : t.toList.isEmpty = false := by
  have := empty_no h
  cases hl : t.toList with
  | nil => exact absurd hl this
  | cons => rfl
theorem empty_yes : emptyB ⟨#[]⟩ = true := by simp [emptyB]; rfl

theorem ra1 (n : Nat) (t : ByteArray) (A : Option Addr) (l c : Nat) (w : World) :
    Calls Tryd.prog 45 #[.agg #[.int .u8 1, .int .u64 n, .string t, .slice A l c]] w (GivesB (decide (n = 0) && emptyB t && decide (l = 0)) w) := by
  by_cases h0 : n = 0
  · subst h0
    by_cases h1 : t.size = 0
    · obtain rfl := empty_eq h1
      clear h1
      have HE := Lib.hid (eq_nat l 0)
      go_enter Tryd.func45, Tryd.ntmps45
      go_wp2
      go_ret
      exact ⟨by rw [empty_yes, ← HE.out]; rfl, (Below.refl _ _).alloc (Nat.le_refl _) _⟩
    · have d4 := empty_no h1
      have HB : Hid (emptyB t = false) := Lib.hid (by simpa [emptyB] using h1)
      clear h1
      go_enter Tryd.func45, Tryd.ntmps45
      go_wp2
      go_ret
      exact ⟨by rw [HB.out]; rfl, (Below.refl _ _).alloc (Nat.le_refl _) _⟩
  · have d4 : ((n : Int) == 0) = false := by rw [beq_eq_false_iff_ne]; omega
    have HB : Hid (decide (n = 0) = false) := Lib.hid (by simpa using h0)
    clear h0
    go_enter Tryd.func45, Tryd.ntmps45
    go_wp2
    go_ret
    exact ⟨by rw [HB.out]; rfl, (Below.refl _ _).alloc (Nat.le_refl _) _⟩
theorem ra2 (k n : Nat) (t : ByteArray) (A : Option Addr) (l c : Nat) (w : World) (hn : n < 18446744073709551616) (hk : 2 ≤ k ∧ k ≤ 14) :
    Calls Tryd.prog 45 #[.agg #[.int .u8 k, .int .u64 n, .string t, .slice A l c]] w (GivesB (emptyB t && decide (l = 0) && numB k n) w) := by
  have d1 : ((k : Int) == 1) = false := by rw [beq_eq_false_iff_ne]; omega
  have d2 : decide (2 ≤ (k : Int)) = true := by simp; omega
  have d3 : decide ((k : Int) ≤ 14) = true := by simp; omega
  clear hk
  by_cases h1 : t.size = 0
  · obtain rfl := empty_eq h1
    clear h1
    by_cases h2 : l = 0
    · subst h2
      have HN := Lib.hid hn
      clear hn
      go_enter Tryd.func45, Tryd.ntmps45
      go_wp2_with fail
      refine (rightNumber_any k n HN.out _).mono ?_
      rintro e w1 ⟨rfl, hb⟩
      have hb2 := below_next ((Below.refl _ _).alloc (Nat.le_refl _) _) hb
      go_wp2
      go_ret
      exact ⟨by rw [empty_yes]; rfl, hb2⟩
    · have d4 : ((l : Int) == 0) = false := by rw [beq_eq_false_iff_ne]; omega
      have HB : Hid (decide (l = 0) = false) := Lib.hid (by simpa using h2)
      clear h2 hn
      go_enter Tryd.func45, Tryd.ntmps45
      go_wp2
      go_ret
      exact ⟨by rw [HB.out, Bool.and_false]; rfl, (Below.refl _ _).alloc (Nat.le_refl _) _⟩
  · have d4 := empty_no h1
    have HB : Hid (emptyB t = false) := Lib.hid (by simpa [emptyB] using h1)
    clear h1 hn
    go_enter Tryd.func45, Tryd.ntmps45
    go_wp2
    go_ret
    exact ⟨by rw [HB.out]; rfl, (Below.refl _ _).alloc (Nat.le_refl _) _⟩
theorem ra3 (k n : Nat) (t : ByteArray) (A : Option Addr) (l c : Nat) (w : World) (ht : Tab w) (hs : t.size ≤ 1073741824) (hk : 15 ≤ k ∧ k ≤ 21) :
    Calls Tryd.prog 45 #[.agg #[.int .u8 k, .int .u64 n, .string t, .slice A l c]] w (GivesB (decide (n = 0) && decide (l = 0) && textB k t) w) := by
  have d1 : ((k : Int) == 1) = false := by rw [beq_eq_false_iff_ne]; omega
  have d2 : decide (2 ≤ (k : Int)) = true := by simp; omega
  have d3 : decide ((k : Int) ≤ 14) = false := by simp; omega
  have d5 : decide (15 ≤ (k : Int)) = true := by simp; omega
  have d6 : decide ((k : Int) ≤ 21) = true := by simp; omega
  clear hk
  by_cases h1 : n = 0
  · subst h1
    by_cases h2 : l = 0
    · subst h2
      go_enter Tryd.func45, Tryd.ntmps45
      go_wp2_with fail
      refine (rightText_any k t _ (ht.call ((Below.refl _ _).alloc (Nat.le_refl _) _)) hs).mono ?_
      rintro e w1 ⟨rfl, hb⟩
      have hb2 := below_next ((Below.refl _ _).alloc (Nat.le_refl _) _) hb
      go_wp2
      go_ret
      exact ⟨rfl, hb2⟩
    · have d4 : ((l : Int) == 0) = false := by rw [beq_eq_false_iff_ne]; omega
      have HB : Hid (decide (l = 0) = false) := Lib.hid (by simpa using h2)
      clear h2
      go_enter Tryd.func45, Tryd.ntmps45
      go_wp2
      go_ret
      exact ⟨by rw [HB.out, Bool.and_false]; rfl, (Below.refl _ _).alloc (Nat.le_refl _) _⟩
  · have d4 : ((n : Int) == 0) = false := by rw [beq_eq_false_iff_ne]; omega
    have HB : Hid (decide (n = 0) = false) := Lib.hid (by simpa using h1)
    clear h1
    go_enter Tryd.func45, Tryd.ntmps45
    go_wp2
    go_ret
    exact ⟨by rw [HB.out]; rfl, (Below.refl _ _).alloc (Nat.le_refl _) _⟩
theorem ra4 (k n : Nat) (t : ByteArray) (A : Option Addr) (l c : Nat) (w : World) (hk : 22 ≤ k ∧ k ≤ 25) :
    Calls Tryd.prog 45 #[.agg #[.int .u8 k, .int .u64 n, .string t, .slice A l c]] w (GivesB (decide (n = 0) && emptyB t) w) := by
  have d1 : ((k : Int) == 1) = false := by rw [beq_eq_false_iff_ne]; omega
  have d2 : decide (2 ≤ (k : Int)) = true := by simp; omega
  have d3 : decide ((k : Int) ≤ 14) = false := by simp; omega
  have d5 : decide (15 ≤ (k : Int)) = true := by simp; omega
  have d6 : decide ((k : Int) ≤ 21) = false := by simp; omega
  have d7 : decide (22 ≤ (k : Int)) = true := by simp; omega
  have d8 : decide ((k : Int) ≤ 25) = true := by simp; omega
  clear hk
  by_cases h1 : n = 0
  · subst h1
    by_cases h2 : t.size = 0
    · obtain rfl := empty_eq h2
      clear h2
      go_enter Tryd.func45, Tryd.ntmps45
      go_wp2
      go_ret
      exact ⟨by rw [empty_yes]; rfl, (Below.refl _ _).alloc (Nat.le_refl _) _⟩
    · have d4 := empty_no' h2
      have HB : Hid (emptyB t = false) := Lib.hid (by simpa [emptyB] using h2)
      clear h2
      go_enter Tryd.func45, Tryd.ntmps45
      go_wp2
      go_ret
      exact ⟨by rw [HB.out, Bool.and_false]; rfl, (Below.refl _ _).alloc (Nat.le_refl _) _⟩
  · have d4 : ((n : Int) == 0) = false := by rw [beq_eq_false_iff_ne]; omega
    have HB : Hid (decide (n = 0) = false) := Lib.hid (by simpa using h1)
    clear h1
    go_enter Tryd.func45, Tryd.ntmps45
    go_wp2
    go_ret
    exact ⟨by rw [HB.out]; rfl, (Below.refl _ _).alloc (Nat.le_refl _) _⟩
theorem ra0 (n : Nat) (t : ByteArray) (A : Option Addr) (l c : Nat) (w : World) :
    Calls Tryd.prog 45 #[.agg #[.int .u8 0, .int .u64 n, .string t, .slice A l c]] w (GivesB false w) := by
  go_enter Tryd.func45, Tryd.ntmps45
  go_wp2
  go_ret
  exact ⟨rfl, (Below.refl _ _).alloc (Nat.le_refl _) _⟩
theorem rax (k n : Nat) (t : ByteArray) (A : Option Addr) (l c : Nat) (w : World) (hk : 26 ≤ k) :
    Calls Tryd.prog 45 #[.agg #[.int .u8 k, .int .u64 n, .string t, .slice A l c]] w (GivesB false w) := by
  have d1 : ((k : Int) == 1) = false := by rw [beq_eq_false_iff_ne]; omega
  have d2 : decide (2 ≤ (k : Int)) = true := by simp; omega
  have d3 : decide ((k : Int) ≤ 14) = false := by simp; omega
  have d5 : decide (15 ≤ (k : Int)) = true := by simp; omega
  have d6 : decide ((k : Int) ≤ 21) = false := by simp; omega
  have d7 : decide (22 ≤ (k : Int)) = true := by simp; omega
  have d8 : decide ((k : Int) ≤ 25) = false := by simp; omega
  clear hk
  go_enter Tryd.func45, Tryd.ntmps45
  go_wp2
  go_ret
  exact ⟨rfl, (Below.refl _ _).alloc (Nat.le_refl _) _⟩
theorem rightAlone_any (k n : Nat) (t : ByteArray) (A : Option Addr) (l c : Nat) (w : World) (ht : Tab w) (hs : t.size ≤ 1073741824) (hn : n < 18446744073709551616) :
    Calls Tryd.prog 45 #[.agg #[.int .u8 k, .int .u64 n, .string t, .slice A l c]] w (GivesB (aloneOk k n t l) w) := by
  unfold aloneOk
  by_cases h1 : k = 1
  · subst h1; exact ra1 n t A l c w
  rw [if_neg h1]
  by_cases h2 : 2 ≤ k ∧ k ≤ 14
  · rw [if_pos h2]; exact ra2 k n t A l c w hn h2
  rw [if_neg h2]
  by_cases h3 : 15 ≤ k ∧ k ≤ 21
  · rw [if_pos h3]; exact ra3 k n t A l c w ht hs h3
  rw [if_neg h3]
  by_cases h4 : 22 ≤ k ∧ k ≤ 25
  · rw [if_pos h4]; exact ra4 k n t A l c w h4
  rw [if_neg h4]
  by_cases h0 : k = 0
  · subst h0; exact ra0 n t A l c w
  · exact rax k n t A l c w (by omega)
end Go.Proofs.YtdbcdabijolagaaDoor.Val
