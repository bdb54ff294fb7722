/-
  Which numbers may stand in which kinds: contracts of rightNumber and of the document's within.
  Contract of rightNumber.
  Which texts may stand in which kinds: contract of rightText. Condition: the table of package utf; a text of at most 2^30 bytes.
  Contract of rightAlone: has a value what its kind has, whatever its kids are? Condition: the table of package utf; a text of at most 2^30 bytes.
-/
import Derived.Test.YtohmnbefokhjpaaDoorStack
import Derived.Test.YtohmnbefokhjpaaDoorRrt
import Derived.Lib.ConvBytes
namespace Go.Proofs.YtohmnbefokhjpaaDoor.Val
open Go.RowKit Go.Proofs.YtohmnbefokhjpaaDoor.Utf V

/-- A number of 64 bits that is one of fewer bits with a sign: half: 2^(bits-1). -/
def sgB (half n : Nat) : Bool := decide (n < half) || decide (18446744073709551616 - half ≤ n)
theorem sg64 (n : Nat) (hn : n < 18446744073709551616) : ∃ x : Int, wrap64 (n : Int) = x ∧ -9223372036854775808 ≤ x ∧ x < 9223372036854775808 ∧ (x = n ∨ x = (n : Int) - 18446744073709551616) := by
  refine ⟨wrap64 n, rfl, ?_, ?_, ?_⟩ <;> simp only [wrap64] <;> omega

theorem conv8 (n : Nat) (hn : n < 18446744073709551616) : ((n : Int) == IntKind.u64.wrap (IntKind.i8.wrap n)) = sgB 128 n := by
  rw [Bool.eq_iff_iff]
  simp only [beq_iff_eq, sgB, Bool.or_eq_true, decide_eq_true_eq, IntKind.wrap, IntKind.bits, IntKind.signed, Bool.true_and, Bool.false_and]
  simp
  split <;> omega

theorem conv16 (n : Nat) (hn : n < 18446744073709551616) : ((n : Int) == IntKind.u64.wrap (IntKind.i16.wrap n)) = sgB 32768 n := by
  rw [Bool.eq_iff_iff]
  simp only [beq_iff_eq, sgB, Bool.or_eq_true, decide_eq_true_eq, IntKind.wrap, IntKind.bits, IntKind.signed, Bool.true_and, Bool.false_and]
  simp
  split <;> omega

theorem conv32 (n : Nat) (hn : n < 18446744073709551616) : ((n : Int) == IntKind.u64.wrap (IntKind.i32.wrap n)) = sgB 2147483648 n := by
  rw [Bool.eq_iff_iff]
  simp only [beq_iff_eq, sgB, Bool.or_eq_true, decide_eq_true_eq, IntKind.wrap, IntKind.bits, IntKind.signed, Bool.true_and, Bool.false_and]
  simp
  split <;> omega

theorem conv32' (n : Nat) (hn : n < 18446744073709551616) : ((n : Int) == IntKind.u64.wrap (wrap32 n)) = sgB 2147483648 n := by
  rw [← conv32 n hn, show wrap32 (n : Int) = IntKind.i32.wrap n by unfold wrap32 IntKind.wrap; simp only [IntKind.bits, IntKind.signed, Bool.true_and]; simp; split <;> omega]
/-- May a number be one of a kind of numbers? -/
def numB (k n : Nat) : Bool :=
  if k = 2 then decide (n ≤ 1) else if k = 3 then decide (n < 256) else if k = 4 then decide (n < 65536) else if k = 5 ∨ k = 11 then decide (n < 4294967296) else
  if k = 7 then sgB 128 n else if k = 8 then sgB 32768 n else if k = 9 then sgB 2147483648 n else if k = 13 then isC n else true

theorem dec_nat (n m : Nat) : decide ((n : Int) < (m : Int)) = decide (n < m) := by simp
theorem dec_nat' (n m : Nat) : decide ((n : Int) ≤ (m : Int)) = decide (n ≤ m) := by simp
end Go.Proofs.YtohmnbefokhjpaaDoor.Val

namespace Go.Proofs.YtohmnbefokhjpaaDoor.Val
open Go.RowKit Go.Proofs.YtohmnbefokhjpaaDoor.Utf V

theorem rn2 (n : Nat) (w : World) : Calls Tryd.prog 57 #[.int .u8 2, .int .u64 n] w (GivesB (decide (n ≤ 1)) w) := by
  have HE := Lib.hid (dec_nat' n 1)
  go_enter Tryd.func57, Tryd.ntmps57
  go_wp2
  go_ret
  exact ⟨congrArg (fun b => Ending.returned (.bool b)) HE.out, Below.refl _ _⟩

theorem rn3 (n : Nat) (w : World) : Calls Tryd.prog 57 #[.int .u8 3, .int .u64 n] w (GivesB (decide (n < 256)) w) := by
  have HE := Lib.hid (dec_nat n 256)
  go_enter Tryd.func57, Tryd.ntmps57
  go_wp2
  go_ret
  exact ⟨congrArg (fun b => Ending.returned (.bool b)) HE.out, Below.refl _ _⟩

theorem rn4 (n : Nat) (w : World) : Calls Tryd.prog 57 #[.int .u8 4, .int .u64 n] w (GivesB (decide (n < 65536)) w) := by
  have HE := Lib.hid (dec_nat n 65536)
  go_enter Tryd.func57, Tryd.ntmps57
  go_wp2
  go_ret
  exact ⟨congrArg (fun b => Ending.returned (.bool b)) HE.out, Below.refl _ _⟩

theorem rn5 (n : Nat) (w : World) : Calls Tryd.prog 57 #[.int .u8 5, .int .u64 n] w (GivesB (decide (n < 4294967296)) w) := by
  have HE := Lib.hid (dec_nat n 4294967296)
  go_enter Tryd.func57, Tryd.ntmps57
  go_wp2
  go_ret
  exact ⟨congrArg (fun b => Ending.returned (.bool b)) HE.out, Below.refl _ _⟩

theorem rn11 (n : Nat) (w : World) : Calls Tryd.prog 57 #[.int .u8 11, .int .u64 n] w (GivesB (decide (n < 4294967296)) w) := by
  have HE := Lib.hid (dec_nat n 4294967296)
  go_enter Tryd.func57, Tryd.ntmps57
  go_wp2
  go_ret
  exact ⟨congrArg (fun b => Ending.returned (.bool b)) HE.out, Below.refl _ _⟩

theorem rn7 (n : Nat) (hn : n < 18446744073709551616) (w : World) : Calls Tryd.prog 57 #[.int .u8 7, .int .u64 n] w (GivesB (sgB 128 n) w) := by
  have HE := Lib.hid (conv8 n hn)
  clear hn
  go_enter Tryd.func57, Tryd.ntmps57
  go_wp2
  go_ret
  exact ⟨congrArg (fun b => Ending.returned (.bool b)) HE.out, Below.refl _ _⟩

theorem rn8 (n : Nat) (hn : n < 18446744073709551616) (w : World) : Calls Tryd.prog 57 #[.int .u8 8, .int .u64 n] w (GivesB (sgB 32768 n) w) := by
  have HE := Lib.hid (conv16 n hn)
  clear hn
  go_enter Tryd.func57, Tryd.ntmps57
  go_wp2
  go_ret
  exact ⟨congrArg (fun b => Ending.returned (.bool b)) HE.out, Below.refl _ _⟩

theorem rn9 (n : Nat) (hn : n < 18446744073709551616) (w : World) : Calls Tryd.prog 57 #[.int .u8 9, .int .u64 n] w (GivesB (sgB 2147483648 n) w) := by
  have HE := Lib.hid (conv32' n hn)
  clear hn
  go_enter Tryd.func57, Tryd.ntmps57
  go_wp2
  go_ret
  exact ⟨congrArg (fun b => Ending.returned (.bool b)) HE.out, Below.refl _ _⟩

theorem rn13 (n : Nat) (w : World) : Calls Tryd.prog 57 #[.int .u8 13, .int .u64 n] w (GivesB (isC n) w) := by
  go_enter Tryd.func57, Tryd.ntmps57
  go_wp2_with fail
  refine (char_any n _).mono ?_
  rintro e w1 ⟨rfl, rfl⟩
  go_wp2
  go_ret
  exact ⟨rfl, Below.refl _ _⟩
theorem rnx (k n : Nat) (w : World) (h : k ≠ 2 ∧ k ≠ 3 ∧ k ≠ 4 ∧ k ≠ 5 ∧ k ≠ 11 ∧ k ≠ 7 ∧ k ≠ 8 ∧ k ≠ 9 ∧ k ≠ 13) : Calls Tryd.prog 57 #[.int .u8 k, .int .u64 n] w (GivesB true w) := by
  have d2 : ((k : Int) == 2) = false := by rw [beq_eq_false_iff_ne]; omega
  have d3 : ((k : Int) == 3) = false := by rw [beq_eq_false_iff_ne]; omega
  have d4 : ((k : Int) == 4) = false := by rw [beq_eq_false_iff_ne]; omega
  have d5 : ((k : Int) == 5) = false := by rw [beq_eq_false_iff_ne]; omega
  have d11 : ((k : Int) == 11) = false := by rw [beq_eq_false_iff_ne]; omega
  have d7 : ((k : Int) == 7) = false := by rw [beq_eq_false_iff_ne]; omega
  have d8 : ((k : Int) == 8) = false := by rw [beq_eq_false_iff_ne]; omega
  have d9 : ((k : Int) == 9) = false := by rw [beq_eq_false_iff_ne]; omega
  have d13 : ((k : Int) == 13) = false := by rw [beq_eq_false_iff_ne]; omega
  clear h
  go_enter Tryd.func57, Tryd.ntmps57
  go_wp2
  go_ret
  exact ⟨rfl, Below.refl _ _⟩
theorem rightNumber_any (k n : Nat) (hn : n < 18446744073709551616) (w : World) : Calls Tryd.prog 57 #[.int .u8 k, .int .u64 n] w (GivesB (numB k n) w) := by
  unfold numB
  by_cases h2 : k = 2
  · subst h2; exact rn2 n w
  rw [if_neg h2]
  by_cases h3 : k = 3
  · subst h3; exact rn3 n w
  rw [if_neg h3]
  by_cases h4 : k = 4
  · subst h4; exact rn4 n w
  rw [if_neg h4]
  by_cases h5 : k = 5 ∨ k = 11
  · rw [if_pos h5]
    rcases h5 with rfl | rfl
    · exact rn5 n w
    · exact rn11 n w
  rw [if_neg h5]
  by_cases h7 : k = 7
  · subst h7; exact rn7 n hn w
  rw [if_neg h7]
  by_cases h8 : k = 8
  · subst h8; exact rn8 n hn w
  rw [if_neg h8]
  by_cases h9 : k = 9
  · subst h9; exact rn9 n hn w
  rw [if_neg h9]
  by_cases h13 : k = 13
  · subst h13; exact rn13 n w
  rw [if_neg h13]
  exact rnx k n w ⟨h2, h3, h4, fun h => h5 (.inl h), fun h => h5 (.inr h), h7, h8, h9, h13⟩
end Go.Proofs.YtohmnbefokhjpaaDoor.Val

namespace Go.Proofs.YtohmnbefokhjpaaDoor.Val
open Go.RowKit Go.Proofs.YtohmnbefokhjpaaDoor.Utf V

/-- The bytes of a text. -/
def nb (t : ByteArray) : List Nat := t.data.toList.map UInt8.toNat
theorem nb_len (t : ByteArray) : (nb t).length = t.size := by simp [nb]

/-- '[]byte(s)': the bytes, in new memory. -/
theorem conv_str (w : World) (t : ByteArray) : ∃ w' c, (convert 9 65 (.string t)).run Tryd.prog w = .ok (.slice (some ⟨w.heap.size, 0, none⟩) t.size c) w' ∧ t.size ≤ c ∧
    Rd .u8 256 w' w'.heap.size (some ⟨w.heap.size, 0, none⟩) t.size (nb t) ∧ Below w.heap.size w w' := by
  refine ⟨_, _, Lib.run_convert_string_bytes w 9 65 5 t under9 Tryd.underlying65 Tryd.underlying5, ?_, ⟨nb_len t, ?_, fun _ => ⟨w.heap.size, 0, rfl, ?_, fun k hk => ?_⟩⟩, ?_⟩
  · have := grownCap_ge w t.size 0 5
    omega
  · intro x hx
    obtain ⟨y, _, rfl⟩ := List.mem_map.1 hx
    exact UInt8.toNat_lt y
  · rw [Lib.bytesWorld_size]; omega
  · have hk' : k < t.size := by rw [nb_len] at hk; exact hk
    rw [Nat.zero_add, Lib.bytesWorld_cell w _ t k hk']
    have hl : k < t.data.toList.length := by simpa using hk'
    simp only [nb, List.getElem_map]
    rw [List.getD_eq_getElem?_getD, List.getElem?_eq_getElem hl]
    rfl
  · exact ⟨rfl, rfl, rfl, by rw [Lib.bytesWorld_size]; omega, fun k hk => Lib.bytesWorld_at_old w _ t k hk⟩

/-- Are the bytes of a text those of some characters? -/
noncomputable def utfB (t : ByteArray) : Bool := @decide (∃ cs, IsT (nb t) cs) (Classical.propDecidable _)
theorem utfB_yes {t : ByteArray} (h : ∃ cs, IsT (nb t) cs) : utfB t = true := by simp only [utfB, decide_eq_true_eq]; exact h
theorem utfB_no {t : ByteArray} (h : NoT (nb t)) : utfB t = false := by
  simp only [utfB, decide_eq_false_iff_not]
  rintro ⟨cs, hc⟩
  exact h cs hc

/-- May a text be one of a kind of texts? -/
noncomputable def textB (k : Nat) (t : ByteArray) : Bool :=
  if k = 15 ∨ k = 18 then decide (t.size = 16) else if k = 16 then decide (t.size = 4) else if k = 17 then decide (t.size = 8) else if k = 20 then utfB t else if k = 21 then asc (nb t) else true

theorem eq_nat (n m : Nat) : ((n : Int) == (m : Int)) = decide (n = m) := by
  by_cases h : n = m
  · subst h; simp
  · rw [decide_eq_false h, beq_eq_false_iff_ne]; omega

theorem rt15 (t : ByteArray) (w : World) : Calls Tryd.prog 58 #[.int .u8 15, .string t] w (GivesB (decide (t.size = 16)) w) := by
  have HE := Lib.hid (eq_nat t.size 16)
  go_enter Tryd.func58, Tryd.ntmps58
  go_wp2
  go_ret
  exact ⟨congrArg (fun b => Ending.returned (.bool b)) HE.out, Below.refl _ _⟩

theorem rt18 (t : ByteArray) (w : World) : Calls Tryd.prog 58 #[.int .u8 18, .string t] w (GivesB (decide (t.size = 16)) w) := by
  have HE := Lib.hid (eq_nat t.size 16)
  go_enter Tryd.func58, Tryd.ntmps58
  go_wp2
  go_ret
  exact ⟨congrArg (fun b => Ending.returned (.bool b)) HE.out, Below.refl _ _⟩

theorem rt16 (t : ByteArray) (w : World) : Calls Tryd.prog 58 #[.int .u8 16, .string t] w (GivesB (decide (t.size = 4)) w) := by
  have HE := Lib.hid (eq_nat t.size 4)
  go_enter Tryd.func58, Tryd.ntmps58
  go_wp2
  go_ret
  exact ⟨congrArg (fun b => Ending.returned (.bool b)) HE.out, Below.refl _ _⟩

theorem rt17 (t : ByteArray) (w : World) : Calls Tryd.prog 58 #[.int .u8 17, .string t] w (GivesB (decide (t.size = 8)) w) := by
  have HE := Lib.hid (eq_nat t.size 8)
  go_enter Tryd.func58, Tryd.ntmps58
  go_wp2
  go_ret
  exact ⟨congrArg (fun b => Ending.returned (.bool b)) HE.out, Below.refl _ _⟩

theorem rt20 (t : ByteArray) (w : World) (ht : Tab w) (hs : t.size ≤ 1073741824) : Calls Tryd.prog 58 #[.int .u8 20, .string t] w (GivesB (utfB t) w) := by
  obtain ⟨w1, c, hrun, hc, hr, hb⟩ := conv_str w t
  have ht1 := ht.call hb
  go_enter Tryd.func58, Tryd.ntmps58
  go_wp2_with fail
  refine (right_any _ _ _ _ w1 ht1 hr hc (by omega)).mono ?_
  rintro e w2 ⟨⟨hT, rfl⟩ | ⟨hN, rfl⟩, hb2⟩
  · have HB := Lib.hid (utfB_yes hT)
    clear hT
    go_wp2
    go_ret
    exact ⟨by rw [HB.out]; rfl, below_next hb hb2⟩
  · have HB := Lib.hid (utfB_no hN)
    clear hN
    go_wp2
    go_ret
    exact ⟨by rw [HB.out]; rfl, below_next hb hb2⟩
theorem rt21 (t : ByteArray) (w : World) (hs : t.size ≤ 1073741824) : Calls Tryd.prog 58 #[.int .u8 21, .string t] w (GivesB (asc (nb t)) w) := by
  obtain ⟨w1, c, hrun, hc, hr, hb⟩ := conv_str w t
  go_enter Tryd.func58, Tryd.ntmps58
  go_wp2_with fail
  refine (ascii_any _ _ _ _ _ w1 hr (by omega)).mono ?_
  rintro e w2 ⟨rfl, rfl⟩
  go_wp2
  go_ret
  exact ⟨rfl, hb⟩
theorem rtx (k : Nat) (t : ByteArray) (w : World) (h : k ≠ 15 ∧ k ≠ 18 ∧ k ≠ 16 ∧ k ≠ 17 ∧ k ≠ 20 ∧ k ≠ 21) : Calls Tryd.prog 58 #[.int .u8 k, .string t] w (GivesB true w) := by
  have d15 : ((k : Int) == 15) = false := by rw [beq_eq_false_iff_ne]; omega
  have d18 : ((k : Int) == 18) = false := by rw [beq_eq_false_iff_ne]; omega
  have d16 : ((k : Int) == 16) = false := by rw [beq_eq_false_iff_ne]; omega
  have d17 : ((k : Int) == 17) = false := by rw [beq_eq_false_iff_ne]; omega
  have d20 : ((k : Int) == 20) = false := by rw [beq_eq_false_iff_ne]; omega
  have d21 : ((k : Int) == 21) = false := by rw [beq_eq_false_iff_ne]; omega
  clear h
  go_enter Tryd.func58, Tryd.ntmps58
  go_wp2
  go_ret
  exact ⟨rfl, Below.refl _ _⟩
theorem rightText_any (k : Nat) (t : ByteArray) (w : World) (ht : Tab w) (hs : t.size ≤ 1073741824) : Calls Tryd.prog 58 #[.int .u8 k, .string t] w (GivesB (textB k t) w) := by
  unfold textB
  by_cases h15 : k = 15 ∨ k = 18
  · rw [if_pos h15]
    rcases h15 with rfl | rfl
    · exact rt15 t w
    · exact rt18 t w
  rw [if_neg h15]
  by_cases h16 : k = 16
  · subst h16; exact rt16 t w
  rw [if_neg h16]
  by_cases h17 : k = 17
  · subst h17; exact rt17 t w
  rw [if_neg h17]
  by_cases h20 : k = 20
  · subst h20; exact rt20 t w ht hs
  rw [if_neg h20]
  by_cases h21 : k = 21
  · subst h21; exact rt21 t w hs
  rw [if_neg h21]
  exact rtx k t w ⟨fun h => h15 (.inl h), fun h => h15 (.inr h), h16, h17, h20, h21⟩
end Go.Proofs.YtohmnbefokhjpaaDoor.Val

namespace Go.Proofs.YtohmnbefokhjpaaDoor.Val
open Go.RowKit Go.Proofs.YtohmnbefokhjpaaDoor.Utf V

def emptyB (t : ByteArray) : Bool := decide (t.size = 0)
theorem empty_eq {t : ByteArray} (h : t.size = 0) : t = ⟨#[]⟩ := by
  obtain ⟨a⟩ := t
  have : a = #[] := by apply Array.eq_empty_of_size_eq_zero; exact h
  rw [this]
theorem empty_no {t : ByteArray} (h : ¬ t.size = 0) : ¬ t.toList = [] := fun e => h (by
  have e2 : t = ⟨#[]⟩ := ba_toList (t := ⟨#[]⟩) (by rw [e]; simp)
  rw [e2]; rfl)

/-- Has a value what its kind has, and nothing else, whatever its kids are? -/
noncomputable def aloneOk (k n : Nat) (t : ByteArray) (l : Nat) : Bool :=
  if k = 1 then decide (n = 0) && emptyB t && decide (l = 0)
  else if 2 ≤ k ∧ k ≤ 14 then emptyB t && decide (l = 0) && numB k n
  else if 15 ≤ k ∧ k ≤ 21 then decide (n = 0) && decide (l = 0) && textB k t
  else if 22 ≤ k ∧ k ≤ 25 then decide (n = 0) && emptyB t else false

theorem empty_no' {t : ByteArray} (h : ¬ t.size = 0) : t.toList.isEmpty = false := by
  have := empty_no h
  cases hl : t.toList with
  | nil => exact absurd hl this
  | cons => rfl
theorem empty_yes : emptyB ⟨#[]⟩ = true := by simp [emptyB]; rfl

theorem ra1 (n : Nat) (t : ByteArray) (A : Option Addr) (l c : Nat) (w : World) :
    Calls Tryd.prog 51 #[.agg #[.int .u8 1, .int .u64 n, .string t, .slice A l c]] w (GivesB (decide (n = 0) && emptyB t && decide (l = 0)) w) := by
  by_cases h0 : n = 0
  · subst h0
    by_cases h1 : t.size = 0
    · obtain rfl := empty_eq h1
      clear h1
      have HE := Lib.hid (eq_nat l 0)
      go_enter Tryd.func51, Tryd.ntmps51
      go_wp2
      go_ret
      exact ⟨by rw [empty_yes, ← HE.out]; rfl, (Below.refl _ _).alloc (Nat.le_refl _) _⟩
    · have d4 := empty_no h1
      have HB : Hid (emptyB t = false) := Lib.hid (by simpa [emptyB] using h1)
      clear h1
      go_enter Tryd.func51, Tryd.ntmps51
      go_wp2
      go_ret
      exact ⟨by rw [HB.out]; rfl, (Below.refl _ _).alloc (Nat.le_refl _) _⟩
  · have d4 : ((n : Int) == 0) = false := by rw [beq_eq_false_iff_ne]; omega
    have HB : Hid (decide (n = 0) = false) := Lib.hid (by simpa using h0)
    clear h0
    go_enter Tryd.func51, Tryd.ntmps51
    go_wp2
    go_ret
    exact ⟨by rw [HB.out]; rfl, (Below.refl _ _).alloc (Nat.le_refl _) _⟩
theorem ra2 (k n : Nat) (t : ByteArray) (A : Option Addr) (l c : Nat) (w : World) (hn : n < 18446744073709551616) (hk : 2 ≤ k ∧ k ≤ 14) :
    Calls Tryd.prog 51 #[.agg #[.int .u8 k, .int .u64 n, .string t, .slice A l c]] w (GivesB (emptyB t && decide (l = 0) && numB k n) w) := by
  have d1 : ((k : Int) == 1) = false := by rw [beq_eq_false_iff_ne]; omega
  have d2 : decide (2 ≤ (k : Int)) = true := by simp; omega
  have d3 : decide ((k : Int) ≤ 14) = true := by simp; omega
  clear hk
  by_cases h1 : t.size = 0
  · obtain rfl := empty_eq h1
    clear h1
    by_cases h2 : l = 0
    · subst h2
      have HN := Lib.hid hn
      clear hn
      go_enter Tryd.func51, Tryd.ntmps51
      go_wp2_with fail
      refine (rightNumber_any k n HN.out _).mono ?_
      rintro e w1 ⟨rfl, hb⟩
      have hb2 := below_next ((Below.refl _ _).alloc (Nat.le_refl _) _) hb
      go_wp2
      go_ret
      exact ⟨by rw [empty_yes]; rfl, hb2⟩
    · have d4 : ((l : Int) == 0) = false := by rw [beq_eq_false_iff_ne]; omega
      have HB : Hid (decide (l = 0) = false) := Lib.hid (by simpa using h2)
      clear h2 hn
      go_enter Tryd.func51, Tryd.ntmps51
      go_wp2
      go_ret
      exact ⟨by rw [HB.out, Bool.and_false]; rfl, (Below.refl _ _).alloc (Nat.le_refl _) _⟩
  · have d4 := empty_no h1
    have HB : Hid (emptyB t = false) := Lib.hid (by simpa [emptyB] using h1)
    clear h1 hn
    go_enter Tryd.func51, Tryd.ntmps51
    go_wp2
    go_ret
    exact ⟨by rw [HB.out]; rfl, (Below.refl _ _).alloc (Nat.le_refl _) _⟩
theorem ra3 (k n : Nat) (t : ByteArray) (A : Option Addr) (l c : Nat) (w : World) (ht : Tab w) (hs : t.size ≤ 1073741824) (hk : 15 ≤ k ∧ k ≤ 21) :
    Calls Tryd.prog 51 #[.agg #[.int .u8 k, .int .u64 n, .string t, .slice A l c]] w (GivesB (decide (n = 0) && decide (l = 0) && textB k t) w) := by
  have d1 : ((k : Int) == 1) = false := by rw [beq_eq_false_iff_ne]; omega
  have d2 : decide (2 ≤ (k : Int)) = true := by simp; omega
  have d3 : decide ((k : Int) ≤ 14) = false := by simp; omega
  have d5 : decide (15 ≤ (k : Int)) = true := by simp; omega
  have d6 : decide ((k : Int) ≤ 21) = true := by simp; omega
  clear hk
  by_cases h1 : n = 0
  · subst h1
    by_cases h2 : l = 0
    · subst h2
      go_enter Tryd.func51, Tryd.ntmps51
      go_wp2_with fail
      refine (rightText_any k t _ (ht.call ((Below.refl _ _).alloc (Nat.le_refl _) _)) hs).mono ?_
      rintro e w1 ⟨rfl, hb⟩
      have hb2 := below_next ((Below.refl _ _).alloc (Nat.le_refl _) _) hb
      go_wp2
      go_ret
      exact ⟨rfl, hb2⟩
    · have d4 : ((l : Int) == 0) = false := by rw [beq_eq_false_iff_ne]; omega
      have HB : Hid (decide (l = 0) = false) := Lib.hid (by simpa using h2)
      clear h2
      go_enter Tryd.func51, Tryd.ntmps51
      go_wp2
      go_ret
      exact ⟨by rw [HB.out, Bool.and_false]; rfl, (Below.refl _ _).alloc (Nat.le_refl _) _⟩
  · have d4 : ((n : Int) == 0) = false := by rw [beq_eq_false_iff_ne]; omega
    have HB : Hid (decide (n = 0) = false) := Lib.hid (by simpa using h1)
    clear h1
    go_enter Tryd.func51, Tryd.ntmps51
    go_wp2
    go_ret
    exact ⟨by rw [HB.out]; rfl, (Below.refl _ _).alloc (Nat.le_refl _) _⟩
theorem ra4 (k n : Nat) (t : ByteArray) (A : Option Addr) (l c : Nat) (w : World) (hk : 22 ≤ k ∧ k ≤ 25) :
    Calls Tryd.prog 51 #[.agg #[.int .u8 k, .int .u64 n, .string t, .slice A l c]] w (GivesB (decide (n = 0) && emptyB t) w) := by
  have d1 : ((k : Int) == 1) = false := by rw [beq_eq_false_iff_ne]; omega
  have d2 : decide (2 ≤ (k : Int)) = true := by simp; omega
  have d3 : decide ((k : Int) ≤ 14) = false := by simp; omega
  have d5 : decide (15 ≤ (k : Int)) = true := by simp; omega
  have d6 : decide ((k : Int) ≤ 21) = false := by simp; omega
  have d7 : decide (22 ≤ (k : Int)) = true := by simp; omega
  have d8 : decide ((k : Int) ≤ 25) = true := by simp; omega
  clear hk
  by_cases h1 : n = 0
  · subst h1
    by_cases h2 : t.size = 0
    · obtain rfl := empty_eq h2
      clear h2
      go_enter Tryd.func51, Tryd.ntmps51
      go_wp2
      go_ret
      exact ⟨by rw [empty_yes]; rfl, (Below.refl _ _).alloc (Nat.le_refl _) _⟩
    · have d4 := empty_no' h2
      have HB : Hid (emptyB t = false) := Lib.hid (by simpa [emptyB] using h2)
      clear h2
      go_enter Tryd.func51, Tryd.ntmps51
      go_wp2
      go_ret
      exact ⟨by rw [HB.out, Bool.and_false]; rfl, (Below.refl _ _).alloc (Nat.le_refl _) _⟩
  · have d4 : ((n : Int) == 0) = false := by rw [beq_eq_false_iff_ne]; omega
    have HB : Hid (decide (n = 0) = false) := Lib.hid (by simpa using h1)
    clear h1
    go_enter Tryd.func51, Tryd.ntmps51
    go_wp2
    go_ret
    exact ⟨by rw [HB.out]; rfl, (Below.refl _ _).alloc (Nat.le_refl _) _⟩
theorem ra0 (n : Nat) (t : ByteArray) (A : Option Addr) (l c : Nat) (w : World) :
    Calls Tryd.prog 51 #[.agg #[.int .u8 0, .int .u64 n, .string t, .slice A l c]] w (GivesB false w) := by
  go_enter Tryd.func51, Tryd.ntmps51
  go_wp2
  go_ret
  exact ⟨rfl, (Below.refl _ _).alloc (Nat.le_refl _) _⟩
theorem rax (k n : Nat) (t : ByteArray) (A : Option Addr) (l c : Nat) (w : World) (hk : 26 ≤ k) :
    Calls Tryd.prog 51 #[.agg #[.int .u8 k, .int .u64 n, .string t, .slice A l c]] w (GivesB false w) := by
  have d1 : ((k : Int) == 1) = false := by rw [beq_eq_false_iff_ne]; omega
  have d2 : decide (2 ≤ (k : Int)) = true := by simp; omega
  have d3 : decide ((k : Int) ≤ 14) = false := by simp; omega
  have d5 : decide (15 ≤ (k : Int)) = true := by simp; omega
  have d6 : decide ((k : Int) ≤ 21) = false := by simp; omega
  have d7 : decide (22 ≤ (k : Int)) = true := by simp; omega
  have d8 : decide ((k : Int) ≤ 25) = false := by simp; omega
  clear hk
  go_enter Tryd.func51, Tryd.ntmps51
  go_wp2
  go_ret
  exact ⟨rfl, (Below.refl _ _).alloc (Nat.le_refl _) _⟩
theorem rightAlone_any (k n : Nat) (t : ByteArray) (A : Option Addr) (l c : Nat) (w : World) (ht : Tab w) (hs : t.size ≤ 1073741824) (hn : n < 18446744073709551616) :
    Calls Tryd.prog 51 #[.agg #[.int .u8 k, .int .u64 n, .string t, .slice A l c]] w (GivesB (aloneOk k n t l) w) := by
  unfold aloneOk
  by_cases h1 : k = 1
  · subst h1; exact ra1 n t A l c w
  rw [if_neg h1]
  by_cases h2 : 2 ≤ k ∧ k ≤ 14
  · rw [if_pos h2]; exact ra2 k n t A l c w hn h2
  rw [if_neg h2]
  by_cases h3 : 15 ≤ k ∧ k ≤ 21
  · rw [if_pos h3]; exact ra3 k n t A l c w ht hs h3
  rw [if_neg h3]
  by_cases h4 : 22 ≤ k ∧ k ≤ 25
  · rw [if_pos h4]; exact ra4 k n t A l c w h4
  rw [if_neg h4]
  by_cases h0 : k = 0
  · subst h0; exact ra0 n t A l c w
  · exact rax k n t A l c w (by omega)
end Go.Proofs.YtohmnbefokhjpaaDoor.Val
