/-
  Which texts may stand in which kinds: contract of rightText. Condition: the table of package utf; a text of at most 2^30 bytes.
-/
import Derived.Test.YtdbcdabijolagaaDoorRnum
import Derived.Lib.ConvBytes
namespace Go.Proofs.YtdbcdabijolagaaDoor.Val
open Go.RowKit Go.Proofs.YtdbcdabijolagaaDoor.Utf V

/-- The bytes of a text. -/
def nb (t : ByteArray) : List Nat := t.data.toList.map UInt8.toNat
theorem nb_len (t : ByteArray) : (nb t).length = t.size := by simp [nb]

/-- '[]byte(s)': the bytes, in new memory. -/
theorem conv_str (w : World) (t : ByteArray) : ∃ w' c, (convert 9 73 (.string t)).run Tryd.prog w = .ok (.slice (some ⟨w.heap.size, 0, none⟩) t.size c) w' ∧ t.size ≤ c ∧
    Rd .u8 256 w' w'.heap.size (some ⟨w.heap.size, 0, none⟩) t.size (nb t) ∧ Below w.heap.size w w' := by
  refine ⟨_, _, Lib.run_convert_string_bytes w 9 73 5 t under9 Tryd.underlying73 Tryd.underlying5, ?_, ⟨nb_len t, ?_, fun _ => ⟨w.heap.size, 0, rfl, ?_, fun k hk => ?_⟩⟩, ?_⟩
  · have := grownCap_ge w t.size 0 5
    omega
  · intro x hx
    obtain ⟨y, _, rfl⟩ := List.mem_map.1 hx
    exact UInt8.toNat_lt y
  · rw [Lib.bytesWorld_size]; omega
  · have hk' : k < t.size := by rw [nb_len] at hk; exact hk
    rw [Nat.zero_add, Lib.bytesWorld_cell w _ t k hk']
    have hl : k < t.data.toList.length := by simpa using hk'
    simp only [nb, List.getElem_map]
    rw [List.getD_eq_getElem?_getD, List.getElem?_eq_getElem hl]
    rfl
  · exact ⟨rfl, rfl, rfl, by rw [Lib.bytesWorld_size]; omega, fun k hk => Lib.bytesWorld_at_old w _ t k hk⟩

/-- Are the bytes of a text those of some characters? -/
noncomputable def utfB (t : ByteArray) : Bool := @decide (∃ cs, IsT (nb t) cs) (Classical.propDecidable _)
theorem utfB_yes {t : ByteArray} (h : ∃ cs, IsT (nb t) cs) : utfB t = true := by simp only [utfB, decide_eq_true_eq]; exact h
theorem utfB_no {t : ByteArray} (h : NoT (nb t)) : utfB t = false := by
  simp only [utfB, decide_eq_false_iff_not]
  rintro ⟨cs, hc⟩
  exact h cs hc

/-- May a text be one of a kind of texts? -/
noncomputable def textB (k : Nat) (t : ByteArray) : Bool :=
  if k = 15 ∨ k = 18 then decide (t.size = 16) else if k = 16 then decide (t.size = 4) else if k = 17 then decide (t.size = 8) else if k = 20 then utfB t else if k = 21 then asc (nb t) else true

theorem eq_nat (n m : Nat) : ((n : Int) == (m : Int)) = decide (n = m) := by
  by_cases h : n = m
  · subst h; simp
  · rw [decide_eq_false h, beq_eq_false_iff_ne]; omega

theorem rt15 (t : ByteArray) (w : World) : Calls Tryd.prog 52 #[.int .u8 15, .string t] w (GivesB (decide (t.size = 16)) w) := by
  have HE := Lib.hid (eq_nat t.size 16)
  go_enter Tryd.func52, Tryd.ntmps52
  go_wp2
  go_ret
  exact ⟨congrArg (fun b => Ending.returned (.bool b)) HE.out, Below.refl _ _⟩

theorem rt18 (t : ByteArray) (w : World) : Calls Tryd.prog 52 #[.int .u8 18, .string t] w (GivesB (decide (t.size = 16)) w) := by
  have HE := Lib.hid (eq_nat t.size 16)
  go_enter Tryd.func52, Tryd.ntmps52
  go_wp2
  go_ret
  exact ⟨congrArg (fun b => Ending.returned (.bool b)) HE.out, Below.refl _ _⟩

theorem rt16 (t : ByteArray) (w : World) : Calls Tryd.prog 52 #[.int .u8 16, .string t] w (GivesB (decide (t.size = 4)) w) := by
  have HE := Lib.hid (eq_nat t.size 4)
  go_enter Tryd.func52, Tryd.ntmps52
  go_wp2
  go_ret
  exact ⟨congrArg (fun b => Ending.returned (.bool b)) HE.out, Below.refl _ _⟩

theorem rt17 (t : ByteArray) (w : World) : Calls Tryd.prog 52 #[.int .u8 17, .string t] w (GivesB (decide (t.size = 8)) w) := by
  have HE := Lib.hid (eq_nat t.size 8)
  go_enter Tryd.func52, Tryd.ntmps52
  go_wp2
  go_ret
  exact ⟨congrArg (fun b => Ending.returned (.bool b)) HE.out, Below.refl _ _⟩

theorem rt20 (t : ByteArray) (w : World) (ht : Tab w) (hs : t.size ≤ 1073741824) : Calls Tryd.prog 52 #[.int .u8 20, .string t] w (GivesB (utfB t) w) := by
  obtain ⟨w1, c, hrun, hc, hr, hb⟩ := conv_str w t
  have ht1 := ht.call hb
  go_enter Tryd.func52, Tryd.ntmps52
  go_wp2_with fail
  refine (right_any _ _ _ _ w1 ht1 hr hc (by omega)).mono ?_
  rintro e w2 ⟨⟨hT, rfl⟩ | ⟨hN, rfl⟩, hb2⟩
  · have HB := Lib.hid (utfB_yes hT)
    clear hT
    go_wp2
    go_ret
    exact ⟨by rw [HB.out]; rfl, below_next hb hb2⟩
  · have HB := Lib.hid (utfB_no hN)
    clear hN
    go_wp2
    go_ret
    exact ⟨by rw [HB.out]; rfl, below_next hb hb2⟩
theorem rt21 (t : ByteArray) (w : World) (hs : t.size ≤ 1073741824) : Calls Tryd.prog 52 #[.int .u8 21, .string t] w (GivesB (asc (nb t)) w) := by
  obtain ⟨w1, c, hrun, hc, hr, hb⟩ := conv_str w t
  go_enter Tryd.func52, Tryd.ntmps52
  go_wp2_with fail
  refine (ascii_any _ _ _ _ _ w1 hr (by omega)).mono ?_
  rintro e w2 ⟨rfl, rfl⟩
  go_wp2
  go_ret
  exact ⟨rfl, hb⟩
theorem rtx (k : Nat) (t : ByteArray) (w : World) (h : k ≠ 15 ∧ k ≠ 18 ∧ k ≠ 16 ∧ k ≠ 17 ∧ k ≠ 20 ∧ k ≠ 21) : Calls Tryd.prog 52 #[.int .u8 k, .string t] w (GivesB true w) := by
  have d15 : ((k : Int) == 15) = false := by rw [beq_eq_false_iff_ne]; omega
  have d18 : ((k : Int) == 18) = false := by rw [beq_eq_false_iff_ne]; omega
  have d16 : ((k : Int) == 16) = false := by rw [beq_eq_false_iff_ne]; omega
  have d17 : ((k : Int) == 17) = false := by rw [beq_eq_false_iff_ne]; omega
  have d20 : ((k : Int) == 20) = false := by rw [beq_eq_false_iff_ne]; omega
  have d21 : ((k : Int) == 21) = false := by rw [beq_eq_false_iff_ne]; omega
  clear h
  go_enter Tryd.func52, Tryd.ntmps52
  go_wp2
  go_ret
  exact ⟨rfl, Below.refl _ _⟩
theorem rightText_any (k : Nat) (t : ByteArray) (w : World) (ht : Tab w) (hs : t.size ≤ 1073741824) : Calls Tryd.prog 52 #[.int .u8 k, .string t] w (GivesB (textB k t) w) := by
  unfold textB
  by_cases h15 : k = 15 ∨ k = 18
  · rw [if_pos h15]
    rcases h15 with rfl | rfl
    · exact rt15 t w
    · exact rt18 t w
  rw [if_neg h15]
  by_cases h16 : k = 16
  · subst h16; exact rt16 t w
  rw [if_neg h16]
  by_cases h17 : k = 17
  · subst h17; exact rt17 t w
  rw [if_neg h17]
  by_cases h20 : k = 20
  · subst h20; exact rt20 t w ht hs
  rw [if_neg h20]
  by_cases h21 : k = 21
  · subst h21; exact rt21 t w hs
  rw [if_neg h21]
  exact rtx k t w ⟨fun h => h15 (.inl h), fun h => h15 (.inr h), h16, h17, h20, h21⟩
end Go.Proofs.YtdbcdabijolagaaDoor.Val
