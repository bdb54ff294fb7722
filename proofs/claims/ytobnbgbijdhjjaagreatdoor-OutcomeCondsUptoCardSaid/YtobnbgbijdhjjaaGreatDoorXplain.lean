/-
  Contract of the document's plain: may a value without kids be? Condition: a text of at most 2^30 bytes.
  Contract of the document's plain, at every kind.
-/
import Derived.Test.YtobnbgbijdhjjaaGreatDoorRalo
namespace Go.Proofs.YtobnbgbijdhjjaaGreatDoor.Val
set_option maxRecDepth 100000
open Go.RowKit Go.Proofs.YtobnbgbijdhjjaaGreatDoor.Utf V

theorem emptyB_list (t : ByteArray) : t.toList.isEmpty = emptyB t := by
  by_cases h : t.size = 0
  · obtain rfl := empty_eq h
    rw [empty_yes]; simp
  · rw [empty_no' h]
    exact (show emptyB t = false by simpa [emptyB] using h).symm
theorem one_box (w : World) (o : Obj) : Below w.heap.size w (w.alloc o) := (Below.refl _ _).alloc (Nat.le_refl _) _

theorem pl1 (n : Nat) (t : ByteArray) (A : Option Addr) (c : Nat) (w : World) :
    Calls Tryz.prog 79 #[.agg #[.int .u8 1, .int .u64 n, .string t, .slice A 0 c]] w (GivesB (decide (n = 0) && emptyB t) w) := by
  have HT := Lib.hid (emptyB_list t)
  by_cases hP : n = 0
  · have d : ((n : Int) == 0) = true := by rw [beq_iff_eq]; omega
    have HP := Lib.hid (decide_eq_true hP)
    clear hP
    go_enter Tryz.func79, Tryz.ntmps79
    go_wp2
    go_ret
    exact ⟨by rw [HP.out, Bool.true_and, ← HT.out]; rfl, one_box _ _⟩
  · have d : ((n : Int) == 0) = false := by rw [beq_eq_false_iff_ne]; omega
    have HP := Lib.hid (decide_eq_false hP)
    clear hP
    go_enter Tryz.func79, Tryz.ntmps79
    go_wp2
    go_ret
    exact ⟨by rw [HP.out]; rfl, one_box _ _⟩

theorem pl2 (n : Nat) (t : ByteArray) (A : Option Addr) (c : Nat) (w : World) :
    Calls Tryz.prog 79 #[.agg #[.int .u8 2, .int .u64 n, .string t, .slice A 0 c]] w (GivesB (decide (n ≤ 1) && emptyB t) w) := by
  have HT := Lib.hid (emptyB_list t)
  by_cases hP : n ≤ 1
  · have d : decide ((n : Int) ≤ 1) = true := by simp; omega
    have HP := Lib.hid (decide_eq_true hP)
    clear hP
    go_enter Tryz.func79, Tryz.ntmps79
    go_wp2
    go_ret
    exact ⟨by rw [HP.out, Bool.true_and, ← HT.out]; rfl, one_box _ _⟩
  · have d : decide ((n : Int) ≤ 1) = false := by simp; omega
    have HP := Lib.hid (decide_eq_false hP)
    clear hP
    go_enter Tryz.func79, Tryz.ntmps79
    go_wp2
    go_ret
    exact ⟨by rw [HP.out]; rfl, one_box _ _⟩

theorem pl3 (n : Nat) (t : ByteArray) (A : Option Addr) (c : Nat) (w : World) :
    Calls Tryz.prog 79 #[.agg #[.int .u8 3, .int .u64 n, .string t, .slice A 0 c]] w (GivesB (decide (n < 256) && emptyB t) w) := by
  have HT := Lib.hid (emptyB_list t)
  by_cases hP : n < 256
  · have d : decide ((n : Int) < 256) = true := by simp; omega
    have HP := Lib.hid (decide_eq_true hP)
    clear hP
    go_enter Tryz.func79, Tryz.ntmps79
    go_wp2
    go_ret
    exact ⟨by rw [HP.out, Bool.true_and, ← HT.out]; rfl, one_box _ _⟩
  · have d : decide ((n : Int) < 256) = false := by simp; omega
    have HP := Lib.hid (decide_eq_false hP)
    clear hP
    go_enter Tryz.func79, Tryz.ntmps79
    go_wp2
    go_ret
    exact ⟨by rw [HP.out]; rfl, one_box _ _⟩

theorem pl4 (n : Nat) (t : ByteArray) (A : Option Addr) (c : Nat) (w : World) :
    Calls Tryz.prog 79 #[.agg #[.int .u8 4, .int .u64 n, .string t, .slice A 0 c]] w (GivesB (decide (n < 65536) && emptyB t) w) := by
  have HT := Lib.hid (emptyB_list t)
  by_cases hP : n < 65536
  · have d : decide ((n : Int) < 65536) = true := by simp; omega
    have HP := Lib.hid (decide_eq_true hP)
    clear hP
    go_enter Tryz.func79, Tryz.ntmps79
    go_wp2
    go_ret
    exact ⟨by rw [HP.out, Bool.true_and, ← HT.out]; rfl, one_box _ _⟩
  · have d : decide ((n : Int) < 65536) = false := by simp; omega
    have HP := Lib.hid (decide_eq_false hP)
    clear hP
    go_enter Tryz.func79, Tryz.ntmps79
    go_wp2
    go_ret
    exact ⟨by rw [HP.out]; rfl, one_box _ _⟩

theorem pl5 (n : Nat) (t : ByteArray) (A : Option Addr) (c : Nat) (w : World) :
    Calls Tryz.prog 79 #[.agg #[.int .u8 5, .int .u64 n, .string t, .slice A 0 c]] w (GivesB (decide (n < 4294967296) && emptyB t) w) := by
  have HT := Lib.hid (emptyB_list t)
  by_cases hP : n < 4294967296
  · have d : decide ((n : Int) < 4294967296) = true := by simp; omega
    have HP := Lib.hid (decide_eq_true hP)
    clear hP
    go_enter Tryz.func79, Tryz.ntmps79
    go_wp2
    go_ret
    exact ⟨by rw [HP.out, Bool.true_and, ← HT.out]; rfl, one_box _ _⟩
  · have d : decide ((n : Int) < 4294967296) = false := by simp; omega
    have HP := Lib.hid (decide_eq_false hP)
    clear hP
    go_enter Tryz.func79, Tryz.ntmps79
    go_wp2
    go_ret
    exact ⟨by rw [HP.out]; rfl, one_box _ _⟩

theorem pl11 (n : Nat) (t : ByteArray) (A : Option Addr) (c : Nat) (w : World) :
    Calls Tryz.prog 79 #[.agg #[.int .u8 11, .int .u64 n, .string t, .slice A 0 c]] w (GivesB (decide (n < 4294967296) && emptyB t) w) := by
  have HT := Lib.hid (emptyB_list t)
  by_cases hP : n < 4294967296
  · have d : decide ((n : Int) < 4294967296) = true := by simp; omega
    have HP := Lib.hid (decide_eq_true hP)
    clear hP
    go_enter Tryz.func79, Tryz.ntmps79
    go_wp2
    go_ret
    exact ⟨by rw [HP.out, Bool.true_and, ← HT.out]; rfl, one_box _ _⟩
  · have d : decide ((n : Int) < 4294967296) = false := by simp; omega
    have HP := Lib.hid (decide_eq_false hP)
    clear hP
    go_enter Tryz.func79, Tryz.ntmps79
    go_wp2
    go_ret
    exact ⟨by rw [HP.out]; rfl, one_box _ _⟩

theorem pl7 (n : Nat) (t : ByteArray) (A : Option Addr) (c : Nat) (w : World) (hn : n < 18446744073709551616) :
    Calls Tryz.prog 79 #[.agg #[.int .u8 7, .int .u64 n, .string t, .slice A 0 c]] w (GivesB (sgB 128 n && emptyB t) w) := by
  have HT := Lib.hid (emptyB_list t)
  have HN := Lib.hid hn
  clear hn
  go_enter Tryz.func79, Tryz.ntmps79
  go_wp2_with fail
  refine (within8 n HN.out _).mono ?_
  rintro e w1 ⟨rfl, hb⟩
  have hb2 := below_next (one_box _ _) hb
  have h2 : w1.cell? ⟨w.heap.size, 2, none⟩ = some (.string t) := box_kept (by simp) hb (by simp)
  cases hq : sgB 128 n with
  | true =>
    go_wp2
    go_ret
    exact ⟨by rw [hq, ← HT.out]; rfl, hb2⟩
  | false =>
    go_wp2
    go_ret
    exact ⟨by rw [hq]; rfl, hb2⟩

theorem pl8 (n : Nat) (t : ByteArray) (A : Option Addr) (c : Nat) (w : World) (hn : n < 18446744073709551616) :
    Calls Tryz.prog 79 #[.agg #[.int .u8 8, .int .u64 n, .string t, .slice A 0 c]] w (GivesB (sgB 32768 n && emptyB t) w) := by
  have HT := Lib.hid (emptyB_list t)
  have HN := Lib.hid hn
  clear hn
  go_enter Tryz.func79, Tryz.ntmps79
  go_wp2_with fail
  refine (within16 n HN.out _).mono ?_
  rintro e w1 ⟨rfl, hb⟩
  have hb2 := below_next (one_box _ _) hb
  have h2 : w1.cell? ⟨w.heap.size, 2, none⟩ = some (.string t) := box_kept (by simp) hb (by simp)
  cases hq : sgB 32768 n with
  | true =>
    go_wp2
    go_ret
    exact ⟨by rw [hq, ← HT.out]; rfl, hb2⟩
  | false =>
    go_wp2
    go_ret
    exact ⟨by rw [hq]; rfl, hb2⟩

theorem pl9 (n : Nat) (t : ByteArray) (A : Option Addr) (c : Nat) (w : World) (hn : n < 18446744073709551616) :
    Calls Tryz.prog 79 #[.agg #[.int .u8 9, .int .u64 n, .string t, .slice A 0 c]] w (GivesB (sgB 2147483648 n && emptyB t) w) := by
  have HT := Lib.hid (emptyB_list t)
  have HN := Lib.hid hn
  clear hn
  go_enter Tryz.func79, Tryz.ntmps79
  go_wp2_with fail
  refine (within32 n HN.out _).mono ?_
  rintro e w1 ⟨rfl, hb⟩
  have hb2 := below_next (one_box _ _) hb
  have h2 : w1.cell? ⟨w.heap.size, 2, none⟩ = some (.string t) := box_kept (by simp) hb (by simp)
  cases hq : sgB 2147483648 n with
  | true =>
    go_wp2
    go_ret
    exact ⟨by rw [hq, ← HT.out]; rfl, hb2⟩
  | false =>
    go_wp2
    go_ret
    exact ⟨by rw [hq]; rfl, hb2⟩

theorem pl6 (n : Nat) (t : ByteArray) (A : Option Addr) (c : Nat) (w : World) :
    Calls Tryz.prog 79 #[.agg #[.int .u8 6, .int .u64 n, .string t, .slice A 0 c]] w (GivesB (emptyB t) w) := by
  have HT := Lib.hid (emptyB_list t)
  go_enter Tryz.func79, Tryz.ntmps79
  go_wp2
  go_ret
  exact ⟨by rw [← HT.out]; rfl, one_box _ _⟩

theorem pl10 (n : Nat) (t : ByteArray) (A : Option Addr) (c : Nat) (w : World) :
    Calls Tryz.prog 79 #[.agg #[.int .u8 10, .int .u64 n, .string t, .slice A 0 c]] w (GivesB (emptyB t) w) := by
  have HT := Lib.hid (emptyB_list t)
  go_enter Tryz.func79, Tryz.ntmps79
  go_wp2
  go_ret
  exact ⟨by rw [← HT.out]; rfl, one_box _ _⟩

theorem pl12 (n : Nat) (t : ByteArray) (A : Option Addr) (c : Nat) (w : World) :
    Calls Tryz.prog 79 #[.agg #[.int .u8 12, .int .u64 n, .string t, .slice A 0 c]] w (GivesB (emptyB t) w) := by
  have HT := Lib.hid (emptyB_list t)
  go_enter Tryz.func79, Tryz.ntmps79
  go_wp2
  go_ret
  exact ⟨by rw [← HT.out]; rfl, one_box _ _⟩

theorem pl14 (n : Nat) (t : ByteArray) (A : Option Addr) (c : Nat) (w : World) :
    Calls Tryz.prog 79 #[.agg #[.int .u8 14, .int .u64 n, .string t, .slice A 0 c]] w (GivesB (emptyB t) w) := by
  have HT := Lib.hid (emptyB_list t)
  go_enter Tryz.func79, Tryz.ntmps79
  go_wp2
  go_ret
  exact ⟨by rw [← HT.out]; rfl, one_box _ _⟩

theorem pl13 (n : Nat) (t : ByteArray) (A : Option Addr) (c : Nat) (w : World) :
    Calls Tryz.prog 79 #[.agg #[.int .u8 13, .int .u64 n, .string t, .slice A 0 c]] w (GivesB (isC n && emptyB t) w) := by
  have HT := Lib.hid (emptyB_list t)
  go_enter Tryz.func79, Tryz.ntmps79
  go_wp2_with fail
  refine (rchar_any n _).mono ?_
  rintro e w1 ⟨rfl, rfl⟩
  cases hq : isC n with
  | true =>
    go_wp2
    go_ret
    exact ⟨by rw [hq, ← HT.out]; rfl, one_box _ _⟩
  | false =>
    go_wp2
    go_ret
    exact ⟨by rw [hq]; rfl, one_box _ _⟩

theorem pl15 (n : Nat) (t : ByteArray) (A : Option Addr) (c : Nat) (w : World) :
    Calls Tryz.prog 79 #[.agg #[.int .u8 15, .int .u64 n, .string t, .slice A 0 c]] w (GivesB (decide (n = 0) && decide (t.size = 16)) w) := by
  by_cases hP : n = 0
  · subst hP
    have HE := Lib.hid (eq_nat t.size 16)
    go_enter Tryz.func79, Tryz.ntmps79
    go_wp2
    go_ret
    exact ⟨congrArg (fun b => Ending.returned (.bool b)) HE.out, one_box _ _⟩
  · have d : ((n : Int) == 0) = false := by rw [beq_eq_false_iff_ne]; omega
    have HP := Lib.hid (decide_eq_false hP)
    clear hP
    go_enter Tryz.func79, Tryz.ntmps79
    go_wp2
    go_ret
    exact ⟨by rw [HP.out]; rfl, one_box _ _⟩

theorem pl18 (n : Nat) (t : ByteArray) (A : Option Addr) (c : Nat) (w : World) :
    Calls Tryz.prog 79 #[.agg #[.int .u8 18, .int .u64 n, .string t, .slice A 0 c]] w (GivesB (decide (n = 0) && decide (t.size = 16)) w) := by
  by_cases hP : n = 0
  · subst hP
    have HE := Lib.hid (eq_nat t.size 16)
    go_enter Tryz.func79, Tryz.ntmps79
    go_wp2
    go_ret
    exact ⟨congrArg (fun b => Ending.returned (.bool b)) HE.out, one_box _ _⟩
  · have d : ((n : Int) == 0) = false := by rw [beq_eq_false_iff_ne]; omega
    have HP := Lib.hid (decide_eq_false hP)
    clear hP
    go_enter Tryz.func79, Tryz.ntmps79
    go_wp2
    go_ret
    exact ⟨by rw [HP.out]; rfl, one_box _ _⟩

theorem pl16 (n : Nat) (t : ByteArray) (A : Option Addr) (c : Nat) (w : World) :
    Calls Tryz.prog 79 #[.agg #[.int .u8 16, .int .u64 n, .string t, .slice A 0 c]] w (GivesB (decide (n = 0) && decide (t.size = 4)) w) := by
  by_cases hP : n = 0
  · subst hP
    have HE := Lib.hid (eq_nat t.size 4)
    go_enter Tryz.func79, Tryz.ntmps79
    go_wp2
    go_ret
    exact ⟨congrArg (fun b => Ending.returned (.bool b)) HE.out, one_box _ _⟩
  · have d : ((n : Int) == 0) = false := by rw [beq_eq_false_iff_ne]; omega
    have HP := Lib.hid (decide_eq_false hP)
    clear hP
    go_enter Tryz.func79, Tryz.ntmps79
    go_wp2
    go_ret
    exact ⟨by rw [HP.out]; rfl, one_box _ _⟩

theorem pl17 (n : Nat) (t : ByteArray) (A : Option Addr) (c : Nat) (w : World) :
    Calls Tryz.prog 79 #[.agg #[.int .u8 17, .int .u64 n, .string t, .slice A 0 c]] w (GivesB (decide (n = 0) && decide (t.size = 8)) w) := by
  by_cases hP : n = 0
  · subst hP
    have HE := Lib.hid (eq_nat t.size 8)
    go_enter Tryz.func79, Tryz.ntmps79
    go_wp2
    go_ret
    exact ⟨congrArg (fun b => Ending.returned (.bool b)) HE.out, one_box _ _⟩
  · have d : ((n : Int) == 0) = false := by rw [beq_eq_false_iff_ne]; omega
    have HP := Lib.hid (decide_eq_false hP)
    clear hP
    go_enter Tryz.func79, Tryz.ntmps79
    go_wp2
    go_ret
    exact ⟨by rw [HP.out]; rfl, one_box _ _⟩

theorem pl19 (n : Nat) (t : ByteArray) (A : Option Addr) (c : Nat) (w : World) :
    Calls Tryz.prog 79 #[.agg #[.int .u8 19, .int .u64 n, .string t, .slice A 0 c]] w (GivesB (decide (n = 0) && true) w) := by
  by_cases hP : n = 0
  · subst hP
    go_enter Tryz.func79, Tryz.ntmps79
    go_wp2
    go_ret
    exact ⟨rfl, one_box _ _⟩
  · have d : ((n : Int) == 0) = false := by rw [beq_eq_false_iff_ne]; omega
    have HP := Lib.hid (decide_eq_false hP)
    clear hP
    go_enter Tryz.func79, Tryz.ntmps79
    go_wp2
    go_ret
    exact ⟨by rw [HP.out]; rfl, one_box _ _⟩

theorem pl20 (n : Nat) (t : ByteArray) (A : Option Addr) (c : Nat) (w : World) (hs : t.size ≤ 1073741824) :
    Calls Tryz.prog 79 #[.agg #[.int .u8 20, .int .u64 n, .string t, .slice A 0 c]] w (GivesB (decide (n = 0) && utfB t) w) := by
  by_cases hP : n = 0
  · subst hP
    obtain ⟨w1, c1, hrun, hc, hr, hb⟩ := conv_str (w.alloc (.cells #[.int .u8 20, .int .u64 0, .string t, .slice A 0 c] 25)) t
    simp only [World.size_alloc] at hrun hr
    go_enter Tryz.func79, Tryz.ntmps79
    go_wp2_with fail
    refine (rright_any _ _ _ _ w1 hr (by omega)).mono ?_
    rintro e w2 ⟨⟨hT, rfl⟩ | ⟨hN, rfl⟩, hb2⟩
    · have HB := Lib.hid (utfB_yes hT)
      clear hT
      go_wp2
      go_ret
      exact ⟨by rw [HB.out]; rfl, below_next (below_next (one_box _ _) hb) hb2⟩
    · have HB := Lib.hid (utfB_no hN)
      clear hN
      go_wp2
      go_ret
      exact ⟨by rw [HB.out]; rfl, below_next (below_next (one_box _ _) hb) hb2⟩
  · have d : ((n : Int) == 0) = false := by rw [beq_eq_false_iff_ne]; omega
    have HP := Lib.hid (decide_eq_false hP)
    clear hP
    go_enter Tryz.func79, Tryz.ntmps79
    go_wp2
    go_ret
    exact ⟨by rw [HP.out]; rfl, one_box _ _⟩

theorem pl21 (n : Nat) (t : ByteArray) (A : Option Addr) (c : Nat) (w : World) (hs : t.size ≤ 1073741824) :
    Calls Tryz.prog 79 #[.agg #[.int .u8 21, .int .u64 n, .string t, .slice A 0 c]] w (GivesB (decide (n = 0) && asc (nb t)) w) := by
  by_cases hP : n = 0
  · subst hP
    obtain ⟨w1, c1, hrun, hc, hr, hb⟩ := conv_str (w.alloc (.cells #[.int .u8 21, .int .u64 0, .string t, .slice A 0 c] 25)) t
    simp only [World.size_alloc] at hrun hr
    go_enter Tryz.func79, Tryz.ntmps79
    go_wp2_with fail
    refine (rascii_any _ _ _ _ _ w1 hr (by omega)).mono ?_
    rintro e w2 ⟨rfl, rfl⟩
    go_wp2
    go_ret
    exact ⟨rfl, below_next (one_box _ _) hb⟩
  · have d : ((n : Int) == 0) = false := by rw [beq_eq_false_iff_ne]; omega
    have HP := Lib.hid (decide_eq_false hP)
    clear hP
    go_enter Tryz.func79, Tryz.ntmps79
    go_wp2
    go_ret
    exact ⟨by rw [HP.out]; rfl, one_box _ _⟩

theorem plx (k n : Nat) (t : ByteArray) (A : Option Addr) (c : Nat) (w : World) (h : k = 0 ∨ 22 ≤ k) :
    Calls Tryz.prog 79 #[.agg #[.int .u8 k, .int .u64 n, .string t, .slice A 0 c]] w (GivesB false w) := by
  have d1 : ((k : Int) == 1) = false := by rw [beq_eq_false_iff_ne]; omega
  have d2 : ((k : Int) == 2) = false := by rw [beq_eq_false_iff_ne]; omega
  have d3 : ((k : Int) == 3) = false := by rw [beq_eq_false_iff_ne]; omega
  have d4 : ((k : Int) == 4) = false := by rw [beq_eq_false_iff_ne]; omega
  have d5 : ((k : Int) == 5) = false := by rw [beq_eq_false_iff_ne]; omega
  have d6 : ((k : Int) == 6) = false := by rw [beq_eq_false_iff_ne]; omega
  have d7 : ((k : Int) == 7) = false := by rw [beq_eq_false_iff_ne]; omega
  have d8 : ((k : Int) == 8) = false := by rw [beq_eq_false_iff_ne]; omega
  have d9 : ((k : Int) == 9) = false := by rw [beq_eq_false_iff_ne]; omega
  have d10 : ((k : Int) == 10) = false := by rw [beq_eq_false_iff_ne]; omega
  have d11 : ((k : Int) == 11) = false := by rw [beq_eq_false_iff_ne]; omega
  have d12 : ((k : Int) == 12) = false := by rw [beq_eq_false_iff_ne]; omega
  have d13 : ((k : Int) == 13) = false := by rw [beq_eq_false_iff_ne]; omega
  have d14 : ((k : Int) == 14) = false := by rw [beq_eq_false_iff_ne]; omega
  have d15 : ((k : Int) == 15) = false := by rw [beq_eq_false_iff_ne]; omega
  have d16 : ((k : Int) == 16) = false := by rw [beq_eq_false_iff_ne]; omega
  have d17 : ((k : Int) == 17) = false := by rw [beq_eq_false_iff_ne]; omega
  have d18 : ((k : Int) == 18) = false := by rw [beq_eq_false_iff_ne]; omega
  have d19 : ((k : Int) == 19) = false := by rw [beq_eq_false_iff_ne]; omega
  have d20 : ((k : Int) == 20) = false := by rw [beq_eq_false_iff_ne]; omega
  have d21 : ((k : Int) == 21) = false := by rw [beq_eq_false_iff_ne]; omega
  clear h
  go_enter Tryz.func79, Tryz.ntmps79
  go_wp2
  go_ret
  exact ⟨rfl, one_box _ _⟩
theorem pll (k n : Nat) (t : ByteArray) (A : Option Addr) (l c : Nat) (w : World) (h : 0 < l) :
    Calls Tryz.prog 79 #[.agg #[.int .u8 k, .int .u64 n, .string t, .slice A l c]] w (GivesB false w) := by
  have d : decide ((0 : Int) < l) = true := by simp; omega
  go_enter Tryz.func79, Tryz.ntmps79
  go_wp2
  go_ret
  exact ⟨rfl, one_box _ _⟩

/-- What the document's plain answers. -/
noncomputable def plainOk (k n : Nat) (t : ByteArray) (l : Nat) : Bool := if 22 ≤ k ∧ k ≤ 25 then false else decide (l = 0) && aloneOk k n t l
end Go.Proofs.YtobnbgbijdhjjaaGreatDoor.Val

namespace Go.Proofs.YtobnbgbijdhjjaaGreatDoor.Val
set_option maxRecDepth 100000
open Go.RowKit Go.Proofs.YtobnbgbijdhjjaaGreatDoor.Utf V

theorem GivesB.cast {p q : Bool} {w w' : World} {e : Ending} (h : GivesB p w e w') (hq : p = q) : GivesB q w e w' := hq ▸ h
theorem calls_cast {f : FuncId} {xs : Array Value} {p q : Bool} {w : World} (h : Calls Tryz.prog f xs w (GivesB p w)) (hq : p = q) : Calls Tryz.prog f xs w (GivesB q w) := hq ▸ h

theorem xplain_any (k n : Nat) (t : ByteArray) (A : Option Addr) (l c : Nat) (w : World) (hs : t.size ≤ 1073741824) (hn : n < 18446744073709551616) :
    Calls Tryz.prog 79 #[.agg #[.int .u8 k, .int .u64 n, .string t, .slice A l c]] w (GivesB (plainOk k n t l) w) := by
  rcases Nat.eq_zero_or_pos l with rfl | hl
  · by_cases hx : k = 0 ∨ 22 ≤ k
    · refine calls_cast (plx k n t A c w hx) ?_
      simp only [plainOk, aloneOk]
      rcases hx with rfl | hx
      · simp
      · by_cases h2 : k ≤ 25
        · rw [if_pos ⟨hx, h2⟩]
        · rw [if_neg (fun h => h2 h.2), if_neg (by omega), if_neg (by omega), if_neg (by omega), if_neg (by omega), Bool.and_false]
    · obtain rfl | rfl | rfl | rfl | rfl | rfl | rfl | rfl | rfl | rfl | rfl | rfl | rfl | rfl | rfl | rfl | rfl | rfl | rfl | rfl | rfl : k = 1 ∨ k = 2 ∨ k = 3 ∨ k = 4 ∨ k = 5 ∨ k = 6 ∨ k = 7 ∨ k = 8 ∨ k = 9 ∨ k = 10 ∨ k = 11 ∨ k = 12 ∨ k = 13 ∨ k = 14 ∨ k = 15 ∨ k = 16 ∨ k = 17 ∨ k = 18 ∨ k = 19 ∨ k = 20 ∨ k = 21 := by omega
      · exact calls_cast (pl1 n t A c w) (by simp [plainOk, aloneOk, Bool.and_comm])
      · exact calls_cast (pl2 n t A c w) (by simp [plainOk, aloneOk, numB, Bool.and_comm])
      · exact calls_cast (pl3 n t A c w) (by simp [plainOk, aloneOk, numB, Bool.and_comm])
      · exact calls_cast (pl4 n t A c w) (by simp [plainOk, aloneOk, numB, Bool.and_comm])
      · exact calls_cast (pl5 n t A c w) (by simp [plainOk, aloneOk, numB, Bool.and_comm])
      · exact calls_cast (pl6 n t A c w) (by simp [plainOk, aloneOk, numB, Bool.and_comm])
      · exact calls_cast (pl7 n t A c w hn) (by simp [plainOk, aloneOk, numB, Bool.and_comm])
      · exact calls_cast (pl8 n t A c w hn) (by simp [plainOk, aloneOk, numB, Bool.and_comm])
      · exact calls_cast (pl9 n t A c w hn) (by simp [plainOk, aloneOk, numB, Bool.and_comm])
      · exact calls_cast (pl10 n t A c w) (by simp [plainOk, aloneOk, numB, Bool.and_comm])
      · exact calls_cast (pl11 n t A c w) (by simp [plainOk, aloneOk, numB, Bool.and_comm])
      · exact calls_cast (pl12 n t A c w) (by simp [plainOk, aloneOk, numB, Bool.and_comm])
      · exact calls_cast (pl13 n t A c w) (by simp [plainOk, aloneOk, numB, Bool.and_comm])
      · exact calls_cast (pl14 n t A c w) (by simp [plainOk, aloneOk, numB, Bool.and_comm])
      · exact calls_cast (pl15 n t A c w) (by simp [plainOk, aloneOk, textB, Bool.and_comm])
      · exact calls_cast (pl16 n t A c w) (by simp [plainOk, aloneOk, textB, Bool.and_comm])
      · exact calls_cast (pl17 n t A c w) (by simp [plainOk, aloneOk, textB, Bool.and_comm])
      · exact calls_cast (pl18 n t A c w) (by simp [plainOk, aloneOk, textB, Bool.and_comm])
      · exact calls_cast (pl19 n t A c w) (by simp [plainOk, aloneOk, textB, Bool.and_comm])
      · exact calls_cast (pl20 n t A c w hs) (by simp [plainOk, aloneOk, textB, Bool.and_comm])
      · exact calls_cast (pl21 n t A c w hs) (by simp [plainOk, aloneOk, textB, Bool.and_comm])
  · refine calls_cast (pll k n t A l c w hl) ?_
    have h0 : decide (l = 0) = false := by simp; omega
    simp [plainOk, h0]
end Go.Proofs.YtobnbgbijdhjjaaGreatDoor.Val
