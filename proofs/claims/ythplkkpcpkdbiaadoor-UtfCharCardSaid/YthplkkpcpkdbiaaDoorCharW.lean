/-
  The walk of the statement UtfChar: a number is a character just if it has a text of its own, of one to four bytes. Condition, as the card has it: the table utf.shapes lies as the program's text lays it.
-/
import Derived.Test.YthplkkpcpkdbiaaDoorRow
import Derived.Test.YthplkkpcpkdbiaaDoorEq
namespace Go.Proofs.YthplkkpcpkdbiaaDoor.utfChar
open Go.ChangeShapes Go.WideShapes Go.ChangeAt Go.RowKit Go.Proofs.YthplkkpcpkdbiaaDoor.Utf

theorem char_no (Y : Nat) (h : 1114111 < Y) (w : World) : Calls Tryd.prog 22 #[.int .u64 Y] w fun e w' => e = .returned (.bool false) ∧ w = w' := by
  have k := char_any Y w
  have e : isC Y = false := by
    cases h' : isC Y with
    | false => rfl
    | true => have := isC_lt h'; omega
  rw [e] at k
  exact k

theorem one_txt (X : Nat) : txt [X] = en X := by simp [txt_cons, txt_nil]
theorem asc_en (X : Nat) : asc (en X) = decide (X < 128) := by
  by_cases h : X < 128
  · simp [asc, en, h]
  · rw [decide_eq_false h]
    unfold en
    rw [if_neg h]
    split
    · simp [asc]
    · split <;> simp [asc]

theorem walk (X : Nat) (w : World) (ht : Tab w) (hX : X < 4294967296) :
    Calls Tryd.prog 8 #[.int .u32 X] w fun e w' => e = .returned (.bool true) ∧ Below w.heap.size w w' := by
  have hr0 := rd_lit32 w [X] 1 rfl (by simpa using hX)
  have ht0 := ht.alloc (.cells (vs .u32 [X]).toArray 36)
  have hb0 : Below w.heap.size w (w.alloc (.cells (vs .u32 [X]).toArray 36)) := (Below.refl _ _).alloc (Nat.le_refl _) _
  obtain ⟨Y, hY⟩ : ∃ Y : Nat, (X : Int) + 4294967296 = Y := ⟨X + 4294967296, by omega⟩
  have hY2 : 1114111 < Y := by omega
  go_enter Tryd.func8, Tryd.ntmps8
  go_wp2_with fail
  refine (text_any _ 1 1 [X] (w.alloc (.cells (vs .u32 [X]).toArray 36)) ht0 (hr0.mono (by simp)) (by omega)).mono ?_
  rintro e w1 ⟨⟨A1, n1, c1, hC, rfl, ho1⟩ | ⟨hN, rfl⟩, hb1⟩
  · have hC' : isC X = true := hC X (by simp)
    rw [one_txt] at ho1
    have ht1 := ht0.call hb1
    have hb1' : Below w.heap.size w w1 := hb0.trans (hb1.mono hb0.size)
    have hlen := ho1.len
    rw [en_length] at hlen
    have ha := ascii_any w1.heap.size A1 n1 c1 (en X) w1 ho1.rd (by have := fu_le X; omega)
    rw [asc_en] at ha
    clear hr0 ht0 hb0 hb1 hC ho1
    have key : (X < 128 ∧ 1 = n1) ∨ ((128 ≤ X ∧ X < 2048) ∧ 2 = n1) ∨ ((2048 ≤ X ∧ X < 55296) ∧ 3 = n1) ∨ ((57344 ≤ X ∧ X < 65536) ∧ 3 = n1) ∨ ((65536 ≤ X ∧ X < 1114112) ∧ 4 = n1) := by
      have := isC_iff.1 hC'
      rw [← hlen]
      unfold fu
      split
      · omega
      · split
        · omega
        · split <;> omega
    have HC := Lib.hid hC'
    clear hC' hlen
    go_wp2_with fail
    refine (char_any X w1).mono ?_
    rw [HC.out]
    rintro e w2 ⟨rfl, rfl⟩
    clear HC
    go_wp2_with fail
    refine (char_no Y hY2 w1).mono ?_
    rintro e w2 ⟨rfl, rfl⟩
    clear hY hY2
    obtain ⟨k1, rfl⟩ | ⟨k1, rfl⟩ | ⟨k1, rfl⟩ | ⟨k1, rfl⟩ | ⟨k1, rfl⟩ := key
    · rw [decide_eq_true (by omega)] at ha
      have d0 : decide ((X : Int) < 55296) = true := by simp; omega
      have d1 : decide (57344 ≤ (X : Int)) = false := by simp; omega
      have d2 : decide ((X : Int) < 1114112) = true := by simp; omega
      have d3 : decide ((X : Int) < 128) = true := by simp; omega
      have d4 : decide ((X : Int) < 2048) = true := by simp; omega
      have d5 : decide ((X : Int) < 65536) = true := by simp; omega
      clear k1 hX
      go_wp2_with (first
        | (go_at_call 16; refine ha.mono ?_; rintro e w2 ⟨rfl, rfl⟩)
        | (go_at_call 10; refine (works_any w1 ht1).mono ?_; rintro e w2 ⟨rfl, hb2⟩))
      go_ret
      exact ⟨rfl, hb1'.trans (hb2.mono hb1'.size)⟩
    · rw [decide_eq_false (by omega)] at ha
      have d0 : decide ((X : Int) < 55296) = true := by simp; omega
      have d1 : decide (57344 ≤ (X : Int)) = false := by simp; omega
      have d2 : decide ((X : Int) < 1114112) = true := by simp; omega
      have d3 : decide ((X : Int) < 128) = false := by simp; omega
      have d4 : decide ((X : Int) < 2048) = true := by simp; omega
      have d5 : decide ((X : Int) < 65536) = true := by simp; omega
      clear k1 hX
      go_wp2_with (first
        | (go_at_call 16; refine ha.mono ?_; rintro e w2 ⟨rfl, rfl⟩)
        | (go_at_call 10; refine (works_any w1 ht1).mono ?_; rintro e w2 ⟨rfl, hb2⟩))
      go_ret
      exact ⟨rfl, hb1'.trans (hb2.mono hb1'.size)⟩
    · rw [decide_eq_false (by omega)] at ha
      have d0 : decide ((X : Int) < 55296) = true := by simp; omega
      have d1 : decide (57344 ≤ (X : Int)) = false := by simp; omega
      have d2 : decide ((X : Int) < 1114112) = true := by simp; omega
      have d3 : decide ((X : Int) < 128) = false := by simp; omega
      have d4 : decide ((X : Int) < 2048) = false := by simp; omega
      have d5 : decide ((X : Int) < 65536) = true := by simp; omega
      clear k1 hX
      go_wp2_with (first
        | (go_at_call 16; refine ha.mono ?_; rintro e w2 ⟨rfl, rfl⟩)
        | (go_at_call 10; refine (works_any w1 ht1).mono ?_; rintro e w2 ⟨rfl, hb2⟩))
      go_ret
      exact ⟨rfl, hb1'.trans (hb2.mono hb1'.size)⟩
    · rw [decide_eq_false (by omega)] at ha
      have d0 : decide ((X : Int) < 55296) = false := by simp; omega
      have d1 : decide (57344 ≤ (X : Int)) = true := by simp; omega
      have d2 : decide ((X : Int) < 1114112) = true := by simp; omega
      have d3 : decide ((X : Int) < 128) = false := by simp; omega
      have d4 : decide ((X : Int) < 2048) = false := by simp; omega
      have d5 : decide ((X : Int) < 65536) = true := by simp; omega
      clear k1 hX
      go_wp2_with (first
        | (go_at_call 16; refine ha.mono ?_; rintro e w2 ⟨rfl, rfl⟩)
        | (go_at_call 10; refine (works_any w1 ht1).mono ?_; rintro e w2 ⟨rfl, hb2⟩))
      go_ret
      exact ⟨rfl, hb1'.trans (hb2.mono hb1'.size)⟩
    · rw [decide_eq_false (by omega)] at ha
      have d0 : decide ((X : Int) < 55296) = false := by simp; omega
      have d1 : decide (57344 ≤ (X : Int)) = true := by simp; omega
      have d2 : decide ((X : Int) < 1114112) = true := by simp; omega
      have d3 : decide ((X : Int) < 128) = false := by simp; omega
      have d4 : decide ((X : Int) < 2048) = false := by simp; omega
      have d5 : decide ((X : Int) < 65536) = false := by simp; omega
      clear k1 hX
      go_wp2_with (first
        | (go_at_call 16; refine ha.mono ?_; rintro e w2 ⟨rfl, rfl⟩)
        | (go_at_call 10; refine (works_any w1 ht1).mono ?_; rintro e w2 ⟨rfl, hb2⟩))
      go_ret
      exact ⟨rfl, hb1'.trans (hb2.mono hb1'.size)⟩
  · have hC' : isC X = false := by
      cases h : isC X with
      | false => rfl
      | true => exact absurd (AllC.one h) hN
    have ht1 := ht0.call hb1
    have hb1' : Below w.heap.size w w1 := hb0.trans (hb1.mono hb0.size)
    clear hr0 ht0 hb0 hb1 hN
    have key : (55296 ≤ X ∧ X < 57344) ∨ 1114112 ≤ X := by
      have : ¬ (X < 55296 ∨ (57343 < X ∧ X ≤ 1114111)) := fun h => by rw [isC_iff.2 h] at hC'; cases hC'
      omega
    have HC := Lib.hid hC'
    clear hC'
    go_wp2_with fail
    refine (char_any X w1).mono ?_
    rw [HC.out]
    rintro e w2 ⟨rfl, rfl⟩
    clear HC
    go_wp2_with fail
    refine (char_no Y hY2 w1).mono ?_
    rintro e w2 ⟨rfl, rfl⟩
    clear hY hY2
    obtain k1 | k1 := key
    · have d0 : decide ((X : Int) < 55296) = false := by simp; omega
      have d1 : decide (57344 ≤ (X : Int)) = false := by simp; omega
      have d2 : decide ((X : Int) < 1114112) = true := by simp; omega
      clear k1 hX
      go_wp2_with (go_at_call 10; refine (works_any w1 ht1).mono ?_; rintro e w2 ⟨rfl, hb2⟩)
      go_ret
      exact ⟨rfl, hb1'.trans (hb2.mono hb1'.size)⟩
    · have d0 : decide ((X : Int) < 55296) = false := by simp; omega
      have d1 : decide (57344 ≤ (X : Int)) = true := by simp; omega
      have d2 : decide ((X : Int) < 1114112) = false := by simp; omega
      clear k1 hX
      go_wp2_with (go_at_call 10; refine (works_any w1 ht1).mono ?_; rintro e w2 ⟨rfl, hb2⟩)
      go_ret
      exact ⟨rfl, hb1'.trans (hb2.mono hb1'.size)⟩
end Go.Proofs.YthplkkpcpkdbiaaDoor.utfChar
