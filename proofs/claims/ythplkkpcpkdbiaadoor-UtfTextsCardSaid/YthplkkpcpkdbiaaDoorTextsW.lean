/-
  The walk of the statement UtfTexts: Text answers the text of any numbers, or that one is no character. Condition, as the card has it: the table utf.shapes lies as the program's text lays it.
-/
import Derived.Test.YthplkkpcpkdbiaaDoorRtxt
namespace Go.Proofs.YthplkkpcpkdbiaaDoor.utfTexts
open Go.ChangeShapes Go.WideShapes Go.ChangeAt Go.RowKit Go.Proofs.YthplkkpcpkdbiaaDoor.Utf

theorem text_len (A : Option Addr) (n c : Nat) (l : List Nat) (N : Nat) (w : World) (ht : Tab w) (hr : Rd .u32 4294967296 w w.heap.size A n l) (hn : n ≤ 1099511627776) (hC : AllC l) (hN : (txt l).length = N) :
    Calls Tryd.prog 19 #[.slice A n c] w fun e w' => ∃ A1 c1, e = .returned (.tuple #[.slice A1 N c1, .bool true]) ∧ Own .u8 256 5 w' w.heap.size A1 N c1 (txt l) ∧ Below w.heap.size w w' := by
  subst hN
  exact text_true A n c l w ht hr hn hC

theorem walk_long (A : Option Addr) (n c X : Nat) (w : World) (ht : Tab w) (h : 8192 < n) :
    Calls Tryd.prog 4 #[.slice A n c, .int .u64 X] w fun e w' => e = .returned (.bool true) ∧ Below w.heap.size w w' := by
  have d1 : decide ((8192 : Int) < n) = true := by simp; omega
  clear h
  go_enter Tryd.func4, Tryd.ntmps4
  go_wp2_with (go_at_call 10; refine (works_any w ht).mono ?_; rintro e w1 ⟨rfl, hb1⟩)
  go_ret
  exact ⟨rfl, hb1⟩

set_option maxHeartbeats 400000 in
theorem walk_yes (A : Option Addr) (n c X : Nat) (l : List Nat) (w : World) (ht : Tab w) (hr : Rd .u32 4294967296 w w.heap.size A n l) (hn : n ≤ 8192) (hC : AllC l) (N : Nat) (hN : (txt l).length = N) :
    Calls Tryd.prog 4 #[.slice A n c, .int .u64 X] w fun e w' => e = .returned (.bool true) ∧ Below w.heap.size w w' := by
  have d1 : decide ((8192 : Int) < n) = false := by simp; omega
  go_enter Tryd.func4, Tryd.ntmps4
  go_wp2_with (first
    | (at_builtin; refine wpList_app32 (l := l) (B := w.heap.size) rfl _ _ rfl rfl (Own.nil .u32 4294967296 36 w w.heap.size) rfl hr (by omega) (Nat.le_refl _) ?_; intro A1 c1 w1 ho1 hg1; have hb1 : Below w.heap.size w w1 := below_grown (Own.nil .u32 4294967296 36 w w.heap.size) hg1 (Nat.le_refl _); clear hg1; rw [Nat.zero_add] at ho1; rw [List.nil_append] at ho1; have ht1 := ht.call hb1)
    | (go_at_call 19; refine (text_len A1 n c1 l N w1 ht1 ho1.rd (by omega) hC hN).mono ?_; rintro e w2 ⟨A2, c2, rfl, ho2, hb2⟩; have hb2' := hb1.trans (hb2.mono hb1.size); have ht2 := ht.call hb2'; have hr2 := hr.call hb2'; have ho1' := ho1.below hb2)
    | (go_at_call 20; refine (rtext_len A n c l N w2 hr2 (by omega) hC hN).mono ?_; rintro e w3 ⟨A3, c3, rfl, ho3, hb3⟩; have ho2' := ho2.below hb3; have hb3' := hb2'.trans (hb3.mono hb2'.size); have hr3 := hr.below hb3'; have ht3 := ht.call hb3'; have ho1'' := ho1'.below hb3)
    | (go_at_call 21; refine (eqbytes_same w3.heap.size w3.heap.size A2 A3 N c2 c3 (txt l) w3 ho2'.rd ho3.rd).mono ?_; rintro e w4 ⟨rfl, rfl⟩)
    | (go_at_call 14; refine (same_same w3.heap.size w.heap.size A1 A n c1 c l w3 ho1''.rd hr3 (by omega)).mono ?_; rintro e w4 ⟨rfl, k4, rfl⟩)
    | (go_at_call 22; refine (char_any X (w3.drewN k4)).mono ?_; rintro e w5 ⟨rfl, rfl⟩)
    | (go_at_call 23; refine (rchar_any X (w3.drewN k4)).mono ?_; rintro e w5 ⟨rfl, rfl⟩)
    | (go_at_call 10; refine (works_any (w3.drewN k4) (ht3.drewN k4)).mono ?_; rintro e w5 ⟨rfl, hb5⟩))
  go_ret
  exact ⟨rfl, (drewly hb3' k4).trans (hb5.mono hb3'.size)⟩

set_option maxHeartbeats 400000 in
theorem walk_no (A : Option Addr) (n c X : Nat) (l : List Nat) (w : World) (ht : Tab w) (hr : Rd .u32 4294967296 w w.heap.size A n l) (hn : n ≤ 8192) (hC : ¬ AllC l) :
    Calls Tryd.prog 4 #[.slice A n c, .int .u64 X] w fun e w' => e = .returned (.bool true) ∧ Below w.heap.size w w' := by
  have d1 : decide ((8192 : Int) < n) = false := by simp; omega
  go_enter Tryd.func4, Tryd.ntmps4
  go_wp2_with (first
    | (at_builtin; refine wpList_app32 (l := l) (B := w.heap.size) rfl _ _ rfl rfl (Own.nil .u32 4294967296 36 w w.heap.size) rfl hr (by omega) (Nat.le_refl _) ?_; intro A1 c1 w1 ho1 hg1; have hb1 : Below w.heap.size w w1 := below_grown (Own.nil .u32 4294967296 36 w w.heap.size) hg1 (Nat.le_refl _); clear hg1; rw [Nat.zero_add] at ho1; rw [List.nil_append] at ho1; have ht1 := ht.call hb1)
    | (go_at_call 19; refine (text_false A1 n c1 l w1 ht1 ho1.rd (by omega) hC).mono ?_; rintro e w2 ⟨rfl, hb2⟩; have hb2' := hb1.trans (hb2.mono hb1.size); have ht2 := ht.call hb2'; have hr2 := hr.call hb2'; have ho1' := ho1.below hb2)
    | (go_at_call 20; refine (rtext_false A n c l w2 hr2 (by omega) hC).mono ?_; rintro e w3 ⟨rfl, hb3⟩; have hb3' := hb2'.trans (hb3.mono hb2'.size); have hr3 := hr.below hb3'; have ht3 := ht.call hb3'; have ho1'' := ho1'.below hb3)
    | (go_at_call 21; refine (eqbytes_same w3.heap.size w3.heap.size none none 0 0 0 [] w3 (Rd.zero _ _ _ _ _) (Rd.zero _ _ _ _ _)).mono ?_; rintro e w4 ⟨rfl, rfl⟩)
    | (go_at_call 14; refine (same_same w3.heap.size w.heap.size A1 A n c1 c l w3 ho1''.rd hr3 (by omega)).mono ?_; rintro e w4 ⟨rfl, k4, rfl⟩)
    | (go_at_call 22; refine (char_any X (w3.drewN k4)).mono ?_; rintro e w5 ⟨rfl, rfl⟩)
    | (go_at_call 23; refine (rchar_any X (w3.drewN k4)).mono ?_; rintro e w5 ⟨rfl, rfl⟩)
    | (go_at_call 10; refine (works_any (w3.drewN k4) (ht3.drewN k4)).mono ?_; rintro e w5 ⟨rfl, hb5⟩))
  go_ret
  exact ⟨rfl, (drewly hb3' k4).trans (hb5.mono hb3'.size)⟩

theorem walk (A : Option Addr) (n c : Nat) (l : List Nat) (X : Nat) (w : World) (ht : Tab w) (hr : Rd .u32 4294967296 w w.heap.size A n l) (_ : n ≤ c) (_ : c ≤ maxLen) (_ : X < 18446744073709551616) :
    Calls Tryd.prog 4 #[.slice A n c, .int .u64 X] w fun e w' => e = .returned (.bool true) ∧ Below w.heap.size w w' := by
  by_cases h : 8192 < n
  · exact walk_long A n c X w ht h
  by_cases hC : AllC l
  · exact walk_yes A n c X l w ht hr (by omega) hC _ rfl
  · exact walk_no A n c X l w ht hr (by omega) hC
end Go.Proofs.YthplkkpcpkdbiaaDoor.utfTexts
