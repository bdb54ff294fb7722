/-
  Contracts of utf.Char and the document's Char, utf.further, utf.lead: no condition but that the table of package utf is as its text lays it.
  Contract of utf.first: the character with which bytes begin, and how many they are; 0 and 0, if they begin with none. Memory that was there stays.
-/
import Derived.Test.YtohmnbefokhjpaaDoorMem
import Derived.LoopN
import Derived.BigQuiet
import Derived.Deep.QuietTactic
import Derived.Laws.BitsAllLaws
import Derived.ScopeJumps
import Derived.WalkMore
namespace Go.Proofs.YtohmnbefokhjpaaDoor.Utf
open Go.RowKit

theorem char_any (n : Nat) (w : World) : Calls Tryd.prog 62 #[.int .u64 n] w fun e w' => e = .returned (.bool (isC n)) ∧ w = w' := by
  by_cases h1 : n < 55296
  · have e : isC n = true := isC_iff.2 (by omega)
    rw [e]
    clear e
    have d1 : decide ((n : Int) < 55296) = true := by simp; omega
    clear h1
    go_enter Tryd.func62, Tryd.ntmps62
    go_wp2
    go_ret
    exact ⟨rfl, rfl⟩
  by_cases h2 : n ≤ 57343
  · have e : isC n = false := by simp [isC]; omega
    rw [e]
    clear e
    have d1 : decide ((n : Int) < 55296) = false := by simp; omega
    have d2 : decide (57343 < (n : Int)) = false := by simp; omega
    clear h1 h2
    go_enter Tryd.func62, Tryd.ntmps62
    go_wp2
    go_ret
    exact ⟨rfl, rfl⟩
  by_cases h3 : n ≤ 1114111
  · have e : isC n = true := isC_iff.2 (by omega)
    rw [e]
    clear e
    have d1 : decide ((n : Int) < 55296) = false := by simp; omega
    have d2 : decide (57343 < (n : Int)) = true := by simp; omega
    have d3 : decide ((n : Int) ≤ 1114111) = true := by simp; omega
    clear h1 h2 h3
    go_enter Tryd.func62, Tryd.ntmps62
    go_wp2
    go_ret
    exact ⟨rfl, rfl⟩
  · have e : isC n = false := by simp [isC]; omega
    rw [e]
    clear e
    have d1 : decide ((n : Int) < 55296) = false := by simp; omega
    have d2 : decide (57343 < (n : Int)) = true := by simp; omega
    have d3 : decide ((n : Int) ≤ 1114111) = false := by simp; omega
    clear h1 h2 h3
    go_enter Tryd.func62, Tryd.ntmps62
    go_wp2
    go_ret
    exact ⟨rfl, rfl⟩

theorem further_any (c : Nat) (w : World) (ht : Tab w) : Calls Tryd.prog 70 #[.int .u32 c] w fun e w' => e = .returned (.int .i64 (fu c)) ∧ w = w' := by
  have c0 : w.cell? ⟨0, 0, none⟩ = some (.int .u32 127) := ht.cell 0
  have c1 : w.cell? ⟨0, 3, none⟩ = some (.int .u32 2047) := ht.cell 3
  have c2 : w.cell? ⟨0, 6, none⟩ = some (.int .u32 65535) := ht.cell 6
  clear ht
  by_cases h1 : c ≤ 127
  · have e : fu c = 0 := by simp [fu, h1]
    rw [e]
    clear e
    have d0 : decide (127 < (c : Int)) = false := by simp; omega
    clear h1
    go_enter Tryd.func70, Tryd.ntmps70
    go_wp2
    refine wp_loop_rounds 1 ?_
    rw [rounds_succ]
    go_wp2
    go_ret
    exact ⟨rfl, rfl⟩
  by_cases h2 : c ≤ 2047
  · have e : fu c = 1 := by simp [fu, h1, h2]
    rw [e]
    clear e
    have d0 : decide (127 < (c : Int)) = true := by simp; omega
    have d1 : decide (2047 < (c : Int)) = false := by simp; omega
    clear h1 h2
    go_enter Tryd.func70, Tryd.ntmps70
    go_wp2
    refine wp_loop_rounds 2 ?_
    rw [rounds_succ]
    go_wp2
    rw [rounds_succ]
    go_wp2
    go_ret
    exact ⟨rfl, rfl⟩
  by_cases h3 : c ≤ 65535
  · have e : fu c = 2 := by simp [fu, h1, h2, h3]
    rw [e]
    clear e
    have d0 : decide (127 < (c : Int)) = true := by simp; omega
    have d1 : decide (2047 < (c : Int)) = true := by simp; omega
    have d2 : decide (65535 < (c : Int)) = false := by simp; omega
    clear h1 h2 h3
    go_enter Tryd.func70, Tryd.ntmps70
    go_wp2
    refine wp_loop_rounds 3 ?_
    rw [rounds_succ]
    go_wp2
    rw [rounds_succ]
    go_wp2
    rw [rounds_succ]
    go_wp2
    go_ret
    exact ⟨rfl, rfl⟩
  · have e : fu c = 3 := by simp [fu, h1, h2, h3]
    rw [e]
    clear e
    have d0 : decide (127 < (c : Int)) = true := by simp; omega
    have d1 : decide (2047 < (c : Int)) = true := by simp; omega
    have d2 : decide (65535 < (c : Int)) = true := by simp; omega
    clear h1 h2 h3
    go_enter Tryd.func70, Tryd.ntmps70
    go_wp2
    refine wp_loop_rounds 4 ?_
    rw [rounds_succ]
    go_wp2
    rw [rounds_succ]
    go_wp2
    rw [rounds_succ]
    go_wp2
    rw [rounds_succ]
    go_wp2
    go_ret
    exact ⟨rfl, rfl⟩

theorem an (o m : Nat) (ho : o < 256) (hm : m < 256) : bits .andNot .u8 (o : Int) (m : Int) = ((o &&& (255 - m) : Nat) : Int) := u8_andNot_nat o m ho hm
theorem aw (o m : Nat) (ho : o < 256) (hm : m < 256) : bits .and .u8 (o : Int) (m : Int) = ((o &&& m : Nat) : Int) := u8_and_nat o m ho hm
theorem fa0 : ∀ o : Fin 256, ((o.val &&& (255 - 127)) == 0) = decide (o.val < 128) := by decide +kernel
theorem fa1 : ∀ o : Fin 256, ((o.val &&& (255 - 31)) == 192) = (decide (192 ≤ o.val) && decide (o.val < 224)) := by decide +kernel
theorem fa2 : ∀ o : Fin 256, ((o.val &&& (255 - 15)) == 224) = (decide (224 ≤ o.val) && decide (o.val < 240)) := by decide +kernel
theorem fa3 : ∀ o : Fin 256, ((o.val &&& (255 - 7)) == 240) = (decide (240 ≤ o.val) && decide (o.val < 248)) := by decide +kernel
theorem fm0 : ∀ o : Fin 256, o.val < 128 → (o.val &&& 127) = o.val := by decide +kernel
theorem fm1 : ∀ o : Fin 256, 192 ≤ o.val → o.val < 224 → (o.val &&& 31) = o.val - 192 := by decide +kernel
theorem fm2 : ∀ o : Fin 256, 224 ≤ o.val → o.val < 240 → (o.val &&& 15) = o.val - 224 := by decide +kernel
theorem fm3 : ∀ o : Fin 256, 240 ≤ o.val → o.val < 248 → (o.val &&& 7) = o.val - 240 := by decide +kernel
theorem eqb (a b : Nat) : (((a : Nat) : Int) == ((b : Nat) : Int)) = (a == b) := by
  rw [Bool.eq_iff_iff]; simp; omega
theorem ea0 (o : Nat) (h : o < 256) : (bits .andNot .u8 (o : Int) 127 == 0) = decide (o < 128) := by
  rw [show (127 : Int) = ((127 : Nat) : Int) from rfl, an o 127 h (by omega), show (0 : Int) = ((0 : Nat) : Int) from rfl, eqb]; exact fa0 ⟨o, h⟩
theorem ea1 (o : Nat) (h : o < 256) : (bits .andNot .u8 (o : Int) 31 == 192) = (decide (192 ≤ o) && decide (o < 224)) := by
  rw [show (31 : Int) = ((31 : Nat) : Int) from rfl, an o 31 h (by omega), show (192 : Int) = ((192 : Nat) : Int) from rfl, eqb]; exact fa1 ⟨o, h⟩
theorem ea2 (o : Nat) (h : o < 256) : (bits .andNot .u8 (o : Int) 15 == 224) = (decide (224 ≤ o) && decide (o < 240)) := by
  rw [show (15 : Int) = ((15 : Nat) : Int) from rfl, an o 15 h (by omega), show (224 : Int) = ((224 : Nat) : Int) from rfl, eqb]; exact fa2 ⟨o, h⟩
theorem ea3 (o : Nat) (h : o < 256) : (bits .andNot .u8 (o : Int) 7 == 240) = (decide (240 ≤ o) && decide (o < 248)) := by
  rw [show (7 : Int) = ((7 : Nat) : Int) from rfl, an o 7 h (by omega), show (240 : Int) = ((240 : Nat) : Int) from rfl, eqb]; exact fa3 ⟨o, h⟩

theorem newly {w w' : World} (h : Below w.heap.size w w') (o : Obj) : Below w.heap.size w (w'.alloc o) := h.alloc h.size o
theorem drewly {B : Nat} {w w' : World} (h : Below B w w') (k : Nat) : Below B w (w'.drewN k) := ⟨h.os, h.tape, h.output, h.size, h.block⟩

/-- What lead answers. -/
def leadv (o : Nat) : Value := match ld o with
  | none => .tuple #[.int .i64 0, .int .u32 0, .bool false]
  | some (n, c) => .tuple #[.int .i64 (n : Nat), .int .u32 (c : Nat), .bool true]
theorem idx0 : ∀ W : World, (Instr.index 114 (.agg #[.int .u32 127, .int .u8 0, .int .u8 127, .int .u32 2047, .int .u8 192, .int .u8 31, .int .u32 65535, .int .u8 224, .int .u8 15, .int .u32 1114111, .int .u8 240, .int .u8 7]) (.int .i64 0)).run Tryd.prog W = .ok (.agg #[.int .u32 127, .int .u8 0, .int .u8 127]) W := fun W => by kernel_rfl
theorem idx1 : ∀ W : World, (Instr.index 114 (.agg #[.int .u32 127, .int .u8 0, .int .u8 127, .int .u32 2047, .int .u8 192, .int .u8 31, .int .u32 65535, .int .u8 224, .int .u8 15, .int .u32 1114111, .int .u8 240, .int .u8 7]) (.int .i64 1)).run Tryd.prog W = .ok (.agg #[.int .u32 2047, .int .u8 192, .int .u8 31]) W := fun W => by kernel_rfl
theorem idx2 : ∀ W : World, (Instr.index 114 (.agg #[.int .u32 127, .int .u8 0, .int .u8 127, .int .u32 2047, .int .u8 192, .int .u8 31, .int .u32 65535, .int .u8 224, .int .u8 15, .int .u32 1114111, .int .u8 240, .int .u8 7]) (.int .i64 2)).run Tryd.prog W = .ok (.agg #[.int .u32 65535, .int .u8 224, .int .u8 15]) W := fun W => by kernel_rfl
theorem idx3 : ∀ W : World, (Instr.index 114 (.agg #[.int .u32 127, .int .u8 0, .int .u8 127, .int .u32 2047, .int .u8 192, .int .u8 31, .int .u32 65535, .int .u8 224, .int .u8 15, .int .u32 1114111, .int .u8 240, .int .u8 7]) (.int .i64 3)).run Tryd.prog W = .ok (.agg #[.int .u32 1114111, .int .u8 240, .int .u8 7]) W := fun W => by kernel_rfl

theorem lead_0 (o : Nat) (ho : o < 256) (h : o < 128) (w : World) (ht : Tab w) : Calls Tryd.prog 69 #[.int .u8 o] w fun e w' => e = .returned (leadv o) ∧ Below w.heap.size w w' := by
  have c0 : w.cell? ⟨0, 0, none⟩ = some (.int .u32 127) := ht.cell 0
  have c1 : w.cell? ⟨0, 1, none⟩ = some (.int .u8 0) := ht.cell 1
  have c2 : w.cell? ⟨0, 2, none⟩ = some (.int .u8 127) := ht.cell 2
  have c3 : w.cell? ⟨0, 3, none⟩ = some (.int .u32 2047) := ht.cell 3
  have c4 : w.cell? ⟨0, 4, none⟩ = some (.int .u8 192) := ht.cell 4
  have c5 : w.cell? ⟨0, 5, none⟩ = some (.int .u8 31) := ht.cell 5
  have c6 : w.cell? ⟨0, 6, none⟩ = some (.int .u32 65535) := ht.cell 6
  have c7 : w.cell? ⟨0, 7, none⟩ = some (.int .u8 224) := ht.cell 7
  have c8 : w.cell? ⟨0, 8, none⟩ = some (.int .u8 15) := ht.cell 8
  have c9 : w.cell? ⟨0, 9, none⟩ = some (.int .u32 1114111) := ht.cell 9
  have c10 : w.cell? ⟨0, 10, none⟩ = some (.int .u8 240) := ht.cell 10
  have c11 : w.cell? ⟨0, 11, none⟩ = some (.int .u8 7) := ht.cell 11
  clear ht
  have x0 := idx0
  have hv : leadv o = .tuple #[.int .i64 0, .int .u32 (o : Nat), .bool true] := by
    have : ld o = some (0, o) := by unfold ld; simp [h]
    simp [leadv, this]
  have hm : bits .and .u8 (o : Int) 127 = ((o : Nat) : Int) := by rw [show (127 : Int) = ((127 : Nat) : Int) from rfl, aw o 127 ho (by omega)]; exact congrArg Nat.cast (fm0 ⟨o, ho⟩ h)
  rw [hv]
  clear hv
  have b0 : (bits .andNot .u8 (o : Int) 127 == 0) = true := by rw [ea0 o ho]; simp; omega
  clear h
  go_enter Tryd.func69, Tryd.ntmps69
  go_wp2
  refine wp_loop_rounds 1 ?_
  rw [rounds_succ]
  go_wp2
  go_quiet (fail)
  go_wp2
  go_ret3
  exact ⟨rfl, drewly (newly (Below.refl _ w) _) _⟩

theorem lead_1 (o : Nat) (ho : o < 256) (h : 192 ≤ o ∧ o < 224) (w : World) (ht : Tab w) : Calls Tryd.prog 69 #[.int .u8 o] w fun e w' => e = .returned (leadv o) ∧ Below w.heap.size w w' := by
  have c0 : w.cell? ⟨0, 0, none⟩ = some (.int .u32 127) := ht.cell 0
  have c1 : w.cell? ⟨0, 1, none⟩ = some (.int .u8 0) := ht.cell 1
  have c2 : w.cell? ⟨0, 2, none⟩ = some (.int .u8 127) := ht.cell 2
  have c3 : w.cell? ⟨0, 3, none⟩ = some (.int .u32 2047) := ht.cell 3
  have c4 : w.cell? ⟨0, 4, none⟩ = some (.int .u8 192) := ht.cell 4
  have c5 : w.cell? ⟨0, 5, none⟩ = some (.int .u8 31) := ht.cell 5
  have c6 : w.cell? ⟨0, 6, none⟩ = some (.int .u32 65535) := ht.cell 6
  have c7 : w.cell? ⟨0, 7, none⟩ = some (.int .u8 224) := ht.cell 7
  have c8 : w.cell? ⟨0, 8, none⟩ = some (.int .u8 15) := ht.cell 8
  have c9 : w.cell? ⟨0, 9, none⟩ = some (.int .u32 1114111) := ht.cell 9
  have c10 : w.cell? ⟨0, 10, none⟩ = some (.int .u8 240) := ht.cell 10
  have c11 : w.cell? ⟨0, 11, none⟩ = some (.int .u8 7) := ht.cell 11
  clear ht
  have x0 := idx0
  have x1 := idx1
  have hv : leadv o = .tuple #[.int .i64 1, .int .u32 ((o - 192) : Nat), .bool true] := by
    have : ld o = some (1, (o - 192)) := by unfold ld; rw [if_neg (by omega), if_neg (by omega), if_pos (by omega)]
    simp [leadv, this]
  have hm : bits .and .u8 (o : Int) 31 = (((o - 192) : Nat) : Int) := by rw [show (31 : Int) = ((31 : Nat) : Int) from rfl, aw o 31 ho (by omega)]; exact congrArg Nat.cast (fm1 ⟨o, ho⟩ h.1 h.2)
  rw [hv]
  clear hv
  have b0 : (bits .andNot .u8 (o : Int) 127 == 0) = false := by rw [ea0 o ho]; simp; omega
  have b1 : (bits .andNot .u8 (o : Int) 31 == 192) = true := by rw [ea1 o ho]; simp; omega
  clear h
  go_enter Tryd.func69, Tryd.ntmps69
  go_wp2
  refine wp_loop_rounds 2 ?_
  rw [rounds_succ]
  go_wp2
  rw [rounds_succ]
  go_wp2
  go_quiet (fail)
  go_wp2
  go_ret3
  exact ⟨rfl, drewly (newly (newly (Below.refl _ w) _) _) _⟩

theorem lead_2 (o : Nat) (ho : o < 256) (h : 224 ≤ o ∧ o < 240) (w : World) (ht : Tab w) : Calls Tryd.prog 69 #[.int .u8 o] w fun e w' => e = .returned (leadv o) ∧ Below w.heap.size w w' := by
  have c0 : w.cell? ⟨0, 0, none⟩ = some (.int .u32 127) := ht.cell 0
  have c1 : w.cell? ⟨0, 1, none⟩ = some (.int .u8 0) := ht.cell 1
  have c2 : w.cell? ⟨0, 2, none⟩ = some (.int .u8 127) := ht.cell 2
  have c3 : w.cell? ⟨0, 3, none⟩ = some (.int .u32 2047) := ht.cell 3
  have c4 : w.cell? ⟨0, 4, none⟩ = some (.int .u8 192) := ht.cell 4
  have c5 : w.cell? ⟨0, 5, none⟩ = some (.int .u8 31) := ht.cell 5
  have c6 : w.cell? ⟨0, 6, none⟩ = some (.int .u32 65535) := ht.cell 6
  have c7 : w.cell? ⟨0, 7, none⟩ = some (.int .u8 224) := ht.cell 7
  have c8 : w.cell? ⟨0, 8, none⟩ = some (.int .u8 15) := ht.cell 8
  have c9 : w.cell? ⟨0, 9, none⟩ = some (.int .u32 1114111) := ht.cell 9
  have c10 : w.cell? ⟨0, 10, none⟩ = some (.int .u8 240) := ht.cell 10
  have c11 : w.cell? ⟨0, 11, none⟩ = some (.int .u8 7) := ht.cell 11
  clear ht
  have x0 := idx0
  have x1 := idx1
  have x2 := idx2
  have hv : leadv o = .tuple #[.int .i64 2, .int .u32 ((o - 224) : Nat), .bool true] := by
    have : ld o = some (2, (o - 224)) := by unfold ld; rw [if_neg (by omega), if_neg (by omega), if_neg (by omega), if_pos (by omega)]
    simp [leadv, this]
  have hm : bits .and .u8 (o : Int) 15 = (((o - 224) : Nat) : Int) := by rw [show (15 : Int) = ((15 : Nat) : Int) from rfl, aw o 15 ho (by omega)]; exact congrArg Nat.cast (fm2 ⟨o, ho⟩ h.1 h.2)
  rw [hv]
  clear hv
  have b0 : (bits .andNot .u8 (o : Int) 127 == 0) = false := by rw [ea0 o ho]; simp; omega
  have b1 : (bits .andNot .u8 (o : Int) 31 == 192) = false := by rw [ea1 o ho]; simp; omega
  have b2 : (bits .andNot .u8 (o : Int) 15 == 224) = true := by rw [ea2 o ho]; simp; omega
  clear h
  go_enter Tryd.func69, Tryd.ntmps69
  go_wp2
  refine wp_loop_rounds 3 ?_
  rw [rounds_succ]
  go_wp2
  rw [rounds_succ]
  go_wp2
  rw [rounds_succ]
  go_wp2
  go_quiet (fail)
  go_wp2
  go_ret3
  exact ⟨rfl, drewly (newly (newly (newly (Below.refl _ w) _) _) _) _⟩

theorem lead_3 (o : Nat) (ho : o < 256) (h : 240 ≤ o ∧ o < 248) (w : World) (ht : Tab w) : Calls Tryd.prog 69 #[.int .u8 o] w fun e w' => e = .returned (leadv o) ∧ Below w.heap.size w w' := by
  have c0 : w.cell? ⟨0, 0, none⟩ = some (.int .u32 127) := ht.cell 0
  have c1 : w.cell? ⟨0, 1, none⟩ = some (.int .u8 0) := ht.cell 1
  have c2 : w.cell? ⟨0, 2, none⟩ = some (.int .u8 127) := ht.cell 2
  have c3 : w.cell? ⟨0, 3, none⟩ = some (.int .u32 2047) := ht.cell 3
  have c4 : w.cell? ⟨0, 4, none⟩ = some (.int .u8 192) := ht.cell 4
  have c5 : w.cell? ⟨0, 5, none⟩ = some (.int .u8 31) := ht.cell 5
  have c6 : w.cell? ⟨0, 6, none⟩ = some (.int .u32 65535) := ht.cell 6
  have c7 : w.cell? ⟨0, 7, none⟩ = some (.int .u8 224) := ht.cell 7
  have c8 : w.cell? ⟨0, 8, none⟩ = some (.int .u8 15) := ht.cell 8
  have c9 : w.cell? ⟨0, 9, none⟩ = some (.int .u32 1114111) := ht.cell 9
  have c10 : w.cell? ⟨0, 10, none⟩ = some (.int .u8 240) := ht.cell 10
  have c11 : w.cell? ⟨0, 11, none⟩ = some (.int .u8 7) := ht.cell 11
  clear ht
  have x0 := idx0
  have x1 := idx1
  have x2 := idx2
  have x3 := idx3
  have hv : leadv o = .tuple #[.int .i64 3, .int .u32 ((o - 240) : Nat), .bool true] := by
    have : ld o = some (3, (o - 240)) := by unfold ld; rw [if_neg (by omega), if_neg (by omega), if_neg (by omega), if_neg (by omega), if_pos (by omega)]
    simp [leadv, this]
  have hm : bits .and .u8 (o : Int) 7 = (((o - 240) : Nat) : Int) := by rw [show (7 : Int) = ((7 : Nat) : Int) from rfl, aw o 7 ho (by omega)]; exact congrArg Nat.cast (fm3 ⟨o, ho⟩ h.1 h.2)
  rw [hv]
  clear hv
  have b0 : (bits .andNot .u8 (o : Int) 127 == 0) = false := by rw [ea0 o ho]; simp; omega
  have b1 : (bits .andNot .u8 (o : Int) 31 == 192) = false := by rw [ea1 o ho]; simp; omega
  have b2 : (bits .andNot .u8 (o : Int) 15 == 224) = false := by rw [ea2 o ho]; simp; omega
  have b3 : (bits .andNot .u8 (o : Int) 7 == 240) = true := by rw [ea3 o ho]; simp; omega
  clear h
  go_enter Tryd.func69, Tryd.ntmps69
  go_wp2
  refine wp_loop_rounds 4 ?_
  rw [rounds_succ]
  go_wp2
  rw [rounds_succ]
  go_wp2
  rw [rounds_succ]
  go_wp2
  rw [rounds_succ]
  go_wp2
  go_quiet (fail)
  go_wp2
  go_ret3
  exact ⟨rfl, drewly (newly (newly (newly (newly (Below.refl _ w) _) _) _) _) _⟩

theorem lead_4 (o : Nat) (ho : o < 256) (h : (128 ≤ o ∧ o < 192) ∨ 248 ≤ o) (w : World) (ht : Tab w) : Calls Tryd.prog 69 #[.int .u8 o] w fun e w' => e = .returned (leadv o) ∧ Below w.heap.size w w' := by
  have c0 : w.cell? ⟨0, 0, none⟩ = some (.int .u32 127) := ht.cell 0
  have c1 : w.cell? ⟨0, 1, none⟩ = some (.int .u8 0) := ht.cell 1
  have c2 : w.cell? ⟨0, 2, none⟩ = some (.int .u8 127) := ht.cell 2
  have c3 : w.cell? ⟨0, 3, none⟩ = some (.int .u32 2047) := ht.cell 3
  have c4 : w.cell? ⟨0, 4, none⟩ = some (.int .u8 192) := ht.cell 4
  have c5 : w.cell? ⟨0, 5, none⟩ = some (.int .u8 31) := ht.cell 5
  have c6 : w.cell? ⟨0, 6, none⟩ = some (.int .u32 65535) := ht.cell 6
  have c7 : w.cell? ⟨0, 7, none⟩ = some (.int .u8 224) := ht.cell 7
  have c8 : w.cell? ⟨0, 8, none⟩ = some (.int .u8 15) := ht.cell 8
  have c9 : w.cell? ⟨0, 9, none⟩ = some (.int .u32 1114111) := ht.cell 9
  have c10 : w.cell? ⟨0, 10, none⟩ = some (.int .u8 240) := ht.cell 10
  have c11 : w.cell? ⟨0, 11, none⟩ = some (.int .u8 7) := ht.cell 11
  clear ht
  have x0 := idx0
  have x1 := idx1
  have x2 := idx2
  have x3 := idx3
  have hv : leadv o = .tuple #[.int .i64 0, .int .u32 0, .bool false] := by
    have : ld o = none := by
      unfold ld
      by_cases h2 : o < 192
      · rw [if_neg (by omega), if_pos h2]
      · rw [if_neg (by omega), if_neg (by omega), if_neg (by omega), if_neg (by omega), if_neg (by omega)]
    simp [leadv, this]
  rw [hv]
  clear hv
  have b0 : (bits .andNot .u8 (o : Int) 127 == 0) = false := by rw [ea0 o ho]; simp; omega
  have b1 : (bits .andNot .u8 (o : Int) 31 == 192) = false := by rw [ea1 o ho]; simp; omega
  have b2 : (bits .andNot .u8 (o : Int) 15 == 224) = false := by rw [ea2 o ho]; simp; omega
  have b3 : (bits .andNot .u8 (o : Int) 7 == 240) = false := by rw [ea3 o ho]; simp; omega
  clear h
  go_enter Tryd.func69, Tryd.ntmps69
  go_wp2
  refine wp_loop_rounds 5 ?_
  rw [rounds_succ]
  go_wp2
  rw [rounds_succ]
  go_wp2
  rw [rounds_succ]
  go_wp2
  rw [rounds_succ]
  go_wp2
  rw [rounds_succ]
  go_wp2
  go_ret3
  exact ⟨rfl, (newly (newly (newly (newly (Below.refl _ w) _) _) _) _)⟩

theorem lead_any (o : Nat) (ho : o < 256) (w : World) (ht : Tab w) : Calls Tryd.prog 69 #[.int .u8 o] w fun e w' => e = .returned (leadv o) ∧ Below w.heap.size w w' := by
  by_cases h0 : o < 128
  · exact lead_0 o ho h0 w ht
  by_cases h1 : 192 ≤ o ∧ o < 224
  · exact lead_1 o ho h1 w ht
  by_cases h2 : 224 ≤ o ∧ o < 240
  · exact lead_2 o ho h2 w ht
  by_cases h3 : 240 ≤ o ∧ o < 248
  · exact lead_3 o ho h3 w ht
  · exact lead_4 o ho (by omega) w ht
end Go.Proofs.YtohmnbefokhjpaaDoor.Utf

namespace Go.Proofs.YtohmnbefokhjpaaDoor.Utf
open Go.RowKit

theorem fc63 : ∀ x : Fin 256, ((x.val &&& (255 - 63)) == 128) = cont x.val := by decide +kernel
theorem fm63 : ∀ x : Fin 256, cont x.val = true → (x.val &&& 63) = x.val - 128 := by decide +kernel
theorem ne63 (x : Nat) (h : x < 256) : (bits .andNot .u8 (x : Int) 63 != 128) = !cont x := by
  have : (bits .andNot .u8 (x : Int) 63 == 128) = cont x := by
    rw [show (63 : Int) = ((63 : Nat) : Int) from rfl, an x 63 h (by omega), show (128 : Int) = ((128 : Nat) : Int) from rfl, eqb]; exact fc63 ⟨x, h⟩
  rw [bne, this]
theorem and63 (x : Nat) (h : x < 256) (hc : cont x = true) : bits .and .u8 (x : Int) 63 = ((x - 128 : Nat) : Int) := by
  rw [show (63 : Int) = ((63 : Nat) : Int) from rfl, aw x 63 h (by omega)]; exact congrArg Nat.cast (fm63 ⟨x, h⟩ hc)
theorem or6 (c y : Nat) (hc : c < 67108864) (hy : y < 64) : bits .or .u32 ((c : Int) * 64) (y : Int) = ((c * 64 + y : Nat) : Int) := by
  have e : (c : Int) * 64 = ((c * 64 : Nat) : Int) := by simp
  rw [e, u32_or_nat _ _ (by omega) (by omega), nat_join 6 (c * 64) y (by omega) hy]
theorem cont_lt {x : Nat} (h : cont x = true) : 128 ≤ x ∧ x < 192 := by simpa [cont] using h

/-- What first answers. -/
def fv (l : List Nat) : Value := match dec l with
  | none => .tuple #[.int .u32 0, .int .i64 0]
  | some (c, m) => .tuple #[.int .u32 (c : Nat), .int .i64 (m : Nat)]

theorem fv_none {l : List Nat} (h : dec l = none) : fv l = .tuple #[.int .u32 0, .int .i64 0] := by simp [fv, h]
theorem fv_some {l : List Nat} {c m : Nat} (h : dec l = some (c, m)) : fv l = .tuple #[.int .u32 (c : Nat), .int .i64 (m : Nat)] := by simp [fv, h]

theorem dec_lead {o : Nat} {r : List Nat} (h : ld o = none) : dec (o :: r) = none := by simp [dec, h]
theorem dec_gon_none {o n c : Nat} {r : List Nat} (h : ld o = some (n, c)) (hg : gon n c r = none) : dec (o :: r) = none := by
  simp only [dec, h, hg]
theorem dec_gon_some {o n c d : Nat} {r : List Nat} (h : ld o = some (n, c)) (hg : gon n c r = some d) : dec (o :: r) = if fits n d then some (d, n + 1) else none := by
  simp only [dec, h, hg]
theorem ld_bound {o n c : Nat} (h : ld o = some (n, c)) (ho : o < 256) : n ≤ 3 ∧ c < 128 ∧ (n = 0 ∨ c < 32) := by
  unfold ld at h
  split at h
  · cases h; omega
  split at h
  · cases h
  split at h
  · cases h; omega
  split at h
  · cases h; omega
  split at h
  · cases h; omega
  · cases h

theorem gon_short : ∀ (n c : Nat) (r : List Nat), r.length < n → gon n c r = none
  | 0, _, _, h => by omega
  | n + 1, c, [], _ => rfl
  | n + 1, c, x :: r, h => by
    unfold gon
    split
    · exact gon_short n _ r (by simp at h; omega)
    · rfl

theorem gon_step {n c x : Nat} {r : List Nat} (h : cont x = true) : gon (n + 1) c (x :: r) = gon n (c * 64 + (x - 128)) r := by simp [gon, h]
theorem gon_stop {n c x : Nat} {r : List Nat} (h : cont x = false) : gon (n + 1) c (x :: r) = none := by simp [gon, h]
theorem drop_at {l : List Nat} {k x : Nat} (h : l[k]? = some x) : l.drop k = x :: l.drop (k + 1) := by
  obtain ⟨hk, rfl⟩ := List.getElem?_eq_some_iff.1 h
  exact List.drop_eq_getElem_cons hk

/-- Jumping back: what holds at the label. -/
def Jmp (w : World) (b o n c x : Nat) (l : List Nat) (a' : Act) (w' : World) : Prop :=
  ∃ m c0 j c1 : Nat, ld x = some (m, c0) ∧ m < n ∧ j ≤ m ∧ (m = 0 ∨ c1 < 32 * 64 ^ j) ∧ c1 < 8388608 ∧ gon m c0 (l.drop 1) = gon (m - j) c1 (l.drop (j + 1)) ∧ Rd .u8 256 w' w.heap.size (some ⟨b, o, none⟩) n l ∧ Tab w' ∧ Below w.heap.size w w' ∧
    ∃ u1 u2 u3 u6 u8 u9 u10 u11 u12 u13 u14 u15 u16 u17 u18 u19 u20 u21 u22 u23 u24 u25 u26 u27 u28 u29 u30 u31 u32 u33 u34 u35 u36 u37 u38 u39 u40 u41 u42 u43 u44 u45 u46 u47 u48 u49 u50 u51 u52 u53 u54 u55 u56 : Value, a' = { tmps := #[.slice (some ⟨b, o, none⟩) n c, u1, u2, u3, .int .i64 (m : Nat), .int .u32 (c1 : Nat), u6, .int .i64 ((j : Int) + 1), u8, u9, u10, u11, u12, u13, u14, u15, u16, u17, u18, u19, u20, u21, u22, u23, u24, u25, u26, u27, u28, u29, u30, u31, u32, u33, u34, u35, u36, u37, u38, u39, u40, u41, u42, u43, u44, u45, u46, u47, u48, u49, u50, u51, u52, u53, u54, u55, u56], defers := [] }
def slotJ (a' : Act) : Nat := 5 - (intOf (a'.tmps.getD 7 undef)).toNat

theorem wp_scope_to {P : Program} {a : Act} {w : World} {Q : Exit → Act → World → Prop} {c rest : Code} (l : Nat) (J : Act → World → Prop) (μ : Act → World → Nat) (hf : findLabel c l = some (Code.skip.seq rest))
    (pass : ∀ a w, J a w → rest.wp P (Exit.jump l (fun a' w' => J a' w' ∧ μ a' w' < μ a w) Q) a w)
    (first : (∀ a w, J a w → rest.wp P (Exit.jump l J Q) a w) → c.wp P (Exit.jump l J Q) a w) : (Code.scope c).wp P Q a w :=
  wp_scope_jumps l J μ hf (first fun a w h => wp_mono (pass a w h) fun e a' w' hq => by
    cases e with
    | goto l' => exact ⟨hq.1, hq.2.1⟩
    | _ => exact hq) fun a w h => wp_seq (wp_skip (pass a w h))
theorem jump_ret {l : Nat} {J : Act → World → Prop} {Q : Exit → Act → World → Prop} {a : Act} {w : World} : Exit.jump l J Q .ret a w = Q .ret a w := rfl

theorem step_bound {m j c1 y : Nat} (hm : m ≤ 3) (hj : j < m) (h : m = 0 ∨ c1 < 32 * 64 ^ j) (hy : y < 64) : c1 < 131072 ∧ (m = 0 ∨ c1 * 64 + y < 32 * 64 ^ (j + 1)) ∧ c1 * 64 + y < 8388608 := by
  have h' : c1 < 32 * 64 ^ j := by omega
  have : j = 0 ∨ j = 1 ∨ j = 2 := by omega
  rcases this with rfl | rfl | rfl <;> simp at h' ⊢ <;> omega

set_option maxRecDepth 1000000 in
theorem first_x (b o n c : Nat) (l : List Nat) (w : World) (ht : Tab w) (hr : Rd .u8 256 w w.heap.size (some ⟨b, o, none⟩) n l) (hn : 0 < n) (hn2 : n ≤ 4611686018427387904) : Calls Tryd.prog 68 #[.slice (some ⟨b, o, none⟩) n c] w fun e w' => e = .returned (fv l) ∧ Below w.heap.size w w' := by
  obtain ⟨b', o', x, e, hb, hx, hx2, hc⟩ := hr.at_ hn
  injection e with e
  injection e with e1 e2
  subst e1
  subst e2
  have hl : l = x :: l.drop 1 := by simpa using drop_at hx
  have HL := Lib.hid hl
  have hlen := hr.len
  clear hx
  rw [Nat.add_zero] at hc
  go_enter Tryd.func68, Tryd.ntmps68
  go_wp2
  refine wp_scope_to 0 (Jmp w b o n c x l) (fun a' _ => slotJ a') rfl ?_ ?_
  · rintro a' w' ⟨m, c0, j, c1, hld, hmn, hj, hcb, hc23, hg, hr', ht', hb', u1, u2, u3, u6, u8, u9, u10, u11, u12, u13, u14, u15, u16, u17, u18, u19, u20, u21, u22, u23, u24, u25, u26, u27, u28, u29, u30, u31, u32, u33, u34, u35, u36, u37, u38, u39, u40, u41, u42, u43, u44, u45, u46, u47, u48, u49, u50, u51, u52, u53, u54, u55, u56, rfl⟩
    clear hc
    have hm3 := ld_bound hld hx2
    by_cases hjm : j < m
    · obtain ⟨b', o', y, e, hby, hy, hy2, hcy⟩ := hr'.at_ (k := j + 1) (by omega)
      injection e with e
      injection e with e1 e2
      subst e1
      subst e2
      have hne := ne63 y hy2
      have hD := drop_at hy
      have hmj : m - j = (m - j - 1) + 1 := by omega
      rw [hD, hmj] at hg
      by_cases hcont : cont y = true
      · rw [hcont] at hne
        have hand := and63 y hy2 hcont
        rw [gon_step hcont] at hg
        obtain ⟨z, hz⟩ : ∃ z, y - 128 = z := ⟨_, rfl⟩
        have hz64 : z < 64 := by have := cont_lt hcont; omega
        rw [hz] at hand hg
        obtain ⟨hc17, hc1', hc23'⟩ := step_bound hm3.1 hjm hcb hz64
        have HO := Lib.hid (or6 c1 z (by omega) hz64)
        have HG : Hid (gon m c0 (List.drop 1 l) = gon (m - (j + 1)) (c1 * 64 + z) (l.drop (j + 1 + 1))) := Lib.hid (by rw [hg, Nat.sub_sub])
        have HB := Lib.hid hc1'
        have HE := Lib.hid hld
        clear hc1' hz hg hD hmj hcb hy hcont hld
        have hm9 : m ≤ 3 := hm3.1
        clear hm3
        go_wp2
        go_step3
        rw [HO.out]
        refine ⟨rfl, ⟨m, c0, j + 1, c1 * 64 + z, HE.out, hmn, by omega, HB.out, by omega, HG.out, hr', ht', hb', _, _, _, _, _, _, _, _, _, _, _, _, _, _, _, _, _, _, _, _, _, _, _, _, _, _, _, _, _, _, _, _, _, _, _, _, _, _, _, _, _, _, _, _, _, _, _, _, _, _, _, _, _, rfl⟩, ?_⟩
        simp [slotJ, intOf]
        omega
      · have hcf : cont y = false := by simpa using hcont
        rw [hcf] at hne
        rw [gon_stop hcf] at hg
        have HV : Hid (fv l = .tuple #[.int .u32 0, .int .i64 0]) := Lib.hid (fv_none (by rw [hl]; exact dec_gon_none hld hg))
        clear hg hD hmj hcb hy hcont hcf hld
        have hm9 : m ≤ 3 := hm3.1
        clear hm3
        go_wp2
        rw [jump_ret]
        go_ret2
        exact ⟨by rw [HV.out]; rfl, hb'⟩
    · have hjm' : j = m := by omega
      subst hjm'
      rw [Nat.sub_self] at hg
      simp only [gon] at hg
      have hd := dec_gon_some (r := l.drop 1) hld hg
      rw [← hl] at hd
      have hm9 : j ≤ 3 := hm3.1
      clear hm3 hg hcb hld
      by_cases hC : isC c1 = true
      · by_cases hF : fu c1 = j
        · have HV : Hid (fv l = .tuple #[.int .u32 (c1 : Nat), .int .i64 ((j : Int) + 1)]) := Lib.hid (by
            have hfit : fits j c1 = true := by simp [fits, hC, hF]
            rw [hfit, if_pos rfl] at hd
            rw [fv_some hd]
            simp)
          clear hd
          go_wp2_with fail
          refine (char_any c1 w').mono ?_
          rw [hC]
          rintro e w2 ⟨rfl, rfl⟩
          go_wp2_with fail
          refine (further_any c1 w' ht').mono ?_
          rw [hF]
          rintro e w2 ⟨rfl, rfl⟩
          clear hC hF
          go_wp2
          rw [jump_ret]
          go_ret2
          exact ⟨by rw [HV.out]; rfl, hb'⟩
        · have HV : Hid (fv l = .tuple #[.int .u32 0, .int .i64 0]) := Lib.hid (fv_none (by rw [hd, if_neg (by simp [fits, hF])]))
          have hne : (((fu c1 : Nat) : Int) != (j : Int)) = true := by simp; omega
          clear hd hF
          go_wp2_with fail
          refine (char_any c1 w').mono ?_
          rw [hC]
          rintro e w2 ⟨rfl, rfl⟩
          go_wp2_with fail
          refine (further_any c1 w' ht').mono ?_
          rintro e w2 ⟨rfl, rfl⟩
          clear hC
          generalize fu c1 = f at *
          go_wp2
          rw [jump_ret]
          go_ret2
          exact ⟨by rw [HV.out]; rfl, hb'⟩
      · have hCf : isC c1 = false := by simpa using hC
        have HV : Hid (fv l = .tuple #[.int .u32 0, .int .i64 0]) := Lib.hid (fv_none (by rw [hd, if_neg (by simp [fits, hCf])]))
        clear hd hC
        go_wp2_with fail
        refine (char_any c1 w').mono ?_
        rw [hCf]
        rintro e w2 ⟨rfl, rfl⟩
        clear hCf
        go_wp2
        rw [jump_ret]
        go_ret2
        exact ⟨by rw [HV.out]; rfl, hb'⟩
  · intro HJ
    have HJ' := Lib.hid HJ
    clear HJ hl
    go_wp2_with fail
    refine (lead_any x hx2 w ht).mono ?_
    rintro e w1 ⟨rfl, hb1⟩
    have hr1 := hr.below hb1
    have ht1 := ht.call hb1
    cases hld : ld x with
    | none =>
      have hlv : leadv x = .tuple #[.int .i64 0, .int .u32 0, .bool false] := by simp [leadv, hld]
      have HV : Hid (fv l = .tuple #[.int .u32 0, .int .i64 0]) := Lib.hid (fv_none (by rw [HL.out]; exact dec_lead hld))
      rw [hlv]
      clear hlv hld
      go_wp2
      rw [jump_ret]
      go_ret2
      exact ⟨by rw [HV.out]; rfl, hb1⟩
    | some p =>
      obtain ⟨m, c0⟩ := p
      have hlv : leadv x = .tuple #[.int .i64 (m : Nat), .int .u32 (c0 : Nat), .bool true] := by simp [leadv, hld]
      have hm3 := ld_bound hld hx2
      by_cases hmn : n ≤ m
      · have HV : Hid (fv l = .tuple #[.int .u32 0, .int .i64 0]) := Lib.hid (fv_none (by rw [HL.out]; exact dec_gon_none hld (gon_short _ _ _ (by rw [List.length_drop]; omega))))
        rw [hlv]
        clear hlv hld hm3
        go_wp2
        rw [jump_ret]
        go_ret2
        exact ⟨by rw [HV.out]; rfl, hb1⟩
      · rw [hlv]
        clear hlv
        have HLD := Lib.hid hld
        have hm9 : m ≤ 3 := hm3.1
        have HB : Hid (m = 0 ∨ c0 < 32 * 64 ^ 0) := Lib.hid (by simp; exact hm3.2.2)
        have hc128 : c0 < 128 := hm3.2.1
        clear hld hm3
        go_wp2
        go_step3
        rename_i hK
        refine hK _ _ (HJ'.out _ _ ?_)
        exact ⟨m, c0, 0, c0, HLD.out, by omega, by omega, HB.out, by omega, rfl, hr1, ht1, hb1, _, _, _, _, _, _, _, _, _, _, _, _, _, _, _, _, _, _, _, _, _, _, _, _, _, _, _, _, _, _, _, _, _, _, _, _, _, _, _, _, _, _, _, _, _, _, _, _, _, _, _, _, _, rfl⟩

theorem first_any (A : Option Addr) (n c : Nat) (l : List Nat) (w : World) (ht : Tab w) (hr : Rd .u8 256 w w.heap.size A n l) (hn : 0 < n) (hn2 : n ≤ 4611686018427387904) : Calls Tryd.prog 68 #[.slice A n c] w fun e w' => e = .returned (fv l) ∧ Below w.heap.size w w' := by
  obtain ⟨b, o, _, rfl, _⟩ := hr.at_ hn
  exact first_x b o n c l w ht hr hn hn2
end Go.Proofs.YtohmnbefokhjpaaDoor.Utf
