/-
  Contracts of utf.Char and the document's Char, utf.further, utf.lead: no condition but that the table of package utf is as its text lays it.
-/
import Derived.Test.YtikjnbognjicdaaDoorMem
import Derived.LoopN
import Derived.BigQuiet
import Derived.Deep.QuietTactic
import Derived.Laws.BitsAllLaws
namespace Go.Proofs.YtikjnbognjicdaaDoor.Utf
open Go.RowKit

theorem char_any (n : Nat) (w : World) : Calls Tryd.prog 104 #[.int .u64 n] w fun e w' => e = .returned (.bool (isC n)) ∧ w = w' := by
  by_cases h1 : n < 55296
  · have e : isC n = true := isC_iff.2 (by omega)
    rw [e]
    clear e
    have d1 : decide ((n : Int) < 55296) = true := by simp; omega
    clear h1
    go_enter Tryd.func104, Tryd.ntmps104
    go_wp2
    go_ret
    exact ⟨rfl, rfl⟩
  by_cases h2 : n ≤ 57343
  · have e : isC n = false := by simp [isC]; omega
    rw [e]
    clear e
    have d1 : decide ((n : Int) < 55296) = false := by simp; omega
    have d2 : decide (57343 < (n : Int)) = false := by simp; omega
    clear h1 h2
    go_enter Tryd.func104, Tryd.ntmps104
    go_wp2
    go_ret
    exact ⟨rfl, rfl⟩
  by_cases h3 : n ≤ 1114111
  · have e : isC n = true := isC_iff.2 (by omega)
    rw [e]
    clear e
    have d1 : decide ((n : Int) < 55296) = false := by simp; omega
    have d2 : decide (57343 < (n : Int)) = true := by simp; omega
    have d3 : decide ((n : Int) ≤ 1114111) = true := by simp; omega
    clear h1 h2 h3
    go_enter Tryd.func104, Tryd.ntmps104
    go_wp2
    go_ret
    exact ⟨rfl, rfl⟩
  · have e : isC n = false := by simp [isC]; omega
    rw [e]
    clear e
    have d1 : decide ((n : Int) < 55296) = false := by simp; omega
    have d2 : decide (57343 < (n : Int)) = true := by simp; omega
    have d3 : decide ((n : Int) ≤ 1114111) = false := by simp; omega
    clear h1 h2 h3
    go_enter Tryd.func104, Tryd.ntmps104
    go_wp2
    go_ret
    exact ⟨rfl, rfl⟩

theorem rchar_any (n : Nat) (w : World) : Calls Tryd.prog 97 #[.int .u64 n] w fun e w' => e = .returned (.bool (isC n)) ∧ w = w' := by
  by_cases h1 : n < 55296
  · have e : isC n = true := isC_iff.2 (by omega)
    rw [e]
    clear e
    have d1 : decide ((n : Int) < 55296) = true := by simp; omega
    clear h1
    go_enter Tryd.func97, Tryd.ntmps97
    go_wp2
    go_ret
    exact ⟨rfl, rfl⟩
  by_cases h2 : n ≤ 57343
  · have e : isC n = false := by simp [isC]; omega
    rw [e]
    clear e
    have d1 : decide ((n : Int) < 55296) = false := by simp; omega
    have d2 : decide (57343 < (n : Int)) = false := by simp; omega
    clear h1 h2
    go_enter Tryd.func97, Tryd.ntmps97
    go_wp2
    go_ret
    exact ⟨rfl, rfl⟩
  by_cases h3 : n ≤ 1114111
  · have e : isC n = true := isC_iff.2 (by omega)
    rw [e]
    clear e
    have d1 : decide ((n : Int) < 55296) = false := by simp; omega
    have d2 : decide (57343 < (n : Int)) = true := by simp; omega
    have d3 : decide ((n : Int) ≤ 1114111) = true := by simp; omega
    clear h1 h2 h3
    go_enter Tryd.func97, Tryd.ntmps97
    go_wp2
    go_ret
    exact ⟨rfl, rfl⟩
  · have e : isC n = false := by simp [isC]; omega
    rw [e]
    clear e
    have d1 : decide ((n : Int) < 55296) = false := by simp; omega
    have d2 : decide (57343 < (n : Int)) = true := by simp; omega
    have d3 : decide ((n : Int) ≤ 1114111) = false := by simp; omega
    clear h1 h2 h3
    go_enter Tryd.func97, Tryd.ntmps97
    go_wp2
    go_ret
    exact ⟨rfl, rfl⟩

theorem further_any (c : Nat) (w : World) (ht : Tab w) : Calls Tryd.prog 119 #[.int .u32 c] w fun e w' => e = .returned (.int .i64 (fu c)) ∧ w = w' := by
  have c0 : w.cell? ⟨0, 0, none⟩ = some (.int .u32 127) := ht.cell 0
  have c1 : w.cell? ⟨0, 3, none⟩ = some (.int .u32 2047) := ht.cell 3
  have c2 : w.cell? ⟨0, 6, none⟩ = some (.int .u32 65535) := ht.cell 6
  clear ht
  by_cases h1 : c ≤ 127
  · have e : fu c = 0 := by simp [fu, h1]
    rw [e]
    clear e
    have d0 : decide (127 < (c : Int)) = false := by simp; omega
    clear h1
    go_enter Tryd.func119, Tryd.ntmps119
    go_wp2
    refine wp_loop_rounds 1 ?_
    rw [rounds_succ]
    go_wp2
    go_ret
    exact ⟨rfl, rfl⟩
  by_cases h2 : c ≤ 2047
  · have e : fu c = 1 := by simp [fu, h1, h2]
    rw [e]
    clear e
    have d0 : decide (127 < (c : Int)) = true := by simp; omega
    have d1 : decide (2047 < (c : Int)) = false := by simp; omega
    clear h1 h2
    go_enter Tryd.func119, Tryd.ntmps119
    go_wp2
    refine wp_loop_rounds 2 ?_
    rw [rounds_succ]
    go_wp2
    rw [rounds_succ]
    go_wp2
    go_ret
    exact ⟨rfl, rfl⟩
  by_cases h3 : c ≤ 65535
  · have e : fu c = 2 := by simp [fu, h1, h2, h3]
    rw [e]
    clear e
    have d0 : decide (127 < (c : Int)) = true := by simp; omega
    have d1 : decide (2047 < (c : Int)) = true := by simp; omega
    have d2 : decide (65535 < (c : Int)) = false := by simp; omega
    clear h1 h2 h3
    go_enter Tryd.func119, Tryd.ntmps119
    go_wp2
    refine wp_loop_rounds 3 ?_
    rw [rounds_succ]
    go_wp2
    rw [rounds_succ]
    go_wp2
    rw [rounds_succ]
    go_wp2
    go_ret
    exact ⟨rfl, rfl⟩
  · have e : fu c = 3 := by simp [fu, h1, h2, h3]
    rw [e]
    clear e
    have d0 : decide (127 < (c : Int)) = true := by simp; omega
    have d1 : decide (2047 < (c : Int)) = true := by simp; omega
    have d2 : decide (65535 < (c : Int)) = true := by simp; omega
    clear h1 h2 h3
    go_enter Tryd.func119, Tryd.ntmps119
    go_wp2
    refine wp_loop_rounds 4 ?_
    rw [rounds_succ]
    go_wp2
    rw [rounds_succ]
    go_wp2
    rw [rounds_succ]
    go_wp2
    rw [rounds_succ]
    go_wp2
    go_ret
    exact ⟨rfl, rfl⟩

theorem an (o m : Nat) (ho : o < 256) (hm : m < 256) : bits .andNot .u8 (o : Int) (m : Int) = ((o &&& (255 - m) : Nat) : Int) := u8_andNot_nat o m ho hm
theorem aw (o m : Nat) (ho : o < 256) (hm : m < 256) : bits .and .u8 (o : Int) (m : Int) = ((o &&& m : Nat) : Int) := u8_and_nat o m ho hm
theorem fa0 : ∀ o : Fin 256, ((o.val &&& (255 - 127)) == 0) = decide (o.val < 128) := by decide +kernel
theorem fa1 : ∀ o : Fin 256, ((o.val &&& (255 - 31)) == 192) = (decide (192 ≤ o.val) && decide (o.val < 224)) := by decide +kernel
theorem fa2 : ∀ o : Fin 256, ((o.val &&& (255 - 15)) == 224) = (decide (224 ≤ o.val) && decide (o.val < 240)) := by decide +kernel
theorem fa3 : ∀ o : Fin 256, ((o.val &&& (255 - 7)) == 240) = (decide (240 ≤ o.val) && decide (o.val < 248)) := by decide +kernel
theorem fm0 : ∀ o : Fin 256, o.val < 128 → (o.val &&& 127) = o.val := by decide +kernel
theorem fm1 : ∀ o : Fin 256, 192 ≤ o.val → o.val < 224 → (o.val &&& 31) = o.val - 192 := by decide +kernel
theorem fm2 : ∀ o : Fin 256, 224 ≤ o.val → o.val < 240 → (o.val &&& 15) = o.val - 224 := by decide +kernel
theorem fm3 : ∀ o : Fin 256, 240 ≤ o.val → o.val < 248 → (o.val &&& 7) = o.val - 240 := by decide +kernel
theorem eqb (a b : Nat) : (((a : Nat) : Int) == ((b : Nat) : Int)) = (a == b) := by
  rw [Bool.eq_iff_iff]; simp; omega
theorem ea0 (o : Nat) (h : o < 256) : (bits .andNot .u8 (o : Int) 127 == 0) = decide (o < 128) := by
  rw [show (127 : Int) = ((127 : Nat) : Int) from rfl, an o 127 h (by omega), show (0 : Int) = ((0 : Nat) : Int) from rfl, eqb]; exact fa0 ⟨o, h⟩
theorem ea1 (o : Nat) (h : o < 256) : (bits .andNot .u8 (o : Int) 31 == 192) = (decide (192 ≤ o) && decide (o < 224)) := by
  rw [show (31 : Int) = ((31 : Nat) : Int) from rfl, an o 31 h (by omega), show (192 : Int) = ((192 : Nat) : Int) from rfl, eqb]; exact fa1 ⟨o, h⟩
theorem ea2 (o : Nat) (h : o < 256) : (bits .andNot .u8 (o : Int) 15 == 224) = (decide (224 ≤ o) && decide (o < 240)) := by
  rw [show (15 : Int) = ((15 : Nat) : Int) from rfl, an o 15 h (by omega), show (224 : Int) = ((224 : Nat) : Int) from rfl, eqb]; exact fa2 ⟨o, h⟩
theorem ea3 (o : Nat) (h : o < 256) : (bits .andNot .u8 (o : Int) 7 == 240) = (decide (240 ≤ o) && decide (o < 248)) := by
  rw [show (7 : Int) = ((7 : Nat) : Int) from rfl, an o 7 h (by omega), show (240 : Int) = ((240 : Nat) : Int) from rfl, eqb]; exact fa3 ⟨o, h⟩

theorem newly {w w' : World} (h : Below w.heap.size w w') (o : Obj) : Below w.heap.size w (w'.alloc o) := h.alloc h.size o
theorem drewly {B : Nat} {w w' : World} (h : Below B w w') (k : Nat) : Below B w (w'.drewN k) := ⟨h.os, h.tape, h.output, h.size, h.block⟩

/-- What lead answers. -/
def leadv (o : Nat) : Value := match ld o with
  | none => .tuple #[.int .i64 0, .int .u32 0, .bool false]
  | some (n, c) => .tuple #[.int .i64 (n : Nat), .int .u32 (c : Nat), .bool true]
theorem idx0 : ∀ W : World, (Instr.index 143 (.agg #[.int .u32 127, .int .u8 0, .int .u8 127, .int .u32 2047, .int .u8 192, .int .u8 31, .int .u32 65535, .int .u8 224, .int .u8 15, .int .u32 1114111, .int .u8 240, .int .u8 7]) (.int .i64 0)).run Tryd.prog W = .ok (.agg #[.int .u32 127, .int .u8 0, .int .u8 127]) W := fun W => by kernel_rfl
theorem idx1 : ∀ W : World, (Instr.index 143 (.agg #[.int .u32 127, .int .u8 0, .int .u8 127, .int .u32 2047, .int .u8 192, .int .u8 31, .int .u32 65535, .int .u8 224, .int .u8 15, .int .u32 1114111, .int .u8 240, .int .u8 7]) (.int .i64 1)).run Tryd.prog W = .ok (.agg #[.int .u32 2047, .int .u8 192, .int .u8 31]) W := fun W => by kernel_rfl
theorem idx2 : ∀ W : World, (Instr.index 143 (.agg #[.int .u32 127, .int .u8 0, .int .u8 127, .int .u32 2047, .int .u8 192, .int .u8 31, .int .u32 65535, .int .u8 224, .int .u8 15, .int .u32 1114111, .int .u8 240, .int .u8 7]) (.int .i64 2)).run Tryd.prog W = .ok (.agg #[.int .u32 65535, .int .u8 224, .int .u8 15]) W := fun W => by kernel_rfl
theorem idx3 : ∀ W : World, (Instr.index 143 (.agg #[.int .u32 127, .int .u8 0, .int .u8 127, .int .u32 2047, .int .u8 192, .int .u8 31, .int .u32 65535, .int .u8 224, .int .u8 15, .int .u32 1114111, .int .u8 240, .int .u8 7]) (.int .i64 3)).run Tryd.prog W = .ok (.agg #[.int .u32 1114111, .int .u8 240, .int .u8 7]) W := fun W => by kernel_rfl

theorem lead_0 (o : Nat) (ho : o < 256) (h : o < 128) (w : World) (ht : Tab w) : Calls Tryd.prog 118 #[.int .u8 o] w fun e w' => e = .returned (leadv o) ∧ Below w.heap.size w w' := by
  have c0 : w.cell? ⟨0, 0, none⟩ = some (.int .u32 127) := ht.cell 0
  have c1 : w.cell? ⟨0, 1, none⟩ = some (.int .u8 0) := ht.cell 1
  have c2 : w.cell? ⟨0, 2, none⟩ = some (.int .u8 127) := ht.cell 2
  have c3 : w.cell? ⟨0, 3, none⟩ = some (.int .u32 2047) := ht.cell 3
  have c4 : w.cell? ⟨0, 4, none⟩ = some (.int .u8 192) := ht.cell 4
  have c5 : w.cell? ⟨0, 5, none⟩ = some (.int .u8 31) := ht.cell 5
  have c6 : w.cell? ⟨0, 6, none⟩ = some (.int .u32 65535) := ht.cell 6
  have c7 : w.cell? ⟨0, 7, none⟩ = some (.int .u8 224) := ht.cell 7
  have c8 : w.cell? ⟨0, 8, none⟩ = some (.int .u8 15) := ht.cell 8
  have c9 : w.cell? ⟨0, 9, none⟩ = some (.int .u32 1114111) := ht.cell 9
  have c10 : w.cell? ⟨0, 10, none⟩ = some (.int .u8 240) := ht.cell 10
  have c11 : w.cell? ⟨0, 11, none⟩ = some (.int .u8 7) := ht.cell 11
  clear ht
  have x0 := idx0
  have hv : leadv o = .tuple #[.int .i64 0, .int .u32 (o : Nat), .bool true] := by
    have : ld o = some (0, o) := by unfold ld; simp [h]
    simp [leadv, this]
  have hm : bits .and .u8 (o : Int) 127 = ((o : Nat) : Int) := by rw [show (127 : Int) = ((127 : Nat) : Int) from rfl, aw o 127 ho (by omega)]; exact congrArg Nat.cast (fm0 ⟨o, ho⟩ h)
  rw [hv]
  clear hv
  have b0 : (bits .andNot .u8 (o : Int) 127 == 0) = true := by rw [ea0 o ho]; simp; omega
  clear h
  go_enter Tryd.func118, Tryd.ntmps118
  go_wp2
  refine wp_loop_rounds 1 ?_
  rw [rounds_succ]
  go_wp2
  go_quiet (fail)
  go_wp2
  go_ret3
  exact ⟨rfl, drewly (newly (Below.refl _ w) _) _⟩

theorem lead_1 (o : Nat) (ho : o < 256) (h : 192 ≤ o ∧ o < 224) (w : World) (ht : Tab w) : Calls Tryd.prog 118 #[.int .u8 o] w fun e w' => e = .returned (leadv o) ∧ Below w.heap.size w w' := by
  have c0 : w.cell? ⟨0, 0, none⟩ = some (.int .u32 127) := ht.cell 0
  have c1 : w.cell? ⟨0, 1, none⟩ = some (.int .u8 0) := ht.cell 1
  have c2 : w.cell? ⟨0, 2, none⟩ = some (.int .u8 127) := ht.cell 2
  have c3 : w.cell? ⟨0, 3, none⟩ = some (.int .u32 2047) := ht.cell 3
  have c4 : w.cell? ⟨0, 4, none⟩ = some (.int .u8 192) := ht.cell 4
  have c5 : w.cell? ⟨0, 5, none⟩ = some (.int .u8 31) := ht.cell 5
  have c6 : w.cell? ⟨0, 6, none⟩ = some (.int .u32 65535) := ht.cell 6
  have c7 : w.cell? ⟨0, 7, none⟩ = some (.int .u8 224) := ht.cell 7
  have c8 : w.cell? ⟨0, 8, none⟩ = some (.int .u8 15) := ht.cell 8
  have c9 : w.cell? ⟨0, 9, none⟩ = some (.int .u32 1114111) := ht.cell 9
  have c10 : w.cell? ⟨0, 10, none⟩ = some (.int .u8 240) := ht.cell 10
  have c11 : w.cell? ⟨0, 11, none⟩ = some (.int .u8 7) := ht.cell 11
  clear ht
  have x0 := idx0
  have x1 := idx1
  have hv : leadv o = .tuple #[.int .i64 1, .int .u32 ((o - 192) : Nat), .bool true] := by
    have : ld o = some (1, (o - 192)) := by unfold ld; rw [if_neg (by omega), if_neg (by omega), if_pos (by omega)]
    simp [leadv, this]
  have hm : bits .and .u8 (o : Int) 31 = (((o - 192) : Nat) : Int) := by rw [show (31 : Int) = ((31 : Nat) : Int) from rfl, aw o 31 ho (by omega)]; exact congrArg Nat.cast (fm1 ⟨o, ho⟩ h.1 h.2)
  rw [hv]
  clear hv
  have b0 : (bits .andNot .u8 (o : Int) 127 == 0) = false := by rw [ea0 o ho]; simp; omega
  have b1 : (bits .andNot .u8 (o : Int) 31 == 192) = true := by rw [ea1 o ho]; simp; omega
  clear h
  go_enter Tryd.func118, Tryd.ntmps118
  go_wp2
  refine wp_loop_rounds 2 ?_
  rw [rounds_succ]
  go_wp2
  rw [rounds_succ]
  go_wp2
  go_quiet (fail)
  go_wp2
  go_ret3
  exact ⟨rfl, drewly (newly (newly (Below.refl _ w) _) _) _⟩

theorem lead_2 (o : Nat) (ho : o < 256) (h : 224 ≤ o ∧ o < 240) (w : World) (ht : Tab w) : Calls Tryd.prog 118 #[.int .u8 o] w fun e w' => e = .returned (leadv o) ∧ Below w.heap.size w w' := by
  have c0 : w.cell? ⟨0, 0, none⟩ = some (.int .u32 127) := ht.cell 0
  have c1 : w.cell? ⟨0, 1, none⟩ = some (.int .u8 0) := ht.cell 1
  have c2 : w.cell? ⟨0, 2, none⟩ = some (.int .u8 127) := ht.cell 2
  have c3 : w.cell? ⟨0, 3, none⟩ = some (.int .u32 2047) := ht.cell 3
  have c4 : w.cell? ⟨0, 4, none⟩ = some (.int .u8 192) := ht.cell 4
  have c5 : w.cell? ⟨0, 5, none⟩ = some (.int .u8 31) := ht.cell 5
  have c6 : w.cell? ⟨0, 6, none⟩ = some (.int .u32 65535) := ht.cell 6
  have c7 : w.cell? ⟨0, 7, none⟩ = some (.int .u8 224) := ht.cell 7
  have c8 : w.cell? ⟨0, 8, none⟩ = some (.int .u8 15) := ht.cell 8
  have c9 : w.cell? ⟨0, 9, none⟩ = some (.int .u32 1114111) := ht.cell 9
  have c10 : w.cell? ⟨0, 10, none⟩ = some (.int .u8 240) := ht.cell 10
  have c11 : w.cell? ⟨0, 11, none⟩ = some (.int .u8 7) := ht.cell 11
  clear ht
  have x0 := idx0
  have x1 := idx1
  have x2 := idx2
  have hv : leadv o = .tuple #[.int .i64 2, .int .u32 ((o - 224) : Nat), .bool true] := by
    have : ld o = some (2, (o - 224)) := by unfold ld; rw [if_neg (by omega), if_neg (by omega), if_neg (by omega), if_pos (by omega)]
    simp [leadv, this]
  have hm : bits .and .u8 (o : Int) 15 = (((o - 224) : Nat) : Int) := by rw [show (15 : Int) = ((15 : Nat) : Int) from rfl, aw o 15 ho (by omega)]; exact congrArg Nat.cast (fm2 ⟨o, ho⟩ h.1 h.2)
  rw [hv]
  clear hv
  have b0 : (bits .andNot .u8 (o : Int) 127 == 0) = false := by rw [ea0 o ho]; simp; omega
  have b1 : (bits .andNot .u8 (o : Int) 31 == 192) = false := by rw [ea1 o ho]; simp; omega
  have b2 : (bits .andNot .u8 (o : Int) 15 == 224) = true := by rw [ea2 o ho]; simp; omega
  clear h
  go_enter Tryd.func118, Tryd.ntmps118
  go_wp2
  refine wp_loop_rounds 3 ?_
  rw [rounds_succ]
  go_wp2
  rw [rounds_succ]
  go_wp2
  rw [rounds_succ]
  go_wp2
  go_quiet (fail)
  go_wp2
  go_ret3
  exact ⟨rfl, drewly (newly (newly (newly (Below.refl _ w) _) _) _) _⟩

theorem lead_3 (o : Nat) (ho : o < 256) (h : 240 ≤ o ∧ o < 248) (w : World) (ht : Tab w) : Calls Tryd.prog 118 #[.int .u8 o] w fun e w' => e = .returned (leadv o) ∧ Below w.heap.size w w' := by
  have c0 : w.cell? ⟨0, 0, none⟩ = some (.int .u32 127) := ht.cell 0
  have c1 : w.cell? ⟨0, 1, none⟩ = some (.int .u8 0) := ht.cell 1
  have c2 : w.cell? ⟨0, 2, none⟩ = some (.int .u8 127) := ht.cell 2
  have c3 : w.cell? ⟨0, 3, none⟩ = some (.int .u32 2047) := ht.cell 3
  have c4 : w.cell? ⟨0, 4, none⟩ = some (.int .u8 192) := ht.cell 4
  have c5 : w.cell? ⟨0, 5, none⟩ = some (.int .u8 31) := ht.cell 5
  have c6 : w.cell? ⟨0, 6, none⟩ = some (.int .u32 65535) := ht.cell 6
  have c7 : w.cell? ⟨0, 7, none⟩ = some (.int .u8 224) := ht.cell 7
  have c8 : w.cell? ⟨0, 8, none⟩ = some (.int .u8 15) := ht.cell 8
  have c9 : w.cell? ⟨0, 9, none⟩ = some (.int .u32 1114111) := ht.cell 9
  have c10 : w.cell? ⟨0, 10, none⟩ = some (.int .u8 240) := ht.cell 10
  have c11 : w.cell? ⟨0, 11, none⟩ = some (.int .u8 7) := ht.cell 11
  clear ht
  have x0 := idx0
  have x1 := idx1
  have x2 := idx2
  have x3 := idx3
  have hv : leadv o = .tuple #[.int .i64 3, .int .u32 ((o - 240) : Nat), .bool true] := by
    have : ld o = some (3, (o - 240)) := by unfold ld; rw [if_neg (by omega), if_neg (by omega), if_neg (by omega), if_neg (by omega), if_pos (by omega)]
    simp [leadv, this]
  have hm : bits .and .u8 (o : Int) 7 = (((o - 240) : Nat) : Int) := by rw [show (7 : Int) = ((7 : Nat) : Int) from rfl, aw o 7 ho (by omega)]; exact congrArg Nat.cast (fm3 ⟨o, ho⟩ h.1 h.2)
  rw [hv]
  clear hv
  have b0 : (bits .andNot .u8 (o : Int) 127 == 0) = false := by rw [ea0 o ho]; simp; omega
  have b1 : (bits .andNot .u8 (o : Int) 31 == 192) = false := by rw [ea1 o ho]; simp; omega
  have b2 : (bits .andNot .u8 (o : Int) 15 == 224) = false := by rw [ea2 o ho]; simp; omega
  have b3 : (bits .andNot .u8 (o : Int) 7 == 240) = true := by rw [ea3 o ho]; simp; omega
  clear h
  go_enter Tryd.func118, Tryd.ntmps118
  go_wp2
  refine wp_loop_rounds 4 ?_
  rw [rounds_succ]
  go_wp2
  rw [rounds_succ]
  go_wp2
  rw [rounds_succ]
  go_wp2
  rw [rounds_succ]
  go_wp2
  go_quiet (fail)
  go_wp2
  go_ret3
  exact ⟨rfl, drewly (newly (newly (newly (newly (Below.refl _ w) _) _) _) _) _⟩

theorem lead_4 (o : Nat) (ho : o < 256) (h : (128 ≤ o ∧ o < 192) ∨ 248 ≤ o) (w : World) (ht : Tab w) : Calls Tryd.prog 118 #[.int .u8 o] w fun e w' => e = .returned (leadv o) ∧ Below w.heap.size w w' := by
  have c0 : w.cell? ⟨0, 0, none⟩ = some (.int .u32 127) := ht.cell 0
  have c1 : w.cell? ⟨0, 1, none⟩ = some (.int .u8 0) := ht.cell 1
  have c2 : w.cell? ⟨0, 2, none⟩ = some (.int .u8 127) := ht.cell 2
  have c3 : w.cell? ⟨0, 3, none⟩ = some (.int .u32 2047) := ht.cell 3
  have c4 : w.cell? ⟨0, 4, none⟩ = some (.int .u8 192) := ht.cell 4
  have c5 : w.cell? ⟨0, 5, none⟩ = some (.int .u8 31) := ht.cell 5
  have c6 : w.cell? ⟨0, 6, none⟩ = some (.int .u32 65535) := ht.cell 6
  have c7 : w.cell? ⟨0, 7, none⟩ = some (.int .u8 224) := ht.cell 7
  have c8 : w.cell? ⟨0, 8, none⟩ = some (.int .u8 15) := ht.cell 8
  have c9 : w.cell? ⟨0, 9, none⟩ = some (.int .u32 1114111) := ht.cell 9
  have c10 : w.cell? ⟨0, 10, none⟩ = some (.int .u8 240) := ht.cell 10
  have c11 : w.cell? ⟨0, 11, none⟩ = some (.int .u8 7) := ht.cell 11
  clear ht
  have x0 := idx0
  have x1 := idx1
  have x2 := idx2
  have x3 := idx3
  have hv : leadv o = .tuple #[.int .i64 0, .int .u32 0, .bool false] := by
    have : ld o = none := by
      unfold ld
      by_cases h2 : o < 192
      · rw [if_neg (by omega), if_pos h2]
      · rw [if_neg (by omega), if_neg (by omega), if_neg (by omega), if_neg (by omega), if_neg (by omega)]
    simp [leadv, this]
  rw [hv]
  clear hv
  have b0 : (bits .andNot .u8 (o : Int) 127 == 0) = false := by rw [ea0 o ho]; simp; omega
  have b1 : (bits .andNot .u8 (o : Int) 31 == 192) = false := by rw [ea1 o ho]; simp; omega
  have b2 : (bits .andNot .u8 (o : Int) 15 == 224) = false := by rw [ea2 o ho]; simp; omega
  have b3 : (bits .andNot .u8 (o : Int) 7 == 240) = false := by rw [ea3 o ho]; simp; omega
  clear h
  go_enter Tryd.func118, Tryd.ntmps118
  go_wp2
  refine wp_loop_rounds 5 ?_
  rw [rounds_succ]
  go_wp2
  rw [rounds_succ]
  go_wp2
  rw [rounds_succ]
  go_wp2
  rw [rounds_succ]
  go_wp2
  rw [rounds_succ]
  go_wp2
  go_ret3
  exact ⟨rfl, (newly (newly (newly (newly (Below.refl _ w) _) _) _) _)⟩

theorem lead_any (o : Nat) (ho : o < 256) (w : World) (ht : Tab w) : Calls Tryd.prog 118 #[.int .u8 o] w fun e w' => e = .returned (leadv o) ∧ Below w.heap.size w w' := by
  by_cases h0 : o < 128
  · exact lead_0 o ho h0 w ht
  by_cases h1 : 192 ≤ o ∧ o < 224
  · exact lead_1 o ho h1 w ht
  by_cases h2 : 224 ≤ o ∧ o < 240
  · exact lead_2 o ho h2 w ht
  by_cases h3 : 240 ≤ o ∧ o < 248
  · exact lead_3 o ho h3 w ht
  · exact lead_4 o ho (by omega) w ht
end Go.Proofs.YtikjnbognjicdaaDoor.Utf
