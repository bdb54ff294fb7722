/-
  The walk of the statement UtfOne: of up to four bytes just those are a text that characters have. Condition, as the card has it: the table utf.shapes lies as the program's text lays it.
-/
import Derived.Test.YthplkkpcpkdbiaaDoorWh
import Derived.WideKeyArr2
namespace Go.Proofs.YthplkkpcpkdbiaaDoor.utfOne
open Go.ChangeShapes Go.WideShapes Go.ChangeAt Go.RowKit Go.Proofs.YthplkkpcpkdbiaaDoor.Utf

theorem len41 : Tryd.prog.arrayLen 41 = 4 := by kernel_rfl
theorem elem41 : Tryd.prog.elem 41 = 5 := by kernel_rfl
theorem under41 : Tryd.prog.underlying 41 = some (.array (Tryd.prog.arrayLen 41) (Tryd.prog.elem 41)) := by rw [len41, elem41]; exact Tryd.underlying41

theorem cut4 (g k : Nat) (hk : k ≤ 4) (W : World) : (Instr.sliceAt 41 (.pointer (some ⟨g, 0, none⟩)) none (some (.int .i64 (k : Int))) none).run Tryd.prog W = .ok (.slice (some ⟨g, 0, none⟩) k 4) W := by
  rw [run_sliceAt_array_h (P := Tryd.prog) (w := W) 41 ⟨g, 0, none⟩ under41 .i64 (k : Int) (by omega) (by rw [len41]; omega), elem41, size5]
  simp [Result.andThen, slicedAt, Addr.add, len41]

theorem rd_box (w : World) (l : List Nat) (n : Nat) (T : TypeId) (hn : l.length = n) (hl : ∀ x ∈ l, x < 256) : Rd .u8 256 (w.alloc (.cells (vs .u8 l).toArray T)) (w.heap.size + 1) (some ⟨w.heap.size, 0, none⟩) n l := by
  refine ⟨hn, hl, fun _ => ⟨w.heap.size, 0, rfl, by omega, fun k hk => ?_⟩⟩
  have h := heap_alloc_new w (.cells (vs .u8 l).toArray T)
  unfold World.cell?
  dsimp only
  rw [h]
  simp [vs, List.getElem?_eq_getElem hk]

theorem whole_true (A : Option Addr) (n c : Nat) (l cs : List Nat) (w : World) (hr : Rd .u8 256 w w.heap.size A n l) (hnc : n ≤ c) (hn : n ≤ 1073741824) (hT : IsT l cs) :
    Calls Tryd.prog 24 #[.slice A n c] w fun e w' => e = .returned (.bool true) ∧ Below w.heap.size w w' := by
  refine (whole_any A n c l w hr hnc hn).mono ?_
  rintro e w' ⟨p, rfl, h, hb⟩
  rw [h.yes hT]
  exact ⟨rfl, hb⟩
theorem whole_false (A : Option Addr) (n c : Nat) (l : List Nat) (w : World) (hr : Rd .u8 256 w w.heap.size A n l) (hnc : n ≤ c) (hn : n ≤ 1073741824) (hT : NoT l) :
    Calls Tryd.prog 24 #[.slice A n c] w fun e w' => e = .returned (.bool false) ∧ Below w.heap.size w w' := by
  refine (whole_any A n c l w hr hnc hn).mono ?_
  rintro e w' ⟨p, rfl, h, hb⟩
  rw [h.no hT]
  exact ⟨rfl, hb⟩

theorem walk (x0 x1 x2 x3 X : Nat) (w : World) (ht : Tab w) (h0 : x0 < 256) (h1 : x1 < 256) (h2 : x2 < 256) (h3 : x3 < 256) (hX : X < 256) :
    Calls Tryd.prog 9 #[.agg #[.int .u8 x0, .int .u8 x1, .int .u8 x2, .int .u8 x3], .int .u8 X] w fun e w' => e = .returned (.bool true) ∧ Below w.heap.size w w' := by
  obtain ⟨k, hk, hk5⟩ : ∃ k : Nat, (X : Int).tmod 5 = (k : Int) ∧ k < 5 := ⟨X % 5, by rw [Int.tmod_eq_emod_of_nonneg (Int.natCast_nonneg X)]; omega, by omega⟩
  have hk' : (X : Int) % 5 = (k : Int) := by rw [← hk, Int.tmod_eq_emod_of_nonneg (Int.natCast_nonneg X)]
  have hr := (rd_box w [x0, x1, x2, x3] 4 41 rfl (by simp; omega)).take (k := k) (by omega)
  have ht1 := ht.alloc (.cells (vs .u8 [x0, x1, x2, x3]).toArray 41)
  have hb1 : Below w.heap.size w (w.alloc (.cells (vs .u8 [x0, x1, x2, x3]).toArray 41)) := (Below.refl _ _).alloc (Nat.le_refl _) _
  have hr1 : Rd .u8 256 (w.alloc (.cells (vs .u8 [x0, x1, x2, x3]).toArray 41)) (w.alloc (.cells (vs .u8 [x0, x1, x2, x3]).toArray 41)).heap.size (some ⟨w.heap.size, 0, none⟩) k ([x0, x1, x2, x3].take k) := hr.mono (by simp)
  have hc := cut4 w.heap.size k (by omega) (w.alloc (.cells #[.int .u8 x0, .int .u8 x1, .int .u8 x2, .int .u8 x3] 41))
  clear hr h0 h1 h2 h3
  generalize [x0, x1, x2, x3].take k = l at *
  rcases yes_or_no l with ⟨cs, hT⟩ | hT
  · go_enter Tryd.func9, Tryd.ntmps9
    go_wp2_with (first
      | (go_at_call 15; refine (right_true _ k 4 l cs (w.alloc (.cells (vs .u8 [x0, x1, x2, x3]).toArray 41)) ht1 hr1 (by omega) (by omega) hT).mono ?_; rintro e w2 ⟨rfl, hb2⟩; have hb2' := hb1.trans (hb2.mono hb1.size); have hr2 := hr1.call hb2)
      | (go_at_call 24; refine (whole_true _ k 4 l cs w2 hr2 (by omega) (by omega) hT).mono ?_; rintro e w3 ⟨rfl, hb3⟩; have hb3' := hb2'.trans (hb3.mono hb2'.size); have ht3 := ht.call hb3')
      | (go_at_call 10; refine (works_any w3 ht3).mono ?_; rintro e w4 ⟨rfl, hb4⟩))
    go_ret
    exact ⟨rfl, hb3'.trans (hb4.mono hb3'.size)⟩
  · go_enter Tryd.func9, Tryd.ntmps9
    go_wp2_with (first
      | (go_at_call 15; refine (right_false _ k 4 l (w.alloc (.cells (vs .u8 [x0, x1, x2, x3]).toArray 41)) ht1 hr1 (by omega) (by omega) hT).mono ?_; rintro e w2 ⟨rfl, hb2⟩; have hb2' := hb1.trans (hb2.mono hb1.size); have hr2 := hr1.call hb2)
      | (go_at_call 24; refine (whole_false _ k 4 l w2 hr2 (by omega) (by omega) hT).mono ?_; rintro e w3 ⟨rfl, hb3⟩; have hb3' := hb2'.trans (hb3.mono hb2'.size); have ht3 := ht.call hb3')
      | (go_at_call 10; refine (works_any w3 ht3).mono ?_; rintro e w4 ⟨rfl, hb4⟩))
    go_ret
    exact ⟨rfl, hb3'.trans (hb4.mono hb3'.size)⟩

theorem arr41 : WideMaps.ArrKey Tryd.prog 41 5 4 := ⟨Tryd.underlying41, by kernel_rfl, cells5, by kernel_rfl⟩

theorem open_four {H : Type} {enc : TypeId × Value → H} {W : World} {r : Reach} {b0 : Nat} {v : Value} {d : DataW H} {p : List MemPlace} (hval : Value.okWide Tryd.prog W r b0 41 v) (h : DataW.Trod enc Tryd.prog W 0 (fun _ => true) true 41 v d p) :
    ∃ x0 x1 x2 x3 : Nat, v = .agg #[.int .u8 x0, .int .u8 x1, .int .u8 x2, .int .u8 x3] ∧ x0 < 256 ∧ x1 < 256 ∧ x2 < 256 ∧ x3 < 256 := by
  obtain ⟨xs, rfl, hxs⟩ := WideMaps.okWide_arr arr41 hval
  obtain ⟨fuel, hf⟩ := h
  obtain ⟨ys, m, _, _, _, hn, hel⟩ := DataW.trod_array Tryd.underlying41 hf
  simp only [cells5] at hel
  have one : ∀ (a : Value) (y : DataW H × List MemPlace), DataW.trod enc Tryd.prog W 0 (fun _ => true) true m 5 [a] = some y → ∃ z : Nat, a = .int .u8 z ∧ z < 256 := fun a y hy => by
    obtain ⟨z, e, _, hw⟩ := DataW.trod_int Tryd.underlying5 hy
    simp at e
    obtain ⟨hz0, hz⟩ := u8_of_wf hw
    exact ⟨z.toNat, by rw [e, Int.toNat_of_nonneg hz0], hz⟩
  have q0 := hel 0 (by decide)
  have q1 := hel 1 (by decide)
  have q2 := hel 2 (by decide)
  have q3 := hel 3 (by decide)
  obtain ⟨l0⟩ := xs
  clear hel hval hf
  match l0, hxs, ys, hn, q0, q1, q2, q3 with
  | [a0, a1, a2, a3], _, [y0, y1, y2, y3], _, q0, q1, q2, q3 =>
    obtain ⟨z0, rfl, l0⟩ := one a0 y0 q0
    obtain ⟨z1, rfl, l1⟩ := one a1 y1 q1
    obtain ⟨z2, rfl, l2⟩ := one a2 y2 q2
    obtain ⟨z3, rfl, l3⟩ := one a3 y3 q3
    exact ⟨z0, z1, z2, z3, rfl, l0, l1, l2, l3⟩
end Go.Proofs.YthplkkpcpkdbiaaDoor.utfOne
