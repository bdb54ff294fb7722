/-
  Fields in memory, and contracts of the program's Has, Spoil, Done and of what asks them. Memory that was there stays, but for the block of the fields. No other condition.
-/
import Derived.Test.YtohmnbefokhjpaaDoorMade
import Derived.BigQuiet
import Derived.Deep.QuietTactic
namespace Go.Proofs.YtohmnbefokhjpaaDoor.Fl
set_option maxRecDepth 100000
open Go.RowKit Go.Proofs.YtohmnbefokhjpaaDoor.Utf Go.Proofs.YtohmnbefokhjpaaDoor.Val V

/-- Memory that was there stays, but for the blocks of X. -/
structure Off (X : Nat → Prop) (w w' : World) : Prop where
  os : w'.os = w.os
  tape : w'.tape = w.tape
  output : w'.output = w.output
  size : w.heap.size ≤ w'.heap.size
  block : ∀ i, i < w.heap.size → ¬ X i → w'.heap[i]? = w.heap[i]?
section
variable {X Y : Nat → Prop} {w w1 w2 : World}
theorem Off.refl (X : Nat → Prop) (w : World) : Off X w w := ⟨rfl, rfl, rfl, Nat.le_refl _, fun _ _ _ => rfl⟩
theorem Off.trans (h : Off X w w1) (h' : Off X w1 w2) : Off X w w2 :=
  ⟨h'.os.trans h.os, h'.tape.trans h.tape, h'.output.trans h.output, Nat.le_trans h.size h'.size, fun i hi hx => (h'.block i (Nat.lt_of_lt_of_le hi h.size) hx).trans (h.block i hi hx)⟩
theorem Off.mono (h : Off X w w1) (hx : ∀ i, X i → Y i) : Off Y w w1 := ⟨h.os, h.tape, h.output, h.size, fun i hi hn => h.block i hi fun hX => hn (hx i hX)⟩
theorem Off.of (X : Nat → Prop) (h : Below w.heap.size w w1) : Off X w w1 := ⟨h.os, h.tape, h.output, h.size, fun i hi _ => h.block i hi⟩
theorem Off.next (h : Off X w w1) (hb : Below w1.heap.size w1 w2) : Off X w w2 := h.trans (Off.of X hb)
theorem Off.below {B : Nat} (h : Off X w w1) (hB : B ≤ w.heap.size) (hx : ∀ i, i < B → ¬ X i) : Below B w w1 := ⟨h.os, h.tape, h.output, h.size, fun i hi => h.block i (Nat.lt_of_lt_of_le hi hB) (hx i hi)⟩
theorem Off.set (w : World) {g : Nat} (j : Nat) (v : Value) (hx : X g) : Off X w (w.setCell ⟨g, j, none⟩ v) := ⟨rfl, rfl, rfl, by simp, fun i _ hn => Below.heap_setCell w ⟨g, j, none⟩ v i (fun e => hn (e ▸ hx))⟩
end

/-- Fields: those of a list, and whether something is wrong. They lie at block g; what they hold lies in no block of X. -/
structure Fld (T : TypeId) (X : Nat → Prop) (w : World) (g : Nat) (ls : List V) (A : Option Addr) (l c : Nat) (sp : Bool) : Prop where
  obj : w.heap[g]? = some (.cells #[.slice A l c, .bool sp] T (0, 0))
  kd : Go.Proofs.YtohmnbefokhjpaaDoor.Val.Kids false w (fun i => i < w.heap.size ∧ ¬ X i) ls A l c
  mem : X g
section
variable {T : TypeId} {X Y : Nat → Prop} {w w1 : World} {g : Nat} {ls : List V} {A : Option Addr} {l c : Nat} {sp : Bool}
theorem Fld.lt (h : Fld T X w g ls A l c sp) : g < w.heap.size := (Array.getElem?_eq_some_iff.1 h.obj).1
theorem Fld.fkd (h : Fld T X w g ls A l c sp) : Kd w ls A l c := h.kd.mono fun _ hi => hi.1
theorem Fld.off (h : Fld T X w g ls A l c sp) (ho : Off Y w w1) (hY : ∀ i, Y i → X i) (hg : ¬ Y g) : Fld T X w1 g ls A l c sp :=
  ⟨(ho.block g h.lt hg).trans h.obj, (h.kd.keep fun i hi => ho.block i hi.1 fun hy => hi.2 (hY i hy)).mono fun _ hi => ⟨Nat.lt_of_lt_of_le hi.1 ho.size, hi.2⟩, h.mem⟩
theorem Fld.call (h : Fld T X w g ls A l c sp) (hb : Below w.heap.size w w1) : Fld T X w1 g ls A l c sp := h.off (Y := fun _ => False) (Off.of _ hb) (fun _ h => h.elim) (fun h => h)
theorem Fld.spoil (h : Fld T X w g ls A l c sp) : Fld T X (w.setCell ⟨g, 1, none⟩ (.bool true)) g ls A l c true := by
  refine ⟨?_, (h.kd.keep fun i hi => Below.heap_setCell w ⟨g, 1, none⟩ _ i (fun e => hi.2 (e ▸ h.mem))).mono fun _ hi => ⟨by simpa using hi.1, hi.2⟩, h.mem⟩
  have := h.obj
  simp [World.setCell, Array.getElem?_modify, this]
theorem Fld.cells (h : Fld T X w g ls A l c sp) : w.cell? ⟨g, 0, none⟩ = some (.slice A l c) ∧ w.cell? ⟨g, 1, none⟩ = some (.bool sp) ∧ ∀ j, w.frozen? ⟨g, j, none⟩ = false := by
  refine ⟨cell_of_row w g 0 _ _ _ h.obj, cell_of_row w g 1 _ _ _ h.obj, fun j => ?_⟩
  simp [World.frozen?, h.obj]
end

/-- What is asked at a place: the value that stands there, if it says something. -/
def ask (ls : List V) (i : Int) : Option V := if 0 ≤ i then (ls[i.toNat]?).filter (fun v => v.kind != 1) else none
theorem ask_neg {ls : List V} {i : Int} (h : i < 0) : ask ls i = none := if_neg (by omega)
theorem ask_far {ls : List V} {j : Nat} (h : ls.length ≤ j) : ask ls (j : Int) = none := by
  unfold ask
  rw [if_pos (by omega), Int.toNat_natCast, List.getElem?_eq_none h]; rfl
theorem ask_null {ls : List V} {j n : Nat} {t : ByteArray} {ks : List V} (h : ls[j]? = some (.mk 1 n t ks)) : ask ls (j : Int) = none := by
  unfold ask
  rw [if_pos (by omega), Int.toNat_natCast, h]; rfl
theorem ask_there {ls : List V} {j k n : Nat} {t : ByteArray} {ks : List V} (h : ls[j]? = some (.mk k n t ks)) (hk : k ≠ 1) : ask ls (j : Int) = some (.mk k n t ks) := by
  unfold ask
  rw [if_pos (by omega), Int.toNat_natCast, h]
  simp [Option.filter, V.kind, hk]
/-- An element, and that it says something or nothing. -/
theorem ask_some {ls : List V} {i : Int} {v : V} (h : ask ls i = some v) : ∃ j : Nat, i = (j : Int) ∧ j < ls.length ∧ ls[j]? = some v ∧ v.kind ≠ 1 := by
  unfold ask at h
  by_cases hi : 0 ≤ i
  · rw [if_pos hi] at h
    obtain ⟨h1, h2⟩ := Option.filter_eq_some_iff.1 h
    refine ⟨i.toNat, by omega, (List.getElem?_eq_some_iff.1 h1).1, h1, by simpa using h2⟩
  · rw [if_neg hi] at h; cases h
theorem ask_bulk {ls : List V} {i : Int} {v : V} (h : ask ls i = some v) : bulk v ≤ bulkL ls := by
  obtain ⟨j, _, _, h, _⟩ := ask_some h
  exact at_bulk h

section
variable {T : TypeId} {X : Nat → Prop} {w : World} {g : Nat} {ls : List V} {A : Option Addr} {l c : Nat} {sp : Bool}

theorem isnull_any (k n : Nat) (t : ByteArray) (A : Option Addr) (l c : Nat) (w : World) : Calls Tryd.prog 29 #[.agg #[.int .u8 (k : Int), .int .u64 (n : Int), .string t, .slice A l c]] w (GivesB (decide (k = 1)) w) := by
  obtain ⟨d, hd⟩ : ∃ d, decide (k = 1) = d := ⟨_, rfl⟩
  have hd' : ((k : Int) == 1) = d := by rw [← hd]; by_cases h : k = 1 <;> simp [h] <;> omega
  rw [hd]
  clear hd
  go_enter Tryd.func29, Tryd.ntmps29
  go_wp2
  go_ret
  exact ⟨rfl, (Below.refl _ _).alloc (Nat.le_refl _) _⟩

theorem has_any (h : Fld 63 X w g ls A l c sp) (i : Int) : Calls Tryd.prog 53 #[.pointer (some ⟨g, 0, none⟩), .int .i64 i] w (GivesB (ask ls i).isSome w) := by
  obtain ⟨a0, a1, _⟩ := h.cells
  have hl := h.fkd.len
  by_cases h0 : i < 0
  · rw [ask_neg h0]
    have hd : decide (0 ≤ i) = false := decide_eq_false (by omega)
    clear h0 h hl
    go_enter Tryd.func53, Tryd.ntmps53
    go_wp2
    go_ret
    exact ⟨rfl, Below.refl _ _⟩
  · obtain ⟨j, rfl⟩ : ∃ j : Nat, i = (j : Int) := ⟨i.toNat, by omega⟩
    have hd : decide (0 ≤ (j : Int)) = true := decide_eq_true (by omega)
    by_cases h1 : j < l
    · obtain ⟨b, o, k, n, t, ks, A', l', c', rfl, hb, hx, e0, e1, e2, e3, hk, hn, hK⟩ := h.fkd.at_ h1
      have hr : (ask ls (j : Int)).isSome = !decide (k = 1) := by
        by_cases hk1 : k = 1
        · subst hk1; rw [ask_null hx]; rfl
        · rw [ask_there hx hk1]; simp [hk1]
      rw [hr]
      obtain ⟨d, hd1⟩ : ∃ d, decide (k = 1) = d := ⟨_, rfl⟩
      have HN := isnull_any k n t A' l' c' w
      rw [hd1] at HN ⊢
      have HH := Lib.hid HN
      clear h0 h hl hr hx hd1 HN hk hn hK hb
      go_enter Tryd.func53, Tryd.ntmps53
      go_wp2_with (go_at_call 29; refine HH.out.mono ?_; rintro e w1 ⟨rfl, hb1⟩)
      go_ret
      exact ⟨rfl, hb1⟩
    · rw [ask_far (by omega)]
      clear h0 h hl
      go_enter Tryd.func53, Tryd.ntmps53
      go_wp2
      go_ret
      exact ⟨rfl, Below.refl _ _⟩
theorem has_nil (i : Int) (w : World) : Calls Tryd.prog 53 #[.pointer none, .int .i64 i] w (GivesB false w) := by
  go_enter Tryd.func53, Tryd.ntmps53
  go_wp2
  go_ret
  exact ⟨rfl, Below.refl _ _⟩
theorem spoil_any (h : Fld 63 X w g ls A l c sp) : Calls Tryd.prog 39 #[.pointer (some ⟨g, 0, none⟩)] w fun e w' => (∃ v, e = .returned v) ∧ w.setCell ⟨g, 1, none⟩ (.bool true) = w' := by
  obtain ⟨a0, a1, hf⟩ := h.cells
  clear h
  go_enter Tryd.func39, Tryd.ntmps39
  go_wp2
  go_end0
  exact ⟨⟨_, rfl⟩, rfl⟩
theorem spoil_nil (w : World) : Calls Tryd.prog 39 #[.pointer none] w fun e w' => (∃ v, e = .returned v) ∧ w = w' := by
  go_enter Tryd.func39, Tryd.ntmps39
  go_wp2
  go_end0
  exact ⟨⟨_, rfl⟩, rfl⟩
/-- What Done answers. -/
def doneN (ls : List V) (sp : Bool) (n : Int) : Int := if sp = true ∨ n < (ls.length : Int) then 6 else 0
theorem done_any (h : Fld 63 X w g ls A l c sp) (n : Int) : Calls Tryd.prog 18 #[.pointer (some ⟨g, 0, none⟩), .int .i64 n] w fun e w' => e = .returned (.int .i64 (doneN ls sp n)) ∧ w = w' := by
  obtain ⟨a0, a1, hf⟩ := h.cells
  unfold doneN
  rw [← h.fkd.len]
  clear h hf
  cases sp with
  | true =>
    rw [if_pos (.inl rfl)]
    go_enter Tryd.func18, Tryd.ntmps18
    go_wp2
    go_ret
    exact ⟨rfl, rfl⟩
  | false =>
    by_cases hn : n < (l : Int)
    · rw [if_pos (.inr hn)]
      have hd : decide (n < (l : Int)) = true := decide_eq_true hn
      clear hn
      go_enter Tryd.func18, Tryd.ntmps18
      go_wp2
      go_ret
      exact ⟨rfl, rfl⟩
    · rw [if_neg (by simp [hn])]
      have hd : decide (n < (l : Int)) = false := decide_eq_false hn
      clear hn
      go_enter Tryd.func18, Tryd.ntmps18
      go_wp2
      go_ret
      exact ⟨rfl, rfl⟩
theorem done_nil (n : Int) (w : World) : Calls Tryd.prog 18 #[.pointer none, .int .i64 n] w fun e w' => e = .returned (.int .i64 2) ∧ w = w' := by
  go_enter Tryd.func18, Tryd.ntmps18
  go_wp2
  go_ret
  exact ⟨rfl, rfl⟩
end
end Go.Proofs.YtohmnbefokhjpaaDoor.Fl
