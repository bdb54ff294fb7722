/-
  Blocks of bytes: what is stored into them, appended into them, and what stays. No Go in it but the builtins append and clear. No other condition.
-/
import Derived.Test.YtdjncacknmejoaaFrr
import Derived.Deep.AppendSrc
import Derived.Laws.IdiomCopy
import Derived.Lib.SliceRun
namespace Go.Proofs.Ytdjncacknmejoaa.It
set_option maxRecDepth 100000
open Go.RowKit Go.Proofs.Ytdjncacknmejoaa.Utf Go.Proofs.Ytdjncacknmejoaa.Enc Go.Proofs.Ytdjncacknmejoaa.Fr

/-- Memory that was there stays, but for the blocks of X. -/
structure Off (X : Nat → Prop) (w w' : World) : Prop where
  os : w'.os = w.os
  tape : w'.tape = w.tape
  output : w'.output = w.output
  size : w.heap.size ≤ w'.heap.size
  block : ∀ i, i < w.heap.size → ¬ X i → w'.heap[i]? = w.heap[i]?
section
variable {X Y : Nat → Prop} {w w1 w2 : World}
theorem Off.refl (X : Nat → Prop) (w : World) : Off X w w := ⟨rfl, rfl, rfl, Nat.le_refl _, fun _ _ _ => rfl⟩
theorem Off.trans (h : Off X w w1) (h' : Off X w1 w2) : Off X w w2 :=
  ⟨h'.os.trans h.os, h'.tape.trans h.tape, h'.output.trans h.output, Nat.le_trans h.size h'.size, fun i hi hx => (h'.block i (Nat.lt_of_lt_of_le hi h.size) hx).trans (h.block i hi hx)⟩
theorem Off.mono (h : Off X w w1) (hx : ∀ i, i < w.heap.size → X i → Y i) : Off Y w w1 := ⟨h.os, h.tape, h.output, h.size, fun i hi hn => h.block i hi fun hX => hn (hx i hi hX)⟩
theorem Off.of (X : Nat → Prop) (h : Below w.heap.size w w1) : Off X w w1 := ⟨h.os, h.tape, h.output, h.size, fun i hi _ => h.block i hi⟩
theorem Off.next (h : Off X w w1) (hb : Below w1.heap.size w1 w2) : Off X w w2 := h.trans (Off.of X hb)
theorem Off.below {B : Nat} (h : Off X w w1) (hB : B ≤ w.heap.size) (hx : ∀ i, i < B → ¬ X i) : Below B w w1 := ⟨h.os, h.tape, h.output, h.size, fun i hi => h.block i (Nat.lt_of_lt_of_le hi hB) (hx i hi)⟩
theorem Off.set (w : World) {g : Nat} (j : Nat) (v : Value) (hx : X g) : Off X w (w.setCell ⟨g, j, none⟩ v) := ⟨rfl, rfl, rfl, by simp, fun i _ hn => Below.heap_setCell w ⟨g, j, none⟩ v i (fun e => hn (e ▸ hx))⟩
theorem Off.drew (h : Off X w w1) : Off X w w1.drew := ⟨h.os, h.tape, h.output, h.size, h.block⟩
theorem Off.drewN (h : Off X w w1) (k : Nat) : Off X w (w1.drewN k) := ⟨h.os, h.tape, h.output, h.size, h.block⟩
theorem Off.alloc (h : Off X w w1) (o : Obj) : Off X w (w1.alloc o) := h.next ((Below.refl _ _).alloc (Nat.le_refl _) o)
theorem Off.sets {g : Nat} (hx : X g) : ∀ (l : List Value) (w : World) (j : Nat), Off X w (w.setCells g j l)
  | [], w, _ => Off.refl X w
  | v :: l, w, j => (Off.set w j v hx).trans (Off.sets hx l _ (j + 1))
theorem Off.rd {B n : Nat} {A : Option Addr} {l : List Nat} (h : Off X w w1) (hr : Rd .u8 256 w B A n l) (hx : ∀ b o, A = some ⟨b, o, none⟩ → b < w.heap.size ∧ ¬ X b) : Rd .u8 256 w1 B A n l := by
  refine ⟨hr.1, hr.2.1, fun hn => ?_⟩
  obtain ⟨b, o, e, hb, hc⟩ := hr.2.2 hn
  obtain ⟨h1, h2⟩ := hx b o e
  refine ⟨b, o, e, hb, fun k hk => ?_⟩
  rw [← hc k hk]
  simp only [World.cell?, h.block b h1 h2]
end

/-- A block of bytes. -/
structure Blk (w : World) (h : Nat) (R : List Nat) : Prop where
  row : w.heap[h]? = some (.cells (vs .u8 R).toArray 5 (0, 0))
  lim : ∀ x ∈ R, x < 256
section
variable {w w' : World} {h : Nat} {R : List Nat} {X : Nat → Prop}
theorem Blk.lt (b : Blk w h R) : h < w.heap.size := (Array.getElem?_eq_some_iff.1 b.row).1
theorem Blk.off (b : Blk w h R) (ho : Off X w w') (hx : ¬ X h) : Blk w' h R := ⟨(ho.block h b.lt hx).trans b.row, b.lim⟩
theorem Blk.call (b : Blk w h R) (hb : Below w.heap.size w w') : Blk w' h R := ⟨(hb.block h b.lt).trans b.row, b.lim⟩
theorem Blk.cell {j y : Nat} (b : Blk w h R) (hj : R[j]? = some y) : w.cell? ⟨h, j, none⟩ = some (.int .u8 (y : Int)) := by
  rw [cell_of_row w h j _ _ _ b.row]
  simp [vs, hj]
theorem Blk.frz (b : Blk w h R) (j : Nat) : w.frozen? ⟨h, j, none⟩ = false := by
  have := b.row
  simp [World.frozen?, this]
theorem Blk.rd {B o n : Nat} (b : Blk w h R) (hn : o + n ≤ R.length) (hB : h < B) : Rd .u8 256 w B (some ⟨h, o, none⟩) n ((R.drop o).take n) := by
  refine ⟨by rw [List.length_take, List.length_drop]; omega, fun x hx => b.lim x (List.mem_of_mem_drop (List.mem_of_mem_take hx)), fun _ => ⟨h, o, rfl, hB, fun k hk => ?_⟩⟩
  refine b.cell ?_
  rw [List.length_take, List.length_drop] at hk
  rw [List.getElem_take, List.getElem_drop, List.getElem?_eq_getElem]
theorem Blk.set {j y : Nat} (b : Blk w h R) (hy : y < 256) : Blk (w.setCell ⟨h, j, none⟩ (.int .u8 (y : Int))) h (R.set j y) := by
  refine ⟨?_, fun x hx => ?_⟩
  · have := b.row
    simp [World.setCell, Array.getElem?_modify, this]
    simp [vs, List.map_set]
  · rcases List.mem_or_eq_of_mem_set hx with hx | rfl
    · exact b.lim x hx
    · exact hy
theorem splice_set (R : List Nat) (k x : Nat) (l : List Nat) (hk : k < R.length) : splice (R.set k x) (k + 1) l = splice R k (x :: l) := by
  unfold splice
  have h1 : (R.set k x).take (k + 1) = R.take k ++ [x] := by
    rw [List.take_add_one, List.take_set_of_le (by omega), List.getElem?_set_self hk]
    rfl
  have h2 : (R.set k x).drop (k + 1 + l.length) = R.drop (k + (l.length + 1)) := by
    rw [List.drop_set_of_lt (by omega)]
    congr 1
    omega
  rw [h1, h2]
  simp
theorem Blk.sets : ∀ (l : List Nat) {w : World} {R : List Nat} {k : Nat}, Blk w h R → (∀ x ∈ l, x < 256) → k + l.length ≤ R.length → Blk (w.setCells h k (vs .u8 l)) h (splice R k l)
  | [], w, R, k, b, _, _ => by
    have : splice R k [] = R := by simp [splice]
    rw [this]
    exact b
  | x :: l, w, R, k, b, hl, hk => by
    rw [← splice_set R k x l (by simp at hk; omega)]
    exact Blk.sets l (b.set (hl x (by simp))) (fun y hy => hl y (by simp [hy])) (by rw [List.length_set]; simp at hk; omega)
/-- What a slice that is read yields to append. -/
theorem rd_srcs {B m d : Nat} {A : Option Addr} {l : List Nat} (hr : Rd .u8 256 w B A m l) : Src Try.prog 1 24 (.slice A m d) m (vs .u8 l) w := by
  rcases Nat.eq_zero_or_pos m with h0 | h0
  · subst h0
    have hl : l = [] := List.eq_nil_of_length_eq_zero hr.1
    subst hl
    cases A with
    | none => exact Src.ofNil w Try.underlying24 d
    | some a => exact Src.ofSlice w Try.underlying24 a 0 d [] rfl (fun j u h => by simp at h) (fun u h => by cases h)
  · obtain ⟨b, o, rfl, _, hc⟩ := hr.2.2 h0
    refine Src.ofSlice w Try.underlying24 ⟨b, o, none⟩ m d (vs .u8 l) (by rw [vs_length, hr.1, Nat.mul_one]) (fun j u hu => ?_) (vs_one _ _)
    have hj := (List.getElem?_eq_some_iff.1 hu).1
    rw [vs_length] at hj
    rw [vs_at _ _ _ hj] at hu
    injection hu with hu
    subst hu
    rw [Addr.add_lit]
    exact hc j hj
theorem run_room8 {B off n c m d : Nat} {A : Option Addr} {l : List Nat} (ty : TypeId) (b : Blk w h R) (hr : Rd .u8 256 w B A m l) (hroom : n + m ≤ c) (hfit : off + n + m ≤ R.length) :
    (Builtin.append_ #[24, 24] ty #[.slice (some ⟨h, off, none⟩) n c, .slice A m d]).run Try.prog w = .ok (.slice (some ⟨h, off, none⟩) (n + m) c) (w.setCells h (off + n) (vs .u8 l)) := by
  obtain ⟨i0, hi, hz0, hz1, hz2⟩ := info_parts info5
  have hl := hr.1
  have hs : Src Try.prog i0.size 24 (.slice A m d) m (vs .u8 l) w := hz1 ▸ rd_srcs hr
  have h1 := run_append_room_src (P := Try.prog) w 24 24 ty 5 i0 Try.underlying24 hi h off n c (.slice A m d) m (vs .u8 l) hs hroom (fun j hj => by
    rw [vs_length] at hj
    rw [hz1, Nat.mul_one, b.cell (y := (R[off + n + j]'(by omega))) (List.getElem?_eq_getElem _)]
    rfl) (fun j _ => b.frz _)
  rwa [hz1, Nat.mul_one] at h1
theorem wpList_room8 {ops : Array Oper} {rest : List Oper} {o : Oper} {a : Act} {Q : Exit → Act → World → Prop} (hgd : o.guard = none) (s x : Operand)
    (ho : o.op = .call { callee := .builtin .append, args := #[s, x], argTypes := #[24, 24] })
    {B off n c m d : Nat} {A : Option Addr} {l : List Nat} (hs : a.eval s = .slice (some ⟨h, off, none⟩) n c) (b : Blk w h R) (hx : a.eval x = .slice A m d) (hr : Rd .u8 256 w B A m l) (hroom : n + m ≤ c) (hfit : off + n + m ≤ R.length)
    (hK : ∀ w', Blk w' h (splice R (off + n) l) → Off (fun i => i = h) w w' → wpList Try.prog ops Q rest (a.put o.dst (.slice (some ⟨h, off, none⟩) (n + m) c)) w') :
    wpList Try.prog ops Q (o :: rest) a w := by
  refine wpList_plain hgd fun KK hK' => ?_
  have hrun := run_room8 (d := d) o.type b hr hroom hfit
  unfold Oper.wp execOp
  simp only [ho, resolve, invoke, builtin, Sem.run_bind, Sem.run_pure, Result.andThen_ok, List.map_toArray, List.map_cons, List.map_nil, hs, hx, hrun]
  exact hK' _ _ (hK _ (b.sets l hr.2.1 (by rw [hr.1]; omega)) (Off.sets (X := fun i => i = h) (g := h) rfl _ _ _))
theorem step_room8 {ops : Array Oper} {o : Oper} {a : Act} {K : Act → World → Prop} {Q : Exit → Act → World → Prop} {E : Prop} (hgd : o.guard = none) (s x : Operand)
    (ho : o.op = .call { callee := .builtin .append, args := #[s, x], argTypes := #[24, 24] })
    {B off n c m d : Nat} {A : Option Addr} {l : List Nat} (hs : a.eval s = .slice (some ⟨h, off, none⟩) n c) (b : Blk w h R) (hx : a.eval x = .slice A m d) (hr : Rd .u8 256 w B A m l) (hroom : n + m ≤ c) (hfit : off + n + m ≤ R.length)
    (hK : ∀ w', Blk w' h (splice R (off + n) l) → Off (fun i => i = h) w w' → K (a.put o.dst (.slice (some ⟨h, off, none⟩) (n + m) c)) w') :
    if Region.wanted o (yielded ops a.tmps) = true then Oper.wp Try.prog o a w K Q else E := by
  have hw : Region.wanted o (yielded ops a.tmps) = true := by simp [Region.wanted, hgd]
  rw [if_pos hw]
  have hrun := run_room8 (d := d) o.type b hr hroom hfit
  unfold Oper.wp execOp
  simp only [ho, resolve, invoke, builtin, Sem.run_bind, Sem.run_pure, Result.andThen_ok, List.map_toArray, List.map_cons, List.map_nil, hs, hx, hrun]
  exact hK _ (b.sets l hr.2.1 (by rw [hr.1]; omega)) (Off.sets (X := fun i => i = h) (g := h) rfl _ _ _)
end
end Go.Proofs.Ytdjncacknmejoaa.It
