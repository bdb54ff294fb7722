/-
  A table in memory: its own block, and the map that it leads to. Memory that was there stays, but for the blocks of X. No other condition.
-/
import Derived.Test.YtnbofokdhkoglaaEq
import Derived.Test.YtnbofokdhkoglaaTbq
import Derived.Maps.OwnSet
import Derived.Maps.Range
namespace Go.Proofs.Ytnbofokdhkoglaa.Tb
set_option maxRecDepth 100000
open Go.RowKit Go.Proofs.Ytnbofokdhkoglaa.Utf Go.ChangeMaps Go.MapKept Go.WideShapes

/-- Memory that was there stays, but for the blocks of X. -/
structure Off (X : Nat → Prop) (w w' : World) : Prop where
  os : w'.os = w.os
  tape : w'.tape = w.tape
  output : w'.output = w.output
  size : w.heap.size ≤ w'.heap.size
  block : ∀ i, i < w.heap.size → ¬ X i → w'.heap[i]? = w.heap[i]?
section
variable {X Y : Nat → Prop} {w w1 w2 : World}
theorem Off.refl (X : Nat → Prop) (w : World) : Off X w w := ⟨rfl, rfl, rfl, Nat.le_refl _, fun _ _ _ => rfl⟩
theorem Off.trans (h : Off X w w1) (h' : Off X w1 w2) : Off X w w2 :=
  ⟨h'.os.trans h.os, h'.tape.trans h.tape, h'.output.trans h.output, Nat.le_trans h.size h'.size, fun i hi hx => (h'.block i (Nat.lt_of_lt_of_le hi h.size) hx).trans (h.block i hi hx)⟩
theorem Off.mono (h : Off X w w1) (hx : ∀ i, i < w.heap.size → X i → Y i) : Off Y w w1 := ⟨h.os, h.tape, h.output, h.size, fun i hi hn => h.block i hi fun hX => hn (hx i hi hX)⟩
theorem Off.of (X : Nat → Prop) (h : Below w.heap.size w w1) : Off X w w1 := ⟨h.os, h.tape, h.output, h.size, fun i hi _ => h.block i hi⟩
theorem Off.next (h : Off X w w1) (hb : Below w1.heap.size w1 w2) : Off X w w2 := h.trans (Off.of X hb)
theorem Off.below {B : Nat} (h : Off X w w1) (hB : B ≤ w.heap.size) (hx : ∀ i, i < B → ¬ X i) : Below B w w1 := ⟨h.os, h.tape, h.output, h.size, fun i hi => h.block i (Nat.lt_of_lt_of_le hi hB) (hx i hi)⟩
theorem Off.set (w : World) {g : Nat} (j : Nat) (v : Value) (hx : X g) : Off X w (w.setCell ⟨g, j, none⟩ v) := ⟨rfl, rfl, rfl, by simp, fun i _ hn => Below.heap_setCell w ⟨g, j, none⟩ v i (fun e => hn (e ▸ hx))⟩
theorem Off.alloc (h : Off X w w1) (o : Obj) : Off X w (w1.alloc o) := h.next ((Below.refl _ _).alloc (Nat.le_refl _) o)
theorem Off.turned {b : Nat} (h : w.mapTurned w1 b) (hx : X b) : Off X w w1 := by
  have g := h.grown
  refine ⟨?_, ?_, ?_, g.size, fun i hi hn => g.block i hi fun e => hn (by injection e with e; exact e ▸ hx)⟩
  all_goals
    obtain ⟨_, _, _, _, _, rfl⟩ := h
    rfl
end
theorem ba {a w : World} (h : Below a.heap.size a w) (o : Obj) : Below a.heap.size a (w.alloc o) := h.alloc h.size o
theorem bn {a w w' : World} (h : Below a.heap.size a w) (h' : Below w.heap.size w w') : Below a.heap.size a w' := h.trans (h'.mono h.size)

/-- Memory below B stays, whatever is done with a table that lies above it. -/
theorem Off.bo {B p b : Nat} {w w1 : World} (h : Off (fun i => i = p ∨ i = b) w w1) (hB : B ≤ w.heap.size) (hp : B ≤ p) (hq : B ≤ b) : Below B w w1 := h.below hB fun i hi hx => by rcases hx with rfl | rfl <;> omega
theorem bt {B : Nat} {w0 w w1 : World} (hb : Below B w0 w) (hB : B ≤ w.heap.size) (h : Below w.heap.size w w1) : Below B w0 w1 := hb.trans (h.mono hB)
theorem lawI : Go.Maps.Keyed Try.prog 3 := Go.Maps.int_keyed Try.underlying3
theorem zeroU (w : World) : (zeroValue 53).run Try.prog w = .ok (.agg #[]) w := by kernel_rfl

theorem map_at {H : Type} {P : Program} {k : TypeId} {R : Value → Option (DataW H × List MemPlace)} {w w' : World} {b n : Nat} {D : DataW H} (h : w.ownsMap P k R b n D) (hb : w'.heap[b]? = w.heap[b]?) : w'.ownsMap P k R b n D := by
  obtain ⟨es, clock, hh, r⟩ := h
  exact ⟨es, clock, hb.trans hh, r⟩
theorem map_tight {H : Type} {P : Program} {k : TypeId} {R : Value → Option (DataW H × List MemPlace)} {w : World} {b n : Nat} {D : DataW H} (h : w.ownsMap P k R b n D) : w.ownsMap P k R b (Go.Maps.size D) D := by
  obtain ⟨es, clock, hb, F, hs, rfl⟩ := h
  refine ⟨es, clock, hb, F, ?_, rfl⟩
  simp [Go.Maps.size, length_sorted]

/-- A table whose own block is p, whose map is b, of the numbers of L. -/
structure Tin (w : World) (p b : Nat) (L : List Bool) : Prop where
  obj : ∃ lo : Nat, w.heap[p]? = some (.cells #[.int .i64 ((L.length : Int) - 1), .map (some b), .int .i64 (lo : Int)] 50 (0, 0)) ∧ lo ≤ lowT L
  own : ∃ D, w.ownsMap Try.prog 3 (unitElem (H := Unit)) b (allT L).length D ∧ ∀ x : Int, Go.Maps.has D (.int .i64 x) = hasT L x
  ne : p ≠ b
  lo : 1 ≤ L.length
  hi : L.length ≤ 65536
def Xp (p b i : Nat) : Prop := i = p ∨ i = b
section
variable {w w' : World} {p b : Nat} {L : List Bool} {X : Nat → Prop}
theorem Tin.plt (t : Tin w p b L) : p < w.heap.size := by obtain ⟨_, h, _⟩ := t.obj; exact (Array.getElem?_eq_some_iff.1 h).1
theorem Tin.blt (t : Tin w p b L) : b < w.heap.size := by obtain ⟨_, h, _⟩ := t.own; exact h.lt
theorem Tin.off (t : Tin w p b L) (ho : Off X w w') (hp : ¬ X p) (hb : ¬ X b) : Tin w' p b L := by
  obtain ⟨lo, h, hl⟩ := t.obj
  obtain ⟨D, h1, h2⟩ := t.own
  exact ⟨⟨lo, (ho.block p t.plt hp).trans h, hl⟩, ⟨D, map_at h1 (ho.block b t.blt hb), h2⟩, t.ne, t.lo, t.hi⟩
theorem Tin.call (t : Tin w p b L) (hb : Below w.heap.size w w') : Tin w' p b L := t.off (X := fun _ => False) (Off.of _ hb) id id
/-- The keys of a set that has just the numbers of L. -/
theorem keys_of {D : DataW Unit} {n : Nat} (h : w.ownsMap Try.prog 3 (unitElem (H := Unit)) b n D) (hh : ∀ x : Int, Go.Maps.has D (.int .i64 x) = hasT L x) : (intT L).Perm (intKeys D) := by
  obtain ⟨es, hD, hpw, _⟩ := h.entries lawI
  obtain ⟨es', hD', hko⟩ := h.keysOf
  obtain rfl : es = es' := by rw [hD] at hD'; simpa using hD'
  subst hD
  exact perm_intKeys hpw (fun p hp => by obtain ⟨v, hv⟩ := hko p hp; obtain ⟨x, _, hx, _⟩ := Go.Maps.keyOf_i64 Try.underlying3 hv; exact ⟨x, hx⟩) (int_nodup L) (fun x => by rw [hh x, mem_int])
theorem size_of {D : DataW Unit} {n : Nat} (h : w.ownsMap Try.prog 3 (unitElem (H := Unit)) b n D) (hh : ∀ x : Int, Go.Maps.has D (.int .i64 x) = hasT L x) : Go.Maps.size D = (allT L).length := by
  have h1 := (keys_of h hh).length_eq
  rw [int_len] at h1
  rw [h1]
  obtain ⟨es, rfl⟩ := h.isMap
  simp [intKeys, Go.Maps.size]
theorem own_of {D : DataW Unit} {n : Nat} (h : w.ownsMap Try.prog 3 (unitElem (H := Unit)) b n D) (hh : ∀ x : Int, Go.Maps.has D (.int .i64 x) = hasT L x) : ∃ D, w.ownsMap Try.prog 3 (unitElem (H := Unit)) b (allT L).length D ∧ ∀ x : Int, Go.Maps.has D (.int .i64 x) = hasT L x :=
  ⟨D, size_of h hh ▸ map_tight h, hh⟩
/-- What a walk wants of a table. -/
theorem Tin.all (t : Tin w p b L) : ∃ (lo : Nat) (D : DataW Unit) (n : Nat), w.cell? ⟨p, 0, none⟩ = some (.int .i64 ((L.length : Int) - 1)) ∧ w.cell? ⟨p, 1, none⟩ = some (.map (some b)) ∧ w.cell? ⟨p, 2, none⟩ = some (.int .i64 (lo : Int)) ∧
    w.ownsMap Try.prog 3 (unitElem (H := Unit)) b n D ∧ n < maxLen ∧ Hid (w.heap[p]? = some (.cells #[.int .i64 ((L.length : Int) - 1), .map (some b), .int .i64 (lo : Int)] 50 (0, 0)) ∧ lo ≤ lowT L ∧ ∀ x : Int, Go.Maps.has D (.int .i64 x) = hasT L x) := by
  obtain ⟨lo, h, hl⟩ := t.obj
  obtain ⟨D, h1, h2⟩ := t.own
  refine ⟨lo, D, _, cell_of_row _ _ 0 _ _ _ h, cell_of_row _ _ 1 _ _ _ h, cell_of_row _ _ 2 _ _ _ h, h1, ?_, Lib.hid ⟨h, hl, h2⟩⟩
  have := all_len L
  have := t.hi
  unfold maxLen
  omega
/-- The table behind a number that is put into its map. -/
theorem Tin.put {w0 w2 : World} {D : DataW Unit} {i n lo : Nat} (t : Tin w0 p b L) (hb : Below w0.heap.size w0 w) (hi : i < L.length) (hf : w.heap[p]? = some (.cells #[.int .i64 ((L.length : Int) - 1), .map (some b), .int .i64 (lo : Int)] 50 (0, 0)) ∧ lo ≤ lowT L ∧ ∀ x : Int, Go.Maps.has D (.int .i64 x) = hasT L x)
    (hm : Go.Maps.IsMap D) (h2 : w2.ownsMap Try.prog 3 (unitElem (H := Unit)) b n (D.put (.int .i64 (i : Int)) (.agg []))) (ht : w.mapTurned w2 b) : Tin w2 p b (L.set i true) ∧ Off (Xp p b) w0 w2 := by
  obtain ⟨h, hlo, hD⟩ := hf
  have hne := t.ne
  have hp : p < w.heap.size := Nat.lt_of_lt_of_le t.plt hb.size
  have hh : ∀ x : Int, Go.Maps.has (D.put (.int .i64 (i : Int)) (.agg [])) (.int .i64 x) = hasT (L.set i true) x := fun x => by
    rw [hasT_set hi]
    by_cases hx : x = (i : Int)
    · subst hx
      rw [if_pos rfl, Go.Maps.has_put_same hm (by simp [WideAt.IsKeyLit])]
    · rw [if_neg hx, Go.Maps.has_put_other (fun e => hx (by injection e)), hD]
  refine ⟨⟨⟨lo, ?_, ?_⟩, own_of h2 hh, hne, by rw [List.length_set]; exact t.lo, by rw [List.length_set]; exact t.hi⟩, (Off.of _ hb).trans (Off.turned ht (Or.inr rfl))⟩
  · rw [ht.grown.block p hp (fun e => hne (by injection e)), List.length_set]
    exact h
  · refine low_lt fun j hj => ?_
    rw [hasT_set hi]
    split
    · rfl
    · exact low_has (Nat.lt_of_lt_of_le hj hlo)
/-- .. that is taken out of it; the lowest is told anew. -/
theorem Tin.del {w0 w2 : World} {D : DataW Unit} {i n lo : Nat} (t : Tin w0 p b L) (hb : Below w0.heap.size w0 w) (hi : i < L.length) (hf : w.heap[p]? = some (.cells #[.int .i64 ((L.length : Int) - 1), .map (some b), .int .i64 (lo : Int)] 50 (0, 0)) ∧ lo ≤ lowT L ∧ ∀ x : Int, Go.Maps.has D (.int .i64 x) = hasT L x)
    (h2 : w2.ownsMap Try.prog 3 (unitElem (H := Unit)) b n (D.del (.int .i64 (i : Int)))) (ht : w.mapTurned w2 b) : Tin (w2.setCell ⟨p, 2, none⟩ (.int .i64 ((min lo i : Nat) : Int))) p b (L.set i false) ∧ Off (Xp p b) w0 (w2.setCell ⟨p, 2, none⟩ (.int .i64 ((min lo i : Nat) : Int))) := by
  obtain ⟨h, hlo, hD⟩ := hf
  have hne := t.ne
  have hp : p < w.heap.size := Nat.lt_of_lt_of_le t.plt hb.size
  have hh : ∀ x : Int, Go.Maps.has (D.del (.int .i64 (i : Int))) (.int .i64 x) = hasT (L.set i false) x := fun x => by
    rw [hasT_set hi]
    by_cases hx : x = (i : Int)
    · subst hx
      rw [if_pos rfl, Go.Maps.has_del_same]
    · rw [if_neg hx, Go.Maps.has_del_other (fun e => hx (by injection e)), hD]
  have hobj : w2.heap[p]? = some (.cells #[.int .i64 ((L.length : Int) - 1), .map (some b), .int .i64 (lo : Int)] 50 (0, 0)) := (ht.grown.block p hp (fun e => hne (by injection e))).trans h
  refine ⟨⟨⟨min lo i, ?_, ?_⟩, own_of (h2.setCell (by exact fun e => hne e.symm) _) hh, hne, by rw [List.length_set]; exact t.lo, by rw [List.length_set]; exact t.hi⟩, ((Off.of _ hb).trans (Off.turned ht (Or.inr rfl))).trans (Off.set _ _ _ (Or.inl rfl))⟩
  · simp [World.setCell, Array.getElem?_modify, hobj, List.length_set]
  · refine low_lt fun j hj => ?_
    rw [hasT_set hi, if_neg (by omega)]
    exact low_has (by omega)
/-- .. where the lowest alone is told anew. -/
theorem Tin.low {k : Nat} (t : Tin w p b L) (hk : k ≤ lowT L) : Tin (w.setCell ⟨p, 2, none⟩ (.int .i64 (k : Int))) p b L := by
  obtain ⟨lo, h, hl⟩ := t.obj
  obtain ⟨D, h1, h2⟩ := t.own
  refine ⟨⟨k, ?_, hk⟩, ⟨D, h1.setCell (by exact fun e => t.ne e.symm) _, h2⟩, t.ne, t.lo, t.hi⟩
  simp [World.setCell, Array.getElem?_modify, h]
theorem frz_of {cs : Array Value} {ty : TypeId} {j : Nat} (h : w.heap[p]? = some (.cells cs ty (0, 0))) : w.frozen? ⟨p, j, none⟩ = false := by simp [World.frozen?, h]
theorem Tin.frz (t : Tin w p b L) (j : Nat) : w.frozen? ⟨p, j, none⟩ = false := by
  obtain ⟨lo, h, _⟩ := t.obj
  exact frz_of h
theorem turned_frz {w2 : World} (t : Tin w p b L) (ht : w.mapTurned w2 b) (j : Nat) : w2.frozen? ⟨p, j, none⟩ = false := by
  obtain ⟨lo, h, _⟩ := t.obj
  exact frz_of ((ht.grown.block p t.plt (fun e => t.ne (by injection e))).trans h)
theorem turned_cell {w2 : World} (t : Tin w p b L) (ht : w.mapTurned w2 b) (j : Nat) : w2.cell? ⟨p, j, none⟩ = w.cell? ⟨p, j, none⟩ := by
  simp only [World.cell?, ht.grown.block p t.plt (fun e => t.ne (by injection e))]
/-- From where on the lowest is sought. -/
def loOf (p : Nat) (w : World) : Nat := match w.cell? ⟨p, 2, none⟩ with
  | some (.int _ a) => a.toNat
  | _ => 0
theorem loOf_eq {lo : Nat} (h : w.cell? ⟨p, 2, none⟩ = some (.int .i64 (lo : Int))) : loOf p w = lo := by simp [loOf, h]
theorem Tin.lo_set {k : Nat} (t : Tin w p b L) : loOf p (w.setCell ⟨p, 2, none⟩ (.int .i64 (k : Int))) = k := by
  obtain ⟨lo, h, _⟩ := t.obj
  refine loOf_eq (cell_of_row _ _ 2 #[.int .i64 ((L.length : Int) - 1), .map (some b), .int .i64 (k : Int)] 50 (0, 0) ?_)
  simp [World.setCell, Array.getElem?_modify, h]
theorem keyI {x : Int} (hx : (Lit.int .i64 x).wf = true) : keyOf Try.prog 3 (.int .i64 x) = some (.int .i64 x) := Go.Maps.keyOf_int_mk Try.underlying3 hx
end
end Go.Proofs.Ytnbofokdhkoglaa.Tb
