/-
  Contract of value.Get: what a map has by a key, in new memory. Memory that was there stays. Condition: values of bulk at most 2^30.
  An append at a step of a region that draws, inside a fence (in a round as anywhere): step_append_lies' kin.
-/
import Derived.Test.YtohmnbefokhjpaaDoorIter
import Derived.Test.YtohmnbefokhjpaaDoorMade
import Derived.Deep.AppendLies
namespace Go.Proofs.YtohmnbefokhjpaaDoor.Val
set_option maxRecDepth 100000
open Go.RowKit Go.Shelf Go.Proofs.YtohmnbefokhjpaaDoor.Utf V
attribute [local go_sem] Oper.semAt_some

/-- What stands beside the first key that is the same. -/
def getL : List (V × V) → V → Option V
  | [], _ => none
  | p :: r, y => if same p.1 y then some p.2 else getL r y
def getV (v key : V) : Option V := if v.kind = 23 then getL (pairsL v.kids) key else none
def empty : V := .mk 0 0 ⟨#[]⟩ []

theorem getL_none {l r : List (V × V)} {y : V} (h : getL l y = none) : getL (l ++ r) y = getL r y := by
  induction l with
  | nil => rfl
  | cons p l ih =>
    simp only [getL] at h
    split at h
    · cases h
    · rename_i hs
      simp only [List.cons_append, getL, if_neg hs]
      exact ih h
theorem getL_at {l : List (V × V)} {p : V × V} {r : List (V × V)} {y : V} (h : getL l y = none) (hs : same p.1 y = true) : getL (l ++ [p] ++ r) y = some p.2 := by
  rw [List.append_assoc, getL_none h]
  simp [getL, hs]
theorem getL_not {l : List (V × V)} {p : V × V} {y : V} (h : getL l y = none) (hs : same p.1 y = false) : getL (l ++ [p]) y = none := by
  rw [getL_none h]
  simp [getL, hs]

/- Kids in new memory lie in blocks of cells. -/
mutual
theorem RepV.cells {w : World} {P : Nat → Prop} : ∀ {v : V} {b o : Nat}, RepV true w P v b o → RepV true w (fun i => P i ∧ ∃ C, w.heap[i]? = some (.cells C 27 (0, 0))) v b o
  | .mk _ _ _ _, _, _, h => by
    obtain ⟨A, l, c, h0, h1, h2, h3, hk, hn, hl, hlc, hr⟩ := h
    refine ⟨A, l, c, h0, h1, h2, h3, hk, hn, hl, hlc, fun h => ?_⟩
    obtain ⟨b', o', e, hP, ho, hrow⟩ := hr h
    exact ⟨b', o', e, ⟨hP, ho rfl⟩, ho, hrow.cells⟩
theorem RowL.cells {w : World} {P : Nat → Prop} : ∀ {ks : List V} {b o : Nat}, RowL true w P ks b o → RowL true w (fun i => P i ∧ ∃ C, w.heap[i]? = some (.cells C 27 (0, 0))) ks b o
  | [], _, _, _ => trivial
  | _ :: _, _, _, h => ⟨h.1.cells, h.2.cells⟩
end
theorem Kids.cells {w : World} {P : Nat → Prop} {ks : List V} {A : Option Addr} {l c : Nat} (h : Kids true w P ks A l c) : Kids true w (fun i => P i ∧ ∃ C, w.heap[i]? = some (.cells C 27 (0, 0))) ks A l c :=
  ⟨h.1, h.2.1, fun hl => by
    obtain ⟨b', o', e, hP, ho, hrow⟩ := h.2.2 hl
    exact ⟨b', o', e, ⟨hP, ho rfl⟩, ho, hrow.cells⟩⟩
theorem Nw.keptC {B : Nat} {w w' : World} {ks : List V} {A : Option Addr} {l c : Nat} (h : Nw B w ks A l c) (hs : w.heap.size ≤ w'.heap.size) (hk : ∀ (i : Nat) (C : Array Value), w.heap[i]? = some (Obj.cells C 27 (0, 0)) → w'.heap[i]? = w.heap[i]?) : Nw B w' ks A l c :=
  (h.cells.keep fun i hi => by obtain ⟨_, C, hC⟩ := hi; exact hk i C hC).mono fun i hi => ⟨hi.1.1, Nat.lt_of_lt_of_le hi.1.2 hs⟩
theorem Nw.grown {B : Nat} {w w' : World} {ks : List V} {A : Option Addr} {l c : Nat} {row : Option Nat} (h : Nw B w ks A l c) (hg : w.grownBy w' row) (hr : ∀ r, row = some r → ∃ o : Obj, w.heap[r]? = some o ∧ o.isCells = false) : Nw B w' ks A l c :=
  h.keptC hg.size fun _ _ hC => grownBy_keeps_cells hg hr hC rfl
theorem Box.grown {w w' : World} {g : Nat} {x0 x1 x2 x3 : Value} {row : Option Nat} (h : Box w g x0 x1 x2 x3) (hg : w.grownBy w' row) (hr : ∀ r, row = some r → ∃ o : Obj, w.heap[r]? = some o ∧ o.isCells = false) : Box w' g x0 x1 x2 x3 :=
  (grownBy_keeps_cells hg hr h rfl).trans h

/-- A value with its kids in new memory, and whether there is one. -/
def GivesG (o : Option V) (w : World) (e : Ending) (w' : World) : Prop :=
  ∃ k n t ks A l c, o.getD empty = .mk k n t ks ∧ k < 256 ∧ n < 18446744073709551616 ∧ e = .returned (.tuple #[.agg #[.int .u8 k, .int .u64 n, .string t, .slice A l c], .bool o.isSome]) ∧ Nw w.heap.size w' ks A l c ∧ Below w.heap.size w w'

theorem getL_pre {l r : List (V × V)} {y v : V} (h : getL l y = some v) : getL (l ++ r) y = some v := by
  induction l with
  | nil => cases h
  | cons p l ih =>
    simp only [getL] at h
    simp only [List.cons_append, getL]
    split at h
    · rename_i hs; rw [if_pos hs]; exact h
    · rename_i hs; rw [if_neg hs]; exact ih h
theorem below_keepsFrom {B : Nat} {W W' : World} (h : Below W.heap.size W W') : KeepsFrom B W W' := ⟨h.size, fun k _ _ hk _ => (h.block k (Array.getElem?_eq_some_iff.1 hk).1).trans hk⟩

theorem boxed_far {w : World} {g : Nat} {T : TypeId} {v : Value} (h : Boxed w g T v) {p : Addr} (hp : g ≠ p.block) (u : Value) : Boxed (w.setCell p u) g T v := (Below.heap_setCell w p u g hp).trans h
def set5 (w : World) (g g' : Nat) (a b c d e : Value) : World := ((((w.setCell ⟨g, 0, none⟩ a).setCell ⟨g, 1, none⟩ b).setCell ⟨g, 2, none⟩ c).setCell ⟨g, 3, none⟩ d).setCell ⟨g', 0, none⟩ e
theorem set5_keeps (w : World) (g g' : Nat) (a b c d e : Value) : KeepsOthers w (set5 w g g' a b c d e) :=
  ((((KeepsOthers.setCell _ _ _).trans (KeepsOthers.setCell _ _ _)).trans (KeepsOthers.setCell _ _ _)).trans (KeepsOthers.setCell _ _ _)).trans (KeepsOthers.setCell _ _ _)
theorem set5_box {w : World} {g g' : Nat} {x0 x1 x2 x3 : Value} (h : Box w g x0 x1 x2 x3) (hg : g ≠ g') (a b c d e : Value) : Box (set5 w g g' a b c d e) g a b c d := (h.set4 a b c d).far (p := ⟨g', 0, none⟩) hg e
theorem set5_boxed {w : World} {g g' : Nat} {T : TypeId} {v : Value} (h : Boxed w g' T v) (hg : g' ≠ g) (a b c d e : Value) : Boxed (set5 w g g' a b c d e) g' T e :=
  (boxed_far (p := ⟨g, 3, none⟩) (boxed_far (p := ⟨g, 2, none⟩) (boxed_far (p := ⟨g, 1, none⟩) (boxed_far (p := ⟨g, 0, none⟩) h hg a) hg b) hg c) hg d).set e
theorem set5_below {B : Nat} {w w1 : World} (h : Below B w w1) {g g' : Nat} (hg : B ≤ g) (hg' : B ≤ g') (a b c d e : Value) : Below B w (set5 w1 g g' a b c d e) := (below_set4 h hg a b c d).setCell (p := ⟨g', 0, none⟩) hg' e
theorem set5_nw {B : Nat} {w : World} {ks : List V} {A : Option Addr} {l c : Nat} (h : Nw B w ks A l c) {g g' : Nat} (hg : g < B) (hg' : g' < B) (x0 x1 x2 x3 e : Value) : Nw B (set5 w g g' x0 x1 x2 x3 e) ks A l c := (h.far4 hg x0 x1 x2 x3).far (p := ⟨g', 0, none⟩) hg' e
theorem boxed_grown {w w' : World} {g : Nat} {T : TypeId} {v : Value} {row : Option Nat} (h : Boxed w g T v) (hg : w.grownBy w' row) (hr : ∀ r, row = some r → ∃ o : Obj, w.heap[r]? = some o ∧ o.isCells = false) : Boxed w' g T v := boxed_own _ _ (fun (_ : Unit) => v) () _ _ row h hg hr
theorem boxed_below {B : Nat} {w w' : World} {g : Nat} {T : TypeId} {v : Value} (h : Boxed w g T v) (hb : Below B w w') (hg : g < B) : Boxed w' g T v := (hb.block g hg).trans h

/-- Three boxes as they begin. -/
def Ig (w W0 : World) (key : V) (pre : List (KV W0 (w.heap.size + 5))) (W : World) : Prop := getL (pre.map KV.vs) key = none ∧ Below (w.heap.size + 5) W0 W
/-- What was found is answered. -/
def Xg (w W0 : World) (key : V) (c : Code) (pre : List (KV W0 (w.heap.size + 5))) (W : World) : Prop :=
  ∃ k n t ks A l d, (c = .ret ∧ getL (pre.map KV.vs) key = some (.mk k n t ks) ∧ k < 256 ∧ n < 18446744073709551616) ∧ Box W (w.heap.size + 2) (.int .u8 k) (.int .u64 n) (.string t) (.slice A l d) ∧ Boxed W (w.heap.size + 3) 4 (.bool true) ∧ Nw (w.heap.size + 5) W ks A l d ∧ Below w.heap.size w W
theorem Ig.own (w W0 : World) (key : V) (h : w.heap.size + 5 ≤ W0.heap.size) : OwnFrom W0.heap.size (Ig w W0 key) := fun _ _ _ _ hs hg hr =>
  ⟨hs.1, hs.2.grown hg (Nat.le_trans h hs.2.size) (fun k e => Nat.le_trans h (hr k e).1)⟩
theorem Xg.own (w W0 : World) (key : V) (c : Code) (h : w.heap.size + 5 ≤ W0.heap.size) : OwnFrom W0.heap.size (Xg w W0 key c) := fun s W W' row hs hg hr => by
  obtain ⟨k, n, t, ks, A, l, d, h1, h2, h3, h4, h5⟩ := hs
  have hr2 : ∀ r, row = some r → ∃ o : Obj, W.heap[r]? = some o ∧ o.isCells = false := fun r e => (hr r e).2
  exact ⟨k, n, t, ks, A, l, d, h1, h2.grown hg hr2, boxed_own _ _ (fun (_ : Unit) => Value.bool true) () _ _ row h3 hg hr2, h4.grown hg hr2, h5.grown hg h5.size (fun k e => by have := (hr k e).1; omega)⟩

end Go.Proofs.YtohmnbefokhjpaaDoor.Val

namespace Go.Proofs.YtohmnbefokhjpaaDoor.Val
set_option maxRecDepth 100000
open Go.RowKit Go.Shelf

theorem stepIn_append_lies {F : Fence} {nn : Nat} {P : Program} (w : World) {ops : Array Oper} {o : Oper} {a : Act} {K : Act → World → Prop} {Q : Exit → Act → World → Prop} {E : Prop} (hgd : o.guard = none) (s x : Operand) (t : TypeId)
    (ho : o.op = .call { callee := .builtin .append, args := #[s, x], argTypes := #[t, t] })
    (base : Nat) (e : TypeId) (i : TypeInfo) (z : Value) (size bytes : Nat) (ht : P.underlying t = some (.slice e)) (hi : P.info? e = some i) (hz : i.zero = some z)
    (hsize : i.size = size) (hby : i.bytes = bytes) (hzs : z.cells.size = size) (hsz : 0 < size)
    (v : Value) (n : Nat) (xs : List Value) (hs : a.eval s = v) (hown : w.ownsRow base e size v n xs)
    (ad : Addr) (m c : Nat) (news : List Value) (hx : a.eval x = .slice (some ad) m c) (hl : news.length = m * size) (hnews : ∀ j u, news[j]? = some u → w.cell? (ad.add j) = some u) (h1 : ∀ u ∈ news, u.oneCell' = true)
    (hm : 0 < m) (h63 : n + m ≤ maxLen) (hbytes : (n + m) * bytes ≤ 140737488355328) (hbase : base ≤ w.heap.size) (H : Nat) (hH : w.heap.size = H)
    (h : ∀ g cap w', w'.ownsRow base e size (.slice (some ⟨g, 0, none⟩) (n + m) cap) (n + m) (xs ++ news) → w.grownBy w' v.ownBlock → (v.ownBlock = some g ∨ g = H) → g < w'.heap.size → K (a.put o.dst (.slice (some ⟨g, 0, none⟩) (n + m) cap)) w') :
    if Region.wanted o (yielded ops a.tmps) = true then Oper.wpIn F nn P o a w K Q else E := by
  have hw : Region.wanted o (yielded ops a.tmps) = true := by simp [Region.wanted, hgd]
  rw [if_pos hw]
  obtain ⟨g, cap, w', hr, h2, h3, h4, h5⟩ := run_append_lies (P := P) w t o.type base e i z size bytes ht hi hz hsize hby hzs hsz v n xs hown ad m c news hl hnews h1 hm h63 hbytes hbase H hH
  unfold Oper.wpIn
  refine ⟨?_, ?_⟩
  · simp [Oper.about, ho, resolve, Target.leads, Sem.run_pure]
  · rw [Oper.semAt_plain F _ _ (by rw [ho]; intro c hc'; cases hc')]
    simp [execOp, ho, resolve, invoke, builtin, hs, hx, hr, Result.andThen]
    exact h g cap w' h2 h3 h4 h5
end Go.Proofs.YtohmnbefokhjpaaDoor.Val
