/-
  Contract of value.Get: what a map has by a key, in new memory. Memory that was there stays. Condition: values of bulk at most 2^30.
-/
import Derived.Test.YtdbcdabijolagaaDoorIter
import Derived.Test.YtdbcdabijolagaaDoorMade
namespace Go.Proofs.YtdbcdabijolagaaDoor.Val
open Go.RowKit Go.Shelf Go.Proofs.YtdbcdabijolagaaDoor.Utf V
attribute [local go_sem] Oper.semAt_some

/-- What stands beside the first key that is the same. -/
def getL : List (V × V) → V → Option V
  | [], _ => none
  | p :: r, y => if same p.1 y then some p.2 else getL r y
def getV (v key : V) : Option V := if v.kind = 23 then getL (pairsL v.kids) key else none
def empty : V := .mk 0 0 ⟨#[]⟩ []

theorem getL_none {l r : List (V × V)} {y : V} (h : getL l y = none) : getL (l ++ r) y = getL r y := by
  induction l with
  | nil => rfl
  | cons p l ih =>
    simp only [getL] at h
    split at h
    · cases h
    · rename_i hs
      simp only [List.cons_append, getL, if_neg hs]
      exact ih h
theorem getL_at {l : List (V × V)} {p : V × V} {r : List (V × V)} {y : V} (h : getL l y = none) (hs : same p.1 y = true) : getL (l ++ [p] ++ r) y = some p.2 := by
  rw [List.append_assoc, getL_none h]
  simp [getL, hs]
theorem getL_not {l : List (V × V)} {p : V × V} {y : V} (h : getL l y = none) (hs : same p.1 y = false) : getL (l ++ [p]) y = none := by
  rw [getL_none h]
  simp [getL, hs]

/- Kids in new memory lie in blocks of cells. -/
mutual
theorem RepV.cells {w : World} {P : Nat → Prop} : ∀ {v : V} {b o : Nat}, RepV true w P v b o → RepV true w (fun i => P i ∧ ∃ C, w.heap[i]? = some (.cells C 25 (0, 0))) v b o
  | .mk _ _ _ _, _, _, h => by
    obtain ⟨A, l, c, h0, h1, h2, h3, hk, hn, hl, hlc, hr⟩ := h
    refine ⟨A, l, c, h0, h1, h2, h3, hk, hn, hl, hlc, fun h => ?_⟩
    obtain ⟨b', o', e, hP, ho, hrow⟩ := hr h
    exact ⟨b', o', e, ⟨hP, ho rfl⟩, ho, hrow.cells⟩
theorem RowL.cells {w : World} {P : Nat → Prop} : ∀ {ks : List V} {b o : Nat}, RowL true w P ks b o → RowL true w (fun i => P i ∧ ∃ C, w.heap[i]? = some (.cells C 25 (0, 0))) ks b o
  | [], _, _, _ => trivial
  | _ :: _, _, _, h => ⟨h.1.cells, h.2.cells⟩
end
theorem Kids.cells {w : World} {P : Nat → Prop} {ks : List V} {A : Option Addr} {l c : Nat} (h : Kids true w P ks A l c) : Kids true w (fun i => P i ∧ ∃ C, w.heap[i]? = some (.cells C 25 (0, 0))) ks A l c :=
  ⟨h.1, h.2.1, fun hl => by
    obtain ⟨b', o', e, hP, ho, hrow⟩ := h.2.2 hl
    exact ⟨b', o', e, ⟨hP, ho rfl⟩, ho, hrow.cells⟩⟩
theorem Nw.keptC {B : Nat} {w w' : World} {ks : List V} {A : Option Addr} {l c : Nat} (h : Nw B w ks A l c) (hs : w.heap.size ≤ w'.heap.size) (hk : ∀ (i : Nat) (C : Array Value), w.heap[i]? = some (Obj.cells C 25 (0, 0)) → w'.heap[i]? = w.heap[i]?) : Nw B w' ks A l c :=
  (h.cells.keep fun i hi => by obtain ⟨_, C, hC⟩ := hi; exact hk i C hC).mono fun i hi => ⟨hi.1.1, Nat.lt_of_lt_of_le hi.1.2 hs⟩
theorem Nw.grown {B : Nat} {w w' : World} {ks : List V} {A : Option Addr} {l c : Nat} {row : Option Nat} (h : Nw B w ks A l c) (hg : w.grownBy w' row) (hr : ∀ r, row = some r → ∃ o : Obj, w.heap[r]? = some o ∧ o.isCells = false) : Nw B w' ks A l c :=
  h.keptC hg.size fun _ _ hC => grownBy_keeps_cells hg hr hC rfl
theorem Box.grown {w w' : World} {g : Nat} {x0 x1 x2 x3 : Value} {row : Option Nat} (h : Box w g x0 x1 x2 x3) (hg : w.grownBy w' row) (hr : ∀ r, row = some r → ∃ o : Obj, w.heap[r]? = some o ∧ o.isCells = false) : Box w' g x0 x1 x2 x3 :=
  (grownBy_keeps_cells hg hr h rfl).trans h

/-- A value with its kids in new memory, and whether there is one. -/
def GivesG (o : Option V) (w : World) (e : Ending) (w' : World) : Prop :=
  ∃ k n t ks A l c, o.getD empty = .mk k n t ks ∧ k < 256 ∧ n < 18446744073709551616 ∧ e = .returned (.tuple #[.agg #[.int .u8 k, .int .u64 n, .string t, .slice A l c], .bool o.isSome]) ∧ Nw w.heap.size w' ks A l c ∧ Below w.heap.size w w'

theorem getL_pre {l r : List (V × V)} {y v : V} (h : getL l y = some v) : getL (l ++ r) y = some v := by
  induction l with
  | nil => cases h
  | cons p l ih =>
    simp only [getL] at h
    simp only [List.cons_append, getL]
    split at h
    · rename_i hs; rw [if_pos hs]; exact h
    · rename_i hs; rw [if_neg hs]; exact ih h
theorem below_keepsFrom {B : Nat} {W W' : World} (h : Below W.heap.size W W') : KeepsFrom B W W' := ⟨h.size, fun k _ _ hk _ => (h.block k (Array.getElem?_eq_some_iff.1 hk).1).trans hk⟩

theorem boxed_far {w : World} {g : Nat} {T : TypeId} {v : Value} (h : Boxed w g T v) {p : Addr} (hp : g ≠ p.block) (u : Value) : Boxed (w.setCell p u) g T v := (Below.heap_setCell w p u g hp).trans h
def set5 (w : World) (g g' : Nat) (a b c d e : Value) : World := ((((w.setCell ⟨g, 0, none⟩ a).setCell ⟨g, 1, none⟩ b).setCell ⟨g, 2, none⟩ c).setCell ⟨g, 3, none⟩ d).setCell ⟨g', 0, none⟩ e
theorem set5_keeps (w : World) (g g' : Nat) (a b c d e : Value) : KeepsOthers w (set5 w g g' a b c d e) :=
  ((((KeepsOthers.setCell _ _ _).trans (KeepsOthers.setCell _ _ _)).trans (KeepsOthers.setCell _ _ _)).trans (KeepsOthers.setCell _ _ _)).trans (KeepsOthers.setCell _ _ _)
theorem set5_box {w : World} {g g' : Nat} {x0 x1 x2 x3 : Value} (h : Box w g x0 x1 x2 x3) (hg : g ≠ g') (a b c d e : Value) : Box (set5 w g g' a b c d e) g a b c d := (h.set4 a b c d).far (p := ⟨g', 0, none⟩) hg e
theorem set5_boxed {w : World} {g g' : Nat} {T : TypeId} {v : Value} (h : Boxed w g' T v) (hg : g' ≠ g) (a b c d e : Value) : Boxed (set5 w g g' a b c d e) g' T e :=
  (boxed_far (p := ⟨g, 3, none⟩) (boxed_far (p := ⟨g, 2, none⟩) (boxed_far (p := ⟨g, 1, none⟩) (boxed_far (p := ⟨g, 0, none⟩) h hg a) hg b) hg c) hg d).set e
theorem set5_below {B : Nat} {w w1 : World} (h : Below B w w1) {g g' : Nat} (hg : B ≤ g) (hg' : B ≤ g') (a b c d e : Value) : Below B w (set5 w1 g g' a b c d e) := (below_set4 h hg a b c d).setCell (p := ⟨g', 0, none⟩) hg' e
theorem set5_nw {B : Nat} {w : World} {ks : List V} {A : Option Addr} {l c : Nat} (h : Nw B w ks A l c) {g g' : Nat} (hg : g < B) (hg' : g' < B) (x0 x1 x2 x3 e : Value) : Nw B (set5 w g g' x0 x1 x2 x3 e) ks A l c := (h.far4 hg x0 x1 x2 x3).far (p := ⟨g', 0, none⟩) hg' e
theorem boxed_grown {w w' : World} {g : Nat} {T : TypeId} {v : Value} {row : Option Nat} (h : Boxed w g T v) (hg : w.grownBy w' row) (hr : ∀ r, row = some r → ∃ o : Obj, w.heap[r]? = some o ∧ o.isCells = false) : Boxed w' g T v := boxed_own _ _ (fun (_ : Unit) => v) () _ _ row h hg hr
theorem boxed_below {B : Nat} {w w' : World} {g : Nat} {T : TypeId} {v : Value} (h : Boxed w g T v) (hb : Below B w w') (hg : g < B) : Boxed w' g T v := (hb.block g hg).trans h

/-- Three boxes as they begin. -/
def Ig (w W0 : World) (key : V) (pre : List (KV W0 (w.heap.size + 5))) (W : World) : Prop := getL (pre.map KV.vs) key = none ∧ Below (w.heap.size + 5) W0 W
/-- What was found is answered. -/
def Xg (w W0 : World) (key : V) (c : Code) (pre : List (KV W0 (w.heap.size + 5))) (W : World) : Prop :=
  ∃ k n t ks A l d, (c = .ret ∧ getL (pre.map KV.vs) key = some (.mk k n t ks) ∧ k < 256 ∧ n < 18446744073709551616) ∧ Box W (w.heap.size + 2) (.int .u8 k) (.int .u64 n) (.string t) (.slice A l d) ∧ Boxed W (w.heap.size + 3) 4 (.bool true) ∧ Nw (w.heap.size + 5) W ks A l d ∧ Below w.heap.size w W
theorem Ig.own (w W0 : World) (key : V) (h : w.heap.size + 5 ≤ W0.heap.size) : OwnFrom W0.heap.size (Ig w W0 key) := fun _ _ _ _ hs hg hr =>
  ⟨hs.1, hs.2.grown hg (Nat.le_trans h hs.2.size) (fun k e => Nat.le_trans h (hr k e).1)⟩
theorem Xg.own (w W0 : World) (key : V) (c : Code) (h : w.heap.size + 5 ≤ W0.heap.size) : OwnFrom W0.heap.size (Xg w W0 key c) := fun s W W' row hs hg hr => by
  obtain ⟨k, n, t, ks, A, l, d, h1, h2, h3, h4, h5⟩ := hs
  have hr2 : ∀ r, row = some r → ∃ o : Obj, W.heap[r]? = some o ∧ o.isCells = false := fun r e => (hr r e).2
  exact ⟨k, n, t, ks, A, l, d, h1, h2.grown hg hr2, boxed_own _ _ (fun (_ : Unit) => Value.bool true) () _ _ row h3 hg hr2, h4.grown hg hr2, h5.grown hg h5.size (fun k e => by have := (hr k e).1; omega)⟩

set_option maxRecDepth 100000 in
set_option maxHeartbeats 1000000 in
theorem vget_any (k n : Nat) (t : ByteArray) (ks : List V) (A : Option Addr) (l c : Nat) (k' n' : Nat) (t' : ByteArray) (ks' : List V) (A' : Option Addr) (l' c' : Nat) (w : World) (hN : bulkL ks ≤ 1073741824) (hk : k < 256) (hK : Kd w ks A l c) (hK' : Kd w ks' A' l' c') :
    Calls Tryd.prog 32 #[.agg #[.int .u8 k, .int .u64 n, .string t, .slice A l c], .agg #[.int .u8 k', .int .u64 n', .string t', .slice A' l' c']] w (GivesG (getV (.mk k n t ks) (.mk k' n' t' ks')) w) := by
  refine (callsIn_wide (n := 6)).1 ?_
  refine callsIn_of_wp_marks Tryd.func32 rfl trivial ?_ rfl
  simp only [Tryd.ntmps32, List.size_toArray, List.length_cons, List.length_nil, Nat.reduceAdd, Nat.reduceSub, Array.replicate_succ, Array.replicate_zero, List.push_toArray, List.append_toArray, List.nil_append, List.cons_append]
  have b2 := (Box.new ((w.alloc (.cells #[.int .u8 k, .int .u64 n, .string t, .slice A l c] 25)).alloc (.cells #[.int .u8 k', .int .u64 n', .string t', .slice A' l' c'] 25)) (.int .u8 0) (.int .u64 0) (.string ⟨#[]⟩) (.slice none 0 0)).alloc (.cells #[.bool false] 4)
  have b3 := Boxed.new (((w.alloc (.cells #[.int .u8 k, .int .u64 n, .string t, .slice A l c] 25)).alloc (.cells #[.int .u8 k', .int .u64 n', .string t', .slice A' l' c'] 25)).alloc (.cells #[.int .u8 0, .int .u64 0, .string ⟨#[]⟩, .slice none 0 0] 25)) 4 (.bool false)
  have bb : Below w.heap.size w ((((w.alloc (.cells #[.int .u8 k, .int .u64 n, .string t, .slice A l c] 25)).alloc (.cells #[.int .u8 k', .int .u64 n', .string t', .slice A' l' c'] 25)).alloc (.cells #[.int .u8 0, .int .u64 0, .string ⟨#[]⟩, .slice none 0 0] 25)).alloc (.cells #[.bool false] 4)) :=
    ((two_boxes w _ _).alloc (by simp; omega) _).alloc (by simp; omega) _
  by_cases hk23 : k = 23
  · subst hk23
    gi_wp2_with (refine ⟨trivial, ?_⟩; gi_at_call 44; refine (keys_in Fence.wide (6 - 1) trivial rfl _ _ _ _ _ _ _).mono ?_; rintro e w' ⟨rfl, rfl⟩)
    have hB0 := bb.alloc (by simp; omega) (.cells #[.int .u8 (23 : Nat), .int .u64 n, .string t, .slice A l c] 25)
    have b1 := (((Box.new2 w (.cells #[.int .u8 (23 : Nat), .int .u64 n, .string t, .slice A l c] 25) (.int .u8 k') (.int .u64 n') (.string t') (.slice A' l' c')).alloc (.cells #[.int .u8 0, .int .u64 0, .string ⟨#[]⟩, .slice none 0 0] 25)).alloc (.cells #[.bool false] 4)).alloc (.cells #[.int .u8 (23 : Nat), .int .u64 n, .string t, .slice A l c] 25)
    have b4 := Box.new ((((w.alloc (.cells #[.int .u8 (23 : Nat), .int .u64 n, .string t, .slice A l c] 25)).alloc (.cells #[.int .u8 k', .int .u64 n', .string t', .slice A' l' c'] 25)).alloc (.cells #[.int .u8 0, .int .u64 0, .string ⟨#[]⟩, .slice none 0 0] 25)).alloc (.cells #[.bool false] 4)) (.int .u8 (23 : Nat)) (.int .u64 n) (.string t) (.slice A l c)
    replace b2 := b2.alloc (.cells #[.int .u8 (23 : Nat), .int .u64 n, .string t, .slice A l c] 25)
    replace b3 := b3.alloc (.cells #[.int .u8 (23 : Nat), .int .u64 n, .string t, .slice A l c] 25)
    have hsz : (((((w.alloc (.cells #[.int .u8 (23 : Nat), .int .u64 n, .string t, .slice A l c] 25)).alloc (.cells #[.int .u8 k', .int .u64 n', .string t', .slice A' l' c'] 25)).alloc (.cells #[.int .u8 0, .int .u64 0, .string ⟨#[]⟩, .slice none 0 0] 25)).alloc (.cells #[.bool false] 4)).alloc (.cells #[.int .u8 (23 : Nat), .int .u64 n, .string t, .slice A l c] 25)).heap.size = w.heap.size + 5 := by simp
    have hKB := (((((hK.alloc (.cells #[.int .u8 (23 : Nat), .int .u64 n, .string t, .slice A l c] 25)).alloc (.cells #[.int .u8 k', .int .u64 n', .string t', .slice A' l' c'] 25)).alloc (.cells #[.int .u8 0, .int .u64 0, .string ⟨#[]⟩, .slice none 0 0] 25)).alloc (.cells #[.bool false] 4)).alloc (.cells #[.int .u8 (23 : Nat), .int .u64 n, .string t, .slice A l c] 25))
    have hKB' := (((((hK'.alloc (.cells #[.int .u8 (23 : Nat), .int .u64 n, .string t, .slice A l c] 25)).alloc (.cells #[.int .u8 k', .int .u64 n', .string t', .slice A' l' c'] 25)).alloc (.cells #[.int .u8 0, .int .u64 0, .string ⟨#[]⟩, .slice none 0 0] 25)).alloc (.cells #[.bool false] 4)).alloc (.cells #[.int .u8 (23 : Nat), .int .u64 n, .string t, .slice A l c] 25))
    obtain ⟨W0, hW0⟩ : ∃ W0, ((((w.alloc (.cells #[.int .u8 (23 : Nat), .int .u64 n, .string t, .slice A l c] 25)).alloc (.cells #[.int .u8 k', .int .u64 n', .string t', .slice A' l' c'] 25)).alloc (.cells #[.int .u8 0, .int .u64 0, .string ⟨#[]⟩, .slice none 0 0] 25)).alloc (.cells #[.bool false] 4)).alloc (.cells #[.int .u8 (23 : Nat), .int .u64 n, .string t, .slice A l c] 25) = W0 := ⟨_, rfl⟩
    rw [hW0] at b1 b2 b3 b4 hB0 hsz hKB hKB'
    simp only [World.size_alloc] at b1 b2 b3 b4
    have HW := Lib.hid hW0
    simp only [Int.cast_ofNat_Int] at hW0 ⊢
    rw [hW0]
    clear hW0 bb
    obtain ⟨key, hkey⟩ : ∃ key, V.mk k' n' t' ks' = key := ⟨_, rfl⟩
    have c3 := b4.all.2.2.2.1
    refine wpIn_rangeFunc_ownH rfl (by omega) (gf := 50) (lb := #[.pointer (some ⟨w.heap.size + 1 + 1 + 1 + 1, 0, none⟩)]) rfl trivial (enters_of Tryd.func50 (by kernel_rfl) rfl)
      (iter_stops Fence.wide (6 - 1) trivial rfl (by omega) (w.heap.size + 1 + 1 + 1 + 1) (w.heap.size + 5) W0 ks A l c hN (hsz ▸ hKB) (by omega) (by omega) c3) belowK_t (belowK_b (by omega)) (Below.refl _ _) (fun _ => rfl)
      (Ig w W0 key) (Xg w W0 key) (Ig.own w W0 key (by omega)) (fun d => Xg.own w W0 key d (by omega)) ⟨rfl, Below.refl _ _⟩
      (fun x a' W => ∃ Bx By, (w.heap.size + 5 ≤ Bx ∧ w.heap.size + 5 ≤ By) ∧ Box W Bx (.int .u8 x.1.1.k) (.int .u64 x.1.1.n) (.string x.1.1.t) (.slice x.1.1.A x.1.1.l x.1.1.c) ∧ Box W By (.int .u8 x.1.2.k) (.int .u64 x.1.2.n) (.string x.1.2.t) (.slice x.1.2.A x.1.2.l x.1.2.c) ∧
        a' = { tmps := #[.agg #[.int .u8 (23 : Nat), .int .u64 n, .string t, .slice A l c], .agg #[.int .u8 k', .int .u64 n', .string t', .slice A' l' c'], .pointer (some ⟨w.heap.size, 0, none⟩), .pointer (some ⟨w.heap.size + 1, 0, none⟩), .pointer (some ⟨w.heap.size + 1 + 1, 0, none⟩), .pointer (some ⟨w.heap.size + 1 + 1 + 1, 0, none⟩),
          .pointer (some ⟨Bx, 0, none⟩), .pointer (some ⟨By, 0, none⟩), .pointer (some ⟨w.heap.size, 0, none⟩), .int .u8 23, .bool false, undef, .agg #[.int .u8 23, .int .u64 n, .string t, .slice A l c], .func (.func 50) #[] #[.pointer (some ⟨w.heap.size + 1 + 1 + 1 + 1, 0, none⟩)], x.1.1.val, x.1.2.val, undef, undef, undef, undef, undef, undef], defers := [] })
      (fun x a' _ X Y row hs hg hr => by obtain ⟨Bx, By, e1, e2, e3, e4⟩ := hs; exact ⟨Bx, By, e1, e2.grown hg (fun r e => (hr r e).2), e3.grown hg (fun r e => (hr r e).2), e4⟩)
      ?assign ?body ?done ?stop
    case assign =>
      rintro L pre ⟨⟨⟨k1, n1, t1, A1, l1, c1, ks1⟩, ⟨k2, n2, t2, A2, l2, c2, ks2⟩⟩, hx1, hx2⟩ W K ⟨hI, hB1⟩ hK
      have hs1 := hB1.size
      simp only [LV.val]
      gi_wp2
      exact hK _ _ (below_keepsFrom (two_boxes W _ _)) ((two_boxes W _ _).mono (by omega)) ⟨hI, hB1.trans ((two_boxes W _ _).mono (by omega))⟩ ⟨W.heap.size, W.heap.size + 1, ⟨by omega, by omega⟩, (Box.new W _ _ _ _).alloc _, Box.new2 W _ _ _ _ _, rfl⟩
    case body =>
      rintro L pre ⟨⟨⟨k1, n1, t1, A1, l1, c1, ks1⟩, ⟨k2, n2, t2, A2, l2, c2, ks2⟩⟩, hx1, hx2⟩ a' W hl ⟨r, hr⟩ ⟨hI, hB1⟩ ⟨Bx, By, hBx, bX, bY, rfl⟩ hlt
      have hs1 := hB1.size
      have hKX : Kd W ks1 A1 l1 c1 := (hx1.2.2.2.keep fun i hi => hB1.block i hi).mono fun i hi => by omega
      have hKY : Kd W ks2 A2 l2 c2 := (hx2.2.2.2.keep fun i hi => hB1.block i hi).mono fun i hi => by omega
      have hKK : Kd W ks' A' l' c' := hKB'.call (hB1.mono (by omega))
      obtain ⟨e0, e1, e2, e3, ef⟩ := bX.all
      obtain ⟨g0, g1, g2, g3, gf⟩ := (b1.below hB1 (by omega)).all
      obtain ⟨q, hq⟩ : ∃ q, same (.mk k1 n1 t1 ks1) (.mk k' n' t' ks') = q := ⟨_, rfl⟩
      have HI := Lib.hid hI
      have HX2 := Lib.hid hx2
      have hN1 := hx1.2.2.1
      have HQ := Lib.hid hq
      simp only [LV.val] at *
      cases q
      · gi_wp2_with (refine ⟨trivial, ?_⟩; gi_at_call 18; refine (CallsIn.inRound L (callsIn_wide.2 (vsame_any k1 n1 t1 ks1 _ _ _ _ _ _ ks' _ _ _ _ hN1 hKX hKK))).mono ?_; rintro e W1 ⟨rfl, hb1⟩; rw [HQ.out])
        refine ⟨below_keepsFrom hb1, hb1.mono (by omega), ?_, hB1.trans (hb1.mono (by omega))⟩
        rw [List.map_append]
        exact getL_not HI.out (by rw [← hkey]; exact HQ.out)
      · gi_wp2_with (refine ⟨trivial, ?_⟩; gi_at_call 18; refine (CallsIn.inRound L (callsIn_wide.2 (vsame_any k1 n1 t1 ks1 _ _ _ _ _ _ ks' _ _ _ _ hN1 hKX hKK))).mono ?_; rintro e W1 ⟨rfl, hb1⟩; rw [HQ.out]; have f0 := bY.call hb1; obtain ⟨f0, f1, f2, f3, ff⟩ := f0.all)
        have hs2 := hb1.size
        refine ⟨trivial, ?_⟩
        gi_at_call 27
        refine (CallsIn.inRound L (callsIn_wide.2 (vcopy_any k2 n2 t2 ks2 _ _ _ W1 HX2.out.2.2.1 HX2.out.1 HX2.out.2.1 (hKY.call hb1)))).mono ?_
        rintro e W2 ⟨A3, l3, c3, rfl, hN3, hb2⟩
        have hb3 := below_next hb1 hb2
        have hs3 := hb2.size
        have B2 := b2.below (hB1.trans (hb3.mono (by omega))) (by omega)
        have B3 := boxed_below b3 (hB1.trans (hb3.mono (by omega))) (by omega)
        obtain ⟨d0, d1, d2, d3, df⟩ := B2.all
        have i0 := B3.cell
        have iF := B3.frozen
        have HN3 := Lib.hid hN3
        clear hN3
        gi_wp2
        refine ⟨(below_keepsFrom hb3).trans ((set5_keeps W2 (w.heap.size + 1 + 1) (w.heap.size + 1 + 1 + 1) _ _ _ _ _).from _), k2, n2, t2, ks2, A3, l3, c3, ⟨rfl, ?_, HX2.out.1, HX2.out.2.1⟩, set5_box B2 (by omega) _ _ _ _ _, set5_boxed B3 (by omega) _ _ _ _ _, set5_nw (HN3.out.less (by omega)) (by omega) (by omega) _ _ _ _ _, set5_below (hB0.trans ((hB1.trans (hb3.mono (by omega))).mono (by omega))) (by omega) (by omega) _ _ _ _ _⟩
        rw [List.map_append, ← List.append_nil (List.map KV.vs pre ++ _)]
        exact getL_at HI.out (by rw [← hkey]; exact HQ.out)
    case done =>
      rintro D zs W hD hz ⟨hI, hB1⟩ hK
      obtain ⟨d0, d1, d2, d3, df⟩ := (b2.below hB1 (by omega)).all
      have i0 := (boxed_below b3 hB1 (by omega)).cell
      have iF := (boxed_below b3 hB1 (by omega)).frozen
      have HI := Lib.hid hI
      clear hI
      gi_wp2
      have hK' := (set5_keeps W (w.heap.size + 1 + 1) (w.heap.size + 1 + 1 + 1) (.int .u8 0) (.int .u64 0) (.string ⟨#[]⟩) (.slice none 0 0) (.bool false)).same D _ hK rfl
      refine ⟨by simp, .inl ⟨_, _, rfl, run_takeDeferred hK', ?_⟩⟩
      have hgr := grownBy_putObj' (set5 W (w.heap.size + 1 + 1) (w.heap.size + 1 + 1 + 1) (.int .u8 0) (.int .u64 0) (.string ⟨#[]⟩) (.slice none 0 0) (.bool false)) D (.deferred none)
      have hrow : ∀ r, some D = some r → ∃ o : Obj, (set5 W (w.heap.size + 1 + 1) (w.heap.size + 1 + 1 + 1) (.int .u8 0) (.int .u64 0) (.string ⟨#[]⟩) (.slice none 0 0) (.bool false)).heap[r]? = some o ∧ o.isCells = false := fun r e => by cases e; exact ⟨_, hK', rfl⟩
      obtain ⟨d0, d1, d2, d3, df⟩ := ((set5_box (b2.below hB1 (by omega)) (g' := w.heap.size + 1 + 1 + 1) (by omega) (.int .u8 0) (.int .u64 0) (.string ⟨#[]⟩) (.slice none 0 0) (.bool false)).grown hgr hrow).all
      have i1 := (boxed_grown (set5_boxed (boxed_below b3 hB1 (by omega)) (g := w.heap.size + 1 + 1) (by omega) (.int .u8 0) (.int .u64 0) (.string ⟨#[]⟩) (.slice none 0 0) (.bool false)) hgr hrow).cell
      have hbw := set5_below (hB0.trans (hB1.mono (by omega))) (g := w.heap.size + 1 + 1) (g' := w.heap.size + 1 + 1 + 1) (by omega) (by omega) (.int .u8 0) (.int .u64 0) (.string ⟨#[]⟩) (.slice none 0 0) (.bool false)
      have hbz := hbw.trans (belowK_b (w := w) (Nat.le_refl _) _ D _ (.deferred none) (by omega) hK' rfl rfl)
      have hnone : getV (.mk 23 n t ks) (.mk k' n' t' ks') = none := by
        simp only [getV, kind, kids, if_true]
        rw [← hz, hkey]
        exact HI.out
      simp only [set5] at d0 d1 d2 d3 i1 hbz
      refine ⟨.tuple #[.agg #[.int .u8 0, .int .u64 0, .string ⟨#[]⟩, .slice none 0 0], .bool false], by simp [results, Tryd.f32, go_sem, d0, d1, d2, d3, i1], ?_⟩
      exact ⟨0, 0, ⟨#[]⟩, [], none, 0, 0, by rw [hnone]; rfl, by omega, by omega, by rw [hnone]; rfl, Kids.none_ _ _ _ _ _, hbz⟩
    case stop =>
      rintro D d pre W hD hpre ⟨k1, n1, t1, ks1, A1, l1, c1, ⟨rfl, hg, hk1, hn1⟩, d2, d3, hN1, hb1⟩ hK
      have HG := Lib.hid hg
      clear hg
      gi_wp2
      have hgr := grownBy_putObj' W D (.deferred none)
      have hrow : ∀ r, some D = some r → ∃ o : Obj, W.heap[r]? = some o ∧ o.isCells = false := fun r e => by cases e; exact ⟨_, hK, rfl⟩
      refine ⟨by simp, .inl ⟨_, _, rfl, run_takeDeferred hK, ?_⟩⟩
      obtain ⟨f0, f1, f2, f3, ff⟩ := (d2.grown hgr hrow).all
      have i1 := (boxed_grown d3 hgr hrow).cell
      have hsome : getV (.mk 23 n t ks) (.mk k' n' t' ks') = some (.mk k1 n1 t1 ks1) := by
        simp only [getV, kind, kids, if_true]
        obtain ⟨r, hr⟩ := hpre
        rw [← hr, hkey]
        exact getL_pre HG.out
      refine ⟨.tuple #[.agg #[.int .u8 k1, .int .u64 n1, .string t1, .slice A1 l1 c1], .bool true], by simp [results, Tryd.f32, go_sem, f0, f1, f2, f3, i1], ?_⟩
      exact ⟨k1, n1, t1, ks1, A1, l1, c1, by rw [hsome]; rfl, hk1, hn1, by rw [hsome]; rfl, (hN1.grown hgr hrow).less (by omega), hb1.trans (belowK_b (w := w) (Nat.le_refl _) W D _ _ (by omega) hK rfl rfl)⟩
  · gi_wp2
    obtain ⟨d0, d1, d2, d3, df⟩ := b2.all
    have d5 := b3.cell
    refine ⟨.tuple #[.agg #[.int .u8 0, .int .u64 0, .string ⟨#[]⟩, .slice none 0 0], .bool false], by simp [results, Tryd.f32, go_sem], ?_⟩
    exact ⟨0, 0, ⟨#[]⟩, [], none, 0, 0, by simp [getV, kind, hk23, empty], by omega, by omega, by simp [getV, kind, hk23], Kids.none_ _ _ _ _ _, bb⟩
end Go.Proofs.YtdbcdabijolagaaDoor.Val
