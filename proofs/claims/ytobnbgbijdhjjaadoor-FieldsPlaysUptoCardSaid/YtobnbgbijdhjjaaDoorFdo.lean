/-
  Contracts of the laws' does: what is asked of fields, and of none. Memory that was there stays, but for the block of the fields. Conditions: values of bulk at most 2^30; at most 2^40 kinds.
-/
import Derived.Test.YtobnbgbijdhjjaaDoorFwo
namespace Go.Proofs.YtobnbgbijdhjjaaDoor.Fl
set_option maxRecDepth 100000
open Go.RowKit Go.Proofs.YtobnbgbijdhjjaaDoor.Utf Go.Proofs.YtobnbgbijdhjjaaDoor.Val V

/-- What is told: a number, a text, a value, texts, whether something is so, what is wrong. -/
structure TD where
  n : Nat
  s : ByteArray
  v : V
  ts : List ByteArray
  is : Bool
  e : Int
def zeroV : V := .mk 0 0 ⟨#[]⟩ []
def td0 : TD := ⟨0, ⟨#[]⟩, zeroV, [], false, 0⟩
/-- A question. -/
structure AQ where
  what : Int
  i : Int
  kind : Nat
  must : Bool
  z : Nat
  L : List Nat
/-- What is told, and how it stands with the fields then. -/
def doesR (ls : List V) (q : AQ) (sp : Bool) : TD × Bool :=
  if q.what = 0 then ({ td0 with is := (ask ls q.i).isSome }, sp)
  else if q.what = 1 then ({ td0 with n := (oneR ls q.i q.kind q.must sp q.z V.num).1 }, (oneR ls q.i q.kind q.must sp q.z V.num).2)
  else if q.what = 2 then ({ td0 with is := decide ((oneR ls q.i 2 q.must sp 0 V.num).1 = 1) }, (oneR ls q.i 2 q.must sp 0 V.num).2)
  else if q.what = 3 then ({ td0 with s := (oneR ls q.i q.kind q.must sp ⟨#[]⟩ V.text).1 }, (oneR ls q.i q.kind q.must sp ⟨#[]⟩ V.text).2)
  else if q.what = 4 then ({ td0 with v := (valR ls q.i q.L sp).1 }, (valR ls q.i q.L sp).2)
  else if q.what = 5 then ({ td0 with ts := (symR ls q.i sp).1 }, (symR ls q.i sp).2)
  else if q.what = 6 then (td0, true)
  else if q.what = 7 then ({ td0 with e := doneN ls sp q.i }, sp)
  else (td0, sp)
/-- What is told of no fields. -/
def nilR (q : AQ) : TD :=
  if q.what = 1 then { td0 with n := q.z }
  else if q.what = 4 then { td0 with v := nullV }
  else if q.what = 7 then { td0 with e := 2 }
  else td0
/-- What is told, in memory: its kids and its texts in blocks from B on. -/
def RT (B : Nat) (td : TD) (r : Value) (w : World) : Prop := ∃ k n t ks A l c As ns cs, td.v = .mk k n t ks ∧ k < 256 ∧ n < 18446744073709551616 ∧ r = .agg #[.int .u64 (td.n : Int), .string td.s, .int .u8 (k : Int), .int .u64 (n : Int), .string t, .slice A l c, .slice As ns cs, .bool td.is, .int .i64 td.e] ∧ Nw B w ks A l c ∧ Strs B w As ns cs td.ts
/-- A box of what is told. -/
def Bx9 (w : World) (g : Nat) (x0 x1 x2 x3 x4 x5 x6 x7 x8 : Value) : Prop := w.heap[g]? = some (.cells #[x0, x1, x2, x3, x4, x5, x6, x7, x8] 40 (0, 0))
def Bx6 (w : World) (g : Nat) (x0 x1 x2 x3 x4 x5 : Value) : Prop := w.heap[g]? = some (.cells #[x0, x1, x2, x3, x4, x5] 44 (0, 0))
section
variable {w w' : World} {g : Nat} {x0 x1 x2 x3 x4 x5 x6 x7 x8 : Value}
theorem Bx9.all (h : Bx9 w g x0 x1 x2 x3 x4 x5 x6 x7 x8) : w.cell? ⟨g, 0, none⟩ = some x0 ∧ w.cell? ⟨g, 1, none⟩ = some x1 ∧ w.cell? ⟨g, 2, none⟩ = some x2 ∧ w.cell? ⟨g, 3, none⟩ = some x3 ∧ w.cell? ⟨g, 4, none⟩ = some x4 ∧ w.cell? ⟨g, 5, none⟩ = some x5 ∧ w.cell? ⟨g, 6, none⟩ = some x6 ∧ w.cell? ⟨g, 7, none⟩ = some x7 ∧ w.cell? ⟨g, 8, none⟩ = some x8 ∧ ∀ j, w.frozen? ⟨g, j, none⟩ = false := by
  refine ⟨cell_of_row w g 0 _ _ _ h, cell_of_row w g 1 _ _ _ h, cell_of_row w g 2 _ _ _ h, cell_of_row w g 3 _ _ _ h, cell_of_row w g 4 _ _ _ h, cell_of_row w g 5 _ _ _ h, cell_of_row w g 6 _ _ _ h, cell_of_row w g 7 _ _ _ h, cell_of_row w g 8 _ _ _ h, fun j => ?_⟩
  unfold Bx9 at h
  simp [World.frozen?, h]
theorem Bx6.all (h : Bx6 w g x0 x1 x2 x3 x4 x5) : w.cell? ⟨g, 0, none⟩ = some x0 ∧ w.cell? ⟨g, 1, none⟩ = some x1 ∧ w.cell? ⟨g, 2, none⟩ = some x2 ∧ w.cell? ⟨g, 3, none⟩ = some x3 ∧ w.cell? ⟨g, 4, none⟩ = some x4 ∧ w.cell? ⟨g, 5, none⟩ = some x5 :=
  ⟨cell_of_row w g 0 _ _ _ h, cell_of_row w g 1 _ _ _ h, cell_of_row w g 2 _ _ _ h, cell_of_row w g 3 _ _ _ h, cell_of_row w g 4 _ _ _ h, cell_of_row w g 5 _ _ _ h⟩
theorem Bx9.lt (h : Bx9 w g x0 x1 x2 x3 x4 x5 x6 x7 x8) : g < w.heap.size := (Array.getElem?_eq_some_iff.1 h).1
theorem Bx6.lt (h : Bx6 w g x0 x1 x2 x3 x4 x5) : g < w.heap.size := (Array.getElem?_eq_some_iff.1 h).1
theorem Bx9.off {X : Nat → Prop} (h : Bx9 w g x0 x1 x2 x3 x4 x5 x6 x7 x8) (ho : Off X w w') (hX : ¬ X g) : Bx9 w' g x0 x1 x2 x3 x4 x5 x6 x7 x8 := (ho.block g h.lt hX).trans h
theorem Bx6.off {X : Nat → Prop} (h : Bx6 w g x0 x1 x2 x3 x4 x5) (ho : Off X w w') (hX : ¬ X g) : Bx6 w' g x0 x1 x2 x3 x4 x5 := (ho.block g h.lt hX).trans h
theorem Off.snoc {X : Nat → Prop} {w w1 : World} {g j : Nat} {v : Value} (h : Off X w w1) (hx : X g) : Off X w (w1.setCell ⟨g, j, none⟩ v) := h.trans (Off.set _ _ _ hx)
end
/-- What is kept while something is asked: the question's box, two of what is told. Blocks of X may have changed. -/
structure DS (X : Nat → Prop) (w wi : World) (q0 q1 q2 q3 q4 q5 : Value) : Prop where
  off : Off X w wi
  b3 : Bx6 wi w.heap.size q0 q1 q2 q3 q4 q5
  b4 : Bx9 wi (w.heap.size + 1) (.int .u64 0) (.string ⟨#[]⟩) (.int .u8 0) (.int .u64 0) (.string ⟨#[]⟩) (.slice none 0 0) (.slice none 0 0) (.bool false) (.int .i64 0)
  b5 : Bx9 wi (w.heap.size + 2) (.int .u64 0) (.string ⟨#[]⟩) (.int .u8 0) (.int .u64 0) (.string ⟨#[]⟩) (.slice none 0 0) (.slice none 0 0) (.bool false) (.int .i64 0)
  lt : ∀ i, X i → i < w.heap.size
section
variable {X : Nat → Prop} {w wi w' : World} {q0 q1 q2 q3 q4 q5 : Value}
theorem DS.next (h : DS X w wi q0 q1 q2 q3 q4 q5) (ho : Off X wi w') : DS X w w' q0 q1 q2 q3 q4 q5 := by
  have hl := h.lt
  exact ⟨h.off.trans ho, h.b3.off ho (fun e => by have := hl _ e; omega), h.b4.off ho (fun e => by have := hl _ e; omega), h.b5.off ho (fun e => by have := hl _ e; omega), hl⟩
theorem DS.call (h : DS X w wi q0 q1 q2 q3 q4 q5) (hb : Below wi.heap.size wi w') : DS X w w' q0 q1 q2 q3 q4 q5 := h.next (Off.of X hb)
theorem DS.size (h : DS X w wi q0 q1 q2 q3 q4 q5) : w.heap.size + 3 ≤ wi.heap.size := by have := h.b5.lt; omega
theorem DS.new (X : Nat → Prop) (w : World) (q0 q1 q2 q3 q4 q5 : Value) (hl : ∀ i, X i → i < w.heap.size) : DS X w (((w.alloc (.cells #[q0, q1, q2, q3, q4, q5] 44)).alloc (.cells #[.int .u64 0, .string ⟨#[]⟩, .int .u8 0, .int .u64 0, .string ⟨#[]⟩, .slice none 0 0, .slice none 0 0, .bool false, .int .i64 0] 40)).alloc (.cells #[.int .u64 0, .string ⟨#[]⟩, .int .u8 0, .int .u64 0, .string ⟨#[]⟩, .slice none 0 0, .slice none 0 0, .bool false, .int .i64 0] 40)) q0 q1 q2 q3 q4 q5 := by
  have h1 := heap_alloc_new w (.cells #[q0, q1, q2, q3, q4, q5] 44)
  have h2 := heap_alloc_new (w.alloc (.cells #[q0, q1, q2, q3, q4, q5] 44)) (.cells #[.int .u64 0, .string ⟨#[]⟩, .int .u8 0, .int .u64 0, .string ⟨#[]⟩, .slice none 0 0, .slice none 0 0, .bool false, .int .i64 0] 40)
  have h3 := heap_alloc_new ((w.alloc (.cells #[q0, q1, q2, q3, q4, q5] 44)).alloc (.cells #[.int .u64 0, .string ⟨#[]⟩, .int .u8 0, .int .u64 0, .string ⟨#[]⟩, .slice none 0 0, .slice none 0 0, .bool false, .int .i64 0] 40)) (.cells #[.int .u64 0, .string ⟨#[]⟩, .int .u8 0, .int .u64 0, .string ⟨#[]⟩, .slice none 0 0, .slice none 0 0, .bool false, .int .i64 0] 40)
  simp only [World.size_alloc] at h2 h3
  refine ⟨Off.of X (((two_boxes w _ _)).alloc (by simp; omega) _), ?_, ?_, h3, hl⟩
  · exact (Below.heap_alloc _ _ _ (by simp; omega)).trans ((Below.heap_alloc _ _ _ (by simp)).trans h1)
  · exact (Below.heap_alloc _ _ _ (by simp)).trans h2
/-- The answer, where what is told is stored into the two boxes. -/
theorem DS.fin {td : TD} {k n : Nat} {t : ByteArray} {ks : List V} {A : Option Addr} {l c : Nat} {As : Option Addr} {ns cs : Nat} (h : DS X w wi q0 q1 q2 q3 q4 q5) (hu : Off (fun i => i = w.heap.size + 1 ∨ i = w.heap.size + 2) wi w') (hv : td.v = .mk k n t ks) (hk : k < 256) (hn : n < 18446744073709551616)
    (hN : Nw (w.heap.size + 3) wi ks A l c) (hS : Strs (w.heap.size + 3) wi As ns cs td.ts) :
    RT w.heap.size td (.agg #[.int .u64 (td.n : Int), .string td.s, .int .u8 (k : Int), .int .u64 (n : Int), .string t, .slice A l c, .slice As ns cs, .bool td.is, .int .i64 td.e]) w' ∧ Off X w w' := by
  refine ⟨⟨k, n, t, ks, A, l, c, As, ns, cs, hv, hk, hn, rfl, ?_, ?_⟩, ?_⟩
  · exact (Go.Proofs.YtobnbgbijdhjjaaDoor.Val.Kids.keep hN fun i hi => hu.block i hi.2 (by omega)).mono fun i hi => ⟨by omega, Nat.lt_of_lt_of_le hi.2 hu.size⟩
  · exact (hS.keep fun g hg => by have := World.ownsRow.lt hS g hg; exact hu.block g this.2 (by omega)).mono (by omega)
  · refine ⟨hu.os.trans h.off.os, hu.tape.trans h.off.tape, hu.output.trans h.off.output, Nat.le_trans h.off.size hu.size, fun i hi hx => ?_⟩
    have := h.off.size
    exact (hu.block i (by omega) (by omega)).trans (h.off.block i hi hx)
theorem DS.finN {td : TD} {k n : Nat} {t : ByteArray} {ks : List V} {A : Option Addr} {l c : Nat} {As : Option Addr} {ns cs : Nat} (h : DS (fun _ => False) w wi q0 q1 q2 q3 q4 q5) (hv : td.v = .mk k n t ks) (hk : k < 256) (hn : n < 18446744073709551616)
    (hN : Nw (w.heap.size + 3) wi ks A l c) (hS : Strs (w.heap.size + 3) wi As ns cs td.ts) (hu : Off (fun i => i = w.heap.size + 1 ∨ i = w.heap.size + 2) wi w') :
    ∃ r, Ending.returned (.agg #[.int .u64 (td.n : Int), .string td.s, .int .u8 (k : Int), .int .u64 (n : Int), .string t, .slice A l c, .slice As ns cs, .bool td.is, .int .i64 td.e]) = .returned r ∧ RT w.heap.size td r w' ∧ Below w.heap.size w w' := by
  obtain ⟨h1, h2⟩ := h.fin hu hv hk hn hN hS
  exact ⟨_, rfl, h1, h2.below (Nat.le_refl _) (fun _ _ h => h)⟩
end
theorem spoil_nilB (w : World) : Calls Tryd.prog 44 #[.pointer none] w fun e w' => (∃ v, e = .returned v) ∧ Below w.heap.size w w' := (spoil_nil w).mono fun _ _ h => ⟨h.1, h.2 ▸ Below.refl _ _⟩
theorem done_nilB (n : Int) (w : World) : Calls Tryd.prog 17 #[.pointer none, .int .i64 n] w fun e w' => e = .returned (.int .i64 2) ∧ Below w.heap.size w w' := (done_nil n w).mono fun _ _ h => ⟨h.1, h.2 ▸ Below.refl _ _⟩
theorem askV_nil (i : Int) (fn : Value) (w : World) :
    Calls Tryd.prog 76 #[.pointer none, .int .i64 i, .bool false, .agg #[.int .u8 1, .int .u64 0, .string ⟨#[]⟩, .slice none 0 0], fn] w fun e w' => e = .returned (.agg #[.int .u8 1, .int .u64 0, .string ⟨#[]⟩, .slice none 0 0]) ∧ Below w.heap.size w w' := by
  obtain ⟨b8, b10, hB⟩ := boxes2 w (.int .u8 1) (.int .u64 0) (.string ⟨#[]⟩) (.slice none 0 0) (.int .u8 0) (.int .u64 0) (.string ⟨#[]⟩) (.slice none 0 0)
  have H8 := Lib.hid b8
  have H10 := Lib.hid b10
  have HB := Lib.hid hB
  clear b8 b10 hB
  go_enter Tryd.func76, Tryd.ntmps76
  go_wp2_with fail
  refine (has_nil i _).mono ?_
  rintro e w1 ⟨rfl, hb1⟩
  obtain ⟨c0, c1, c2, c3, cf⟩ := (H8.out.call hb1).all
  obtain ⟨d0, d1, d2, d3, df⟩ := (H10.out.call hb1).all
  have HB1 := Lib.hid (below_next HB.out hb1)
  clear hb1
  go_wp2
  refine bodyPost_ret (v := .agg #[.int .u8 1, .int .u64 0, .string ⟨#[]⟩, .slice none 0 0]) (by simp [results, Tryd.results76, go_sem, d0, d1, d2, d3]) rfl ?_
  exact ⟨rfl, below_set4 HB1.out (by omega) _ _ _ _⟩
theorem fvalue_nil (i : Int) (KA : Option Addr) (kl kc : Nat) (w : World) : Calls Tryd.prog 43 #[.pointer none, .int .i64 i, .slice KA kl kc] w fun e w' => e = .returned (.agg #[.int .u8 1, .int .u64 0, .string ⟨#[]⟩, .slice none 0 0]) ∧ Below w.heap.size w w' := by
  have hB : Below w.heap.size w ((w.alloc (.cells #[.slice KA kl kc] 42)).alloc (.cells #[.int .u8 0, .int .u64 0, .string ⟨#[]⟩, .slice none 0 0] 25)) := two_boxes w _ _
  have hbx := Box.new2 w (.cells #[.slice KA kl kc] 42) (.int .u8 0) (.int .u64 0) (.string ⟨#[]⟩) (.slice none 0 0)
  have HB := Lib.hid hB
  have HBX := Lib.hid hbx
  clear hB hbx
  go_enter Tryd.func43, Tryd.ntmps43
  go_wp2_with fail
  refine (nul_new _).mono ?_
  rintro e w1 ⟨rfl, hb1⟩
  have HB1 := Lib.hid (below_next HB.out hb1)
  have HBX1 := Lib.hid (HBX.out.call hb1)
  clear hb1
  go_wp2_with fail
  refine (askV_nil i _ _).mono ?_
  rintro e w2 ⟨rfl, hb2⟩
  obtain ⟨f0, f1, f2, f3, ff⟩ := (HBX1.out.call hb2).all
  have HB2 := Lib.hid (below_next HB1.out hb2)
  clear hb2
  go_wp2
  refine bodyPost_ret (v := .agg #[.int .u8 1, .int .u64 0, .string ⟨#[]⟩, .slice none 0 0]) (by simp [results, Tryd.results43, go_sem, f0, f1, f2, f3]) rfl ?_
  exact ⟨rfl, below_set4 HB2.out (by omega) _ _ _ _⟩

set_option maxHeartbeats 1000000 in
theorem doesnil_any (q : AQ) (KA : Option Addr) (kl kc : Nat) (w : World) (hz : q.z < 18446744073709551616) :
    Calls Tryd.prog 15 #[.pointer none, .agg #[.int .i64 q.what, .int .i64 q.i, .int .u8 (q.kind : Int), .bool q.must, .int .u64 (q.z : Int), .slice KA kl kc]] w (fun e w' => ∃ r, e = .returned r ∧ RT w.heap.size (nilR q) r w' ∧ Below w.heap.size w w') := by
  have HS := Lib.hid (DS.new (fun _ => False) w (.int .i64 q.what) (.int .i64 q.i) (.int .u8 (q.kind : Int)) (.bool q.must) (.int .u64 (q.z : Int)) (.slice KA kl kc) (fun _ h => h.elim))
  obtain ⟨what, qi, kind, must, z, L⟩ := q
  simp only at HS hz ⊢
  clear hz
  by_cases h0 : what = 0
  · subst h0
    go_enter Tryd.func15, Tryd.ntmps15
    go_wp2_with fail
    refine (has_nil qi _).mono ?_
    rintro e w1 ⟨rfl, hb1⟩
    have H1 := Lib.hid (HS.out.call hb1)
    clear hb1
    obtain ⟨a0, a1, a2, a3, a4, a5⟩ := H1.out.b3.all
    obtain ⟨b0, b1, b2, b3, b4, b5, b6, b7, b8, bf⟩ := H1.out.b4.all
    obtain ⟨c0, c1, c2, c3, c4, c5, c6, c7, c8, cf⟩ := H1.out.b5.all
    go_wp2
    refine bodyPost_ret (v := .agg #[.int .u64 0, .string ⟨#[]⟩, .int .u8 0, .int .u64 0, .string ⟨#[]⟩, .slice none 0 0, .slice none 0 0, .bool false, .int .i64 0]) (by simp [results, Tryd.results15, go_sem, b0, b1, b2, b3, b4, b5, b6, b7, b8]) rfl ?_
    show ∃ r, _ = Ending.returned r ∧ RT _ ⟨0, ⟨#[]⟩, zeroV, [], false, 0⟩ r _ ∧ _
    refine DS.finN (td := ⟨0, ⟨#[]⟩, zeroV, [], false, 0⟩) (k := 0) (n := 0) (t := ⟨#[]⟩) (ks := []) H1.out rfl (by omega) (by omega) (Kids.none_ _ _ _ none 0) (Strs.nil _ _) ?_
    (repeat refine Off.snoc ?_ (by simp))
    exact Off.refl _ _
  by_cases h1 : what = 1
  · subst h1
    go_enter Tryd.func15, Tryd.ntmps15
    go_wp2_with fail
    refine (number_nil qi kind must z _).mono ?_
    rintro e w1 ⟨rfl, hb1⟩
    have H1 := Lib.hid (HS.out.call hb1)
    clear hb1
    obtain ⟨a0, a1, a2, a3, a4, a5⟩ := H1.out.b3.all
    obtain ⟨b0, b1, b2, b3, b4, b5, b6, b7, b8, bf⟩ := H1.out.b4.all
    obtain ⟨c0, c1, c2, c3, c4, c5, c6, c7, c8, cf⟩ := H1.out.b5.all
    go_wp2
    refine bodyPost_ret (v := .agg #[.int .u64 (z : Int), .string ⟨#[]⟩, .int .u8 0, .int .u64 0, .string ⟨#[]⟩, .slice none 0 0, .slice none 0 0, .bool false, .int .i64 0]) (by simp [results, Tryd.results15, go_sem, b0, b1, b2, b3, b4, b5, b6, b7, b8]) rfl ?_
    show ∃ r, _ = Ending.returned r ∧ RT _ ⟨z, ⟨#[]⟩, zeroV, [], false, 0⟩ r _ ∧ _
    refine DS.finN (td := ⟨z, ⟨#[]⟩, zeroV, [], false, 0⟩) (k := 0) (n := 0) (t := ⟨#[]⟩) (ks := []) H1.out rfl (by omega) (by omega) (Kids.none_ _ _ _ none 0) (Strs.nil _ _) ?_
    (repeat refine Off.snoc ?_ (by simp))
    exact Off.refl _ _
  by_cases h2 : what = 2
  · subst h2
    go_enter Tryd.func15, Tryd.ntmps15
    go_wp2_with fail
    refine (fbool_nil qi must _).mono ?_
    rintro e w1 ⟨rfl, hb1⟩
    have H1 := Lib.hid (HS.out.call hb1)
    clear hb1
    obtain ⟨a0, a1, a2, a3, a4, a5⟩ := H1.out.b3.all
    obtain ⟨b0, b1, b2, b3, b4, b5, b6, b7, b8, bf⟩ := H1.out.b4.all
    obtain ⟨c0, c1, c2, c3, c4, c5, c6, c7, c8, cf⟩ := H1.out.b5.all
    go_wp2
    refine bodyPost_ret (v := .agg #[.int .u64 0, .string ⟨#[]⟩, .int .u8 0, .int .u64 0, .string ⟨#[]⟩, .slice none 0 0, .slice none 0 0, .bool false, .int .i64 0]) (by simp [results, Tryd.results15, go_sem, b0, b1, b2, b3, b4, b5, b6, b7, b8]) rfl ?_
    show ∃ r, _ = Ending.returned r ∧ RT _ ⟨0, ⟨#[]⟩, zeroV, [], false, 0⟩ r _ ∧ _
    refine DS.finN (td := ⟨0, ⟨#[]⟩, zeroV, [], false, 0⟩) (k := 0) (n := 0) (t := ⟨#[]⟩) (ks := []) H1.out rfl (by omega) (by omega) (Kids.none_ _ _ _ none 0) (Strs.nil _ _) ?_
    (repeat refine Off.snoc ?_ (by simp))
    exact Off.refl _ _
  by_cases h3 : what = 3
  · subst h3
    go_enter Tryd.func15, Tryd.ntmps15
    go_wp2_with fail
    refine (ftext_nil qi kind must _).mono ?_
    rintro e w1 ⟨rfl, hb1⟩
    have H1 := Lib.hid (HS.out.call hb1)
    clear hb1
    obtain ⟨a0, a1, a2, a3, a4, a5⟩ := H1.out.b3.all
    obtain ⟨b0, b1, b2, b3, b4, b5, b6, b7, b8, bf⟩ := H1.out.b4.all
    obtain ⟨c0, c1, c2, c3, c4, c5, c6, c7, c8, cf⟩ := H1.out.b5.all
    go_wp2
    refine bodyPost_ret (v := .agg #[.int .u64 0, .string ⟨#[]⟩, .int .u8 0, .int .u64 0, .string ⟨#[]⟩, .slice none 0 0, .slice none 0 0, .bool false, .int .i64 0]) (by simp [results, Tryd.results15, go_sem, b0, b1, b2, b3, b4, b5, b6, b7, b8]) rfl ?_
    show ∃ r, _ = Ending.returned r ∧ RT _ ⟨0, ⟨#[]⟩, zeroV, [], false, 0⟩ r _ ∧ _
    refine DS.finN (td := ⟨0, ⟨#[]⟩, zeroV, [], false, 0⟩) (k := 0) (n := 0) (t := ⟨#[]⟩) (ks := []) H1.out rfl (by omega) (by omega) (Kids.none_ _ _ _ none 0) (Strs.nil _ _) ?_
    (repeat refine Off.snoc ?_ (by simp))
    exact Off.refl _ _
  by_cases h4 : what = 4
  · subst h4
    go_enter Tryd.func15, Tryd.ntmps15
    go_wp2_with fail
    refine (fvalue_nil qi KA kl kc _).mono ?_
    rintro e w1 ⟨rfl, hb1⟩
    have H1 := Lib.hid (HS.out.call hb1)
    clear hb1
    obtain ⟨a0, a1, a2, a3, a4, a5⟩ := H1.out.b3.all
    obtain ⟨b0, b1, b2, b3, b4, b5, b6, b7, b8, bf⟩ := H1.out.b4.all
    obtain ⟨c0, c1, c2, c3, c4, c5, c6, c7, c8, cf⟩ := H1.out.b5.all
    go_wp2
    refine bodyPost_ret (v := .agg #[.int .u64 0, .string ⟨#[]⟩, .int .u8 1, .int .u64 0, .string ⟨#[]⟩, .slice none 0 0, .slice none 0 0, .bool false, .int .i64 0]) (by simp [results, Tryd.results15, go_sem, b0, b1, b2, b3, b4, b5, b6, b7, b8]) rfl ?_
    show ∃ r, _ = Ending.returned r ∧ RT _ ⟨0, ⟨#[]⟩, nullV, [], false, 0⟩ r _ ∧ _
    refine DS.finN (td := ⟨0, ⟨#[]⟩, nullV, [], false, 0⟩) (k := 1) (n := 0) (t := ⟨#[]⟩) (ks := []) H1.out rfl (by omega) (by omega) (Kids.none_ _ _ _ none 0) (Strs.nil _ _) ?_
    (repeat refine Off.snoc ?_ (by simp))
    exact Off.refl _ _
  by_cases h5 : what = 5
  · subst h5
    go_enter Tryd.func15, Tryd.ntmps15
    go_wp2_with fail
    refine (symbols_nil qi _).mono ?_
    rintro e w1 ⟨rfl, hb1⟩
    have H1 := Lib.hid (HS.out.call hb1)
    clear hb1
    obtain ⟨a0, a1, a2, a3, a4, a5⟩ := H1.out.b3.all
    obtain ⟨b0, b1, b2, b3, b4, b5, b6, b7, b8, bf⟩ := H1.out.b4.all
    obtain ⟨c0, c1, c2, c3, c4, c5, c6, c7, c8, cf⟩ := H1.out.b5.all
    go_wp2
    refine bodyPost_ret (v := .agg #[.int .u64 0, .string ⟨#[]⟩, .int .u8 0, .int .u64 0, .string ⟨#[]⟩, .slice none 0 0, .slice none 0 0, .bool false, .int .i64 0]) (by simp [results, Tryd.results15, go_sem, b0, b1, b2, b3, b4, b5, b6, b7, b8]) rfl ?_
    show ∃ r, _ = Ending.returned r ∧ RT _ ⟨0, ⟨#[]⟩, zeroV, [], false, 0⟩ r _ ∧ _
    refine DS.finN (td := ⟨0, ⟨#[]⟩, zeroV, [], false, 0⟩) (k := 0) (n := 0) (t := ⟨#[]⟩) (ks := []) H1.out rfl (by omega) (by omega) (Kids.none_ _ _ _ none 0) (Strs.nil _ _) ?_
    (repeat refine Off.snoc ?_ (by simp))
    exact Off.refl _ _
  by_cases h6 : what = 6
  · subst h6
    go_enter Tryd.func15, Tryd.ntmps15
    go_wp2_with fail
    refine (spoil_nilB _).mono ?_
    rintro e w1 ⟨⟨v, rfl⟩, hb1⟩
    have H1 := Lib.hid (HS.out.call hb1)
    clear hb1
    obtain ⟨a0, a1, a2, a3, a4, a5⟩ := H1.out.b3.all
    obtain ⟨b0, b1, b2, b3, b4, b5, b6, b7, b8, bf⟩ := H1.out.b4.all
    obtain ⟨c0, c1, c2, c3, c4, c5, c6, c7, c8, cf⟩ := H1.out.b5.all
    go_wp2
    refine bodyPost_ret (v := .agg #[.int .u64 0, .string ⟨#[]⟩, .int .u8 0, .int .u64 0, .string ⟨#[]⟩, .slice none 0 0, .slice none 0 0, .bool false, .int .i64 0]) (by simp [results, Tryd.results15, go_sem, b0, b1, b2, b3, b4, b5, b6, b7, b8]) rfl ?_
    show ∃ r, _ = Ending.returned r ∧ RT _ ⟨0, ⟨#[]⟩, zeroV, [], false, 0⟩ r _ ∧ _
    refine DS.finN (td := ⟨0, ⟨#[]⟩, zeroV, [], false, 0⟩) (k := 0) (n := 0) (t := ⟨#[]⟩) (ks := []) H1.out rfl (by omega) (by omega) (Kids.none_ _ _ _ none 0) (Strs.nil _ _) ?_
    (repeat refine Off.snoc ?_ (by simp))
    exact Off.refl _ _
  by_cases h7 : what = 7
  · subst h7
    go_enter Tryd.func15, Tryd.ntmps15
    go_wp2_with fail
    refine (done_nilB qi _).mono ?_
    rintro e w1 ⟨rfl, hb1⟩
    have H1 := Lib.hid (HS.out.call hb1)
    clear hb1
    obtain ⟨a0, a1, a2, a3, a4, a5⟩ := H1.out.b3.all
    obtain ⟨b0, b1, b2, b3, b4, b5, b6, b7, b8, bf⟩ := H1.out.b4.all
    obtain ⟨c0, c1, c2, c3, c4, c5, c6, c7, c8, cf⟩ := H1.out.b5.all
    go_wp2
    refine bodyPost_ret (v := .agg #[.int .u64 0, .string ⟨#[]⟩, .int .u8 0, .int .u64 0, .string ⟨#[]⟩, .slice none 0 0, .slice none 0 0, .bool false, .int .i64 2]) (by simp [results, Tryd.results15, go_sem, b0, b1, b2, b3, b4, b5, b6, b7, b8]) rfl ?_
    show ∃ r, _ = Ending.returned r ∧ RT _ ⟨0, ⟨#[]⟩, zeroV, [], false, 2⟩ r _ ∧ _
    refine DS.finN (td := ⟨0, ⟨#[]⟩, zeroV, [], false, 2⟩) (k := 0) (n := 0) (t := ⟨#[]⟩) (ks := []) H1.out rfl (by omega) (by omega) (Kids.none_ _ _ _ none 0) (Strs.nil _ _) ?_
    (repeat refine Off.snoc ?_ (by simp))
    exact Off.refl _ _
  have e0 : (what == 0) = false := by simp [h0]
  have e1 : (what == 1) = false := by simp [h1]
  have e2 : (what == 2) = false := by simp [h2]
  have e3 : (what == 3) = false := by simp [h3]
  have e4 : (what == 4) = false := by simp [h4]
  have e5 : (what == 5) = false := by simp [h5]
  have e6 : (what == 6) = false := by simp [h6]
  have e7 : (what == 7) = false := by simp [h7]
  have HNR : Hid (nilR ⟨what, qi, kind, must, z, L⟩ = td0) := Lib.hid (by unfold nilR; rw [if_neg h1, if_neg h4, if_neg h7])
  clear h0 h1 h2 h3 h4 h5 h6 h7
  obtain ⟨b0, b1, b2, b3, b4, b5, b6, b7, b8, bf⟩ := HS.out.b4.all
  obtain ⟨c0, c1, c2, c3, c4, c5, c6, c7, c8, cf⟩ := HS.out.b5.all
  go_enter Tryd.func15, Tryd.ntmps15
  go_wp2
  refine bodyPost_ret (v := .agg #[.int .u64 0, .string ⟨#[]⟩, .int .u8 0, .int .u64 0, .string ⟨#[]⟩, .slice none 0 0, .slice none 0 0, .bool false, .int .i64 0]) (by simp [results, Tryd.results15, go_sem, b0, b1, b2, b3, b4, b5, b6, b7, b8]) rfl ?_
  rw [HNR.out]
  refine DS.finN (td := td0) (k := 0) (n := 0) (t := ⟨#[]⟩) (ks := []) HS.out rfl (by omega) (by omega) (Kids.none_ _ _ _ none 0) (Strs.nil _ _) ?_
  (repeat refine Off.snoc ?_ (by simp))
  exact Off.refl _ _
end Go.Proofs.YtobnbgbijdhjjaaDoor.Fl
