/-
  Words for the walk of encode's plan: what a plan of something called is; what holds while names are gathered, kids are planned, and their bytes are counted. No condition.
-/
import Derived.Test.YtophlpkbpjhhjaaDoorPlRow
import Derived.Test.YtophlpkbpjhhjaaDoorLayX
import Derived.Test.YtophlpkbpjhhjaaDoorSpec
namespace Go.Proofs.YtophlpkbpjhhjaaDoor.Enc
set_option maxRecDepth 100000
open Go.RowKit Go.Proofs.YtophlpkbpjhhjaaDoor.Utf Go.Proofs.YtophlpkbpjhhjaaDoor.Val V

def addN (ds : List Pl) : Pl → Pl
  | .mk ns k n t c b ks re im => .mk (ds ++ ns) k n t c b ks re im
theorem addN_nil (p : Pl) : addN [] p = p := by cases p; rfl
theorem addN_addN (a b : List Pl) (p : Pl) : addN a (addN b p) = addN (a ++ b) p := by cases p; simp [addN]
theorem plan_desc (n : Nat) (t : ByteArray) (x y : V) : plan (.mk 25 n t [x, y]) = addN [plan x] (plan y) := by
  rw [plan, if_pos rfl, planL, planL, planL]
  cases plan y
  rfl
theorem plan_core {k : Nat} (n : Nat) (t : ByteArray) (ks : List V) (h : k ≠ 25) : plan (.mk k n t ks) = fin [] k n t ks.length (if k = 24 then alikeP (planL ks) else planL ks) := by
  rw [plan, if_neg h]
theorem addN_fin (ds : List Pl) (k n : Nat) (t : ByteArray) (m : Nat) (ks : List Pl) : addN ds (fin [] k n t m ks) = .mk ds k n t (first [raw ds k n t m ks]) false ks (longK ks) m := by
  simp only [addN, fin, raw, List.append_nil]
  rw [first_names]

theorem PR.far {B : Nat} {wr w' : World} {A : Option Addr} {n c : Nat} {done : List Pl} {xs : List Value} (h : PR B wr A n c done xs) (hk : ∀ i, B ≤ i → i < wr.heap.size → w'.heap[i]? = wr.heap[i]?) (hs : wr.heap.size ≤ w'.heap.size) : PR B w' A n c done xs := by
  refine ⟨⟨h.own.1, ?_⟩, (h.cells.keep fun i hi => hk i hi.1 hi.2.1).mono fun i hi => ⟨hi.1, Nat.lt_of_lt_of_le hi.2.1 hs, hi.2.2⟩⟩
  rcases h.own.2 with hn | ⟨g, cap, cur, hv, hb, hg, hr⟩
  · exact .inl hn
  · exact .inr ⟨g, cap, cur, hv, hb, (hk g hb (Array.getElem?_eq_some_iff.1 hg).1).trans hg, hr⟩
theorem PR.setCell {B : Nat} {wr : World} {A : Option Addr} {n c : Nat} {done : List Pl} {xs : List Value} (h : PR B wr A n c done xs) {p : Addr} (hp : p.block < B) (u : Value) : PR B (wr.setCell p u) A n c done xs :=
  h.far (fun i hi _ => Below.heap_setCell wr p u i (by omega)) (by simp)
theorem Bx.set (w : World) (g : Nat) (x0 x1 x2 x3 x4 x5 x6 x7 x8 u : Value) (h : Bx w g x0 x1 x2 x3 x4 x5 x6 x7 x8) :
    Bx (w.setCell ⟨g, 0, none⟩ u) g u x1 x2 x3 x4 x5 x6 x7 x8 ∧ Bx (w.setCell ⟨g, 1, none⟩ u) g x0 u x2 x3 x4 x5 x6 x7 x8 ∧ Bx (w.setCell ⟨g, 2, none⟩ u) g x0 x1 u x3 x4 x5 x6 x7 x8 ∧ Bx (w.setCell ⟨g, 3, none⟩ u) g x0 x1 x2 u x4 x5 x6 x7 x8 ∧ Bx (w.setCell ⟨g, 4, none⟩ u) g x0 x1 x2 x3 u x5 x6 x7 x8 ∧
    Bx (w.setCell ⟨g, 5, none⟩ u) g x0 x1 x2 x3 x4 u x6 x7 x8 ∧ Bx (w.setCell ⟨g, 7, none⟩ u) g x0 x1 x2 x3 x4 x5 x6 u x8 ∧ Bx (w.setCell ⟨g, 8, none⟩ u) g x0 x1 x2 x3 x4 x5 x6 x7 u := by
  unfold Bx at h ⊢
  refine ⟨?_, ?_, ?_, ?_, ?_, ?_, ?_, ?_⟩ <;> simp [World.setCell, Array.getElem?_modify, h]
section
variable {w : World} {g : Nat} {x0 x1 x2 x3 x4 x5 x6 x7 x8 : Value}
theorem Bx.set0 (h : Bx w g x0 x1 x2 x3 x4 x5 x6 x7 x8) (u : Value) : Bx (w.setCell ⟨g, 0, none⟩ u) g u x1 x2 x3 x4 x5 x6 x7 x8 := (Bx.set w g _ _ _ _ _ _ _ _ _ u h).1
theorem Bx.set1 (h : Bx w g x0 x1 x2 x3 x4 x5 x6 x7 x8) (u : Value) : Bx (w.setCell ⟨g, 1, none⟩ u) g x0 u x2 x3 x4 x5 x6 x7 x8 := (Bx.set w g _ _ _ _ _ _ _ _ _ u h).2.1
theorem Bx.set2 (h : Bx w g x0 x1 x2 x3 x4 x5 x6 x7 x8) (u : Value) : Bx (w.setCell ⟨g, 2, none⟩ u) g x0 x1 u x3 x4 x5 x6 x7 x8 := (Bx.set w g _ _ _ _ _ _ _ _ _ u h).2.2.1
theorem Bx.set3 (h : Bx w g x0 x1 x2 x3 x4 x5 x6 x7 x8) (u : Value) : Bx (w.setCell ⟨g, 3, none⟩ u) g x0 x1 x2 u x4 x5 x6 x7 x8 := (Bx.set w g _ _ _ _ _ _ _ _ _ u h).2.2.2.1
theorem Bx.set4 (h : Bx w g x0 x1 x2 x3 x4 x5 x6 x7 x8) (u : Value) : Bx (w.setCell ⟨g, 4, none⟩ u) g x0 x1 x2 x3 u x5 x6 x7 x8 := (Bx.set w g _ _ _ _ _ _ _ _ _ u h).2.2.2.2.1
theorem Bx.set5 (h : Bx w g x0 x1 x2 x3 x4 x5 x6 x7 x8) (u : Value) : Bx (w.setCell ⟨g, 5, none⟩ u) g x0 x1 x2 x3 x4 u x6 x7 x8 := (Bx.set w g _ _ _ _ _ _ _ _ _ u h).2.2.2.2.2.1
theorem Bx.set7 (h : Bx w g x0 x1 x2 x3 x4 x5 x6 x7 x8) (u : Value) : Bx (w.setCell ⟨g, 7, none⟩ u) g x0 x1 x2 x3 x4 x5 x6 u x8 := (Bx.set w g _ _ _ _ _ _ _ _ _ u h).2.2.2.2.2.2.1
theorem Bx.set8 (h : Bx w g x0 x1 x2 x3 x4 x5 x6 x7 x8) (u : Value) : Bx (w.setCell ⟨g, 8, none⟩ u) g x0 x1 x2 x3 x4 x5 x6 x7 u := (Bx.set w g _ _ _ _ _ _ _ _ _ u h).2.2.2.2.2.2.2
theorem Bx.grown {w' : World} (h : Bx w g x0 x1 x2 x3 x4 x5 x6 x7 x8) {row : Option Nat} (hg : w.grownBy w' row) (hne : ∀ r, row = some r → g < r) : Bx w' g x0 x1 x2 x3 x4 x5 x6 x7 x8 :=
  (hg.block g h.lt fun e => by have := hne g e.symm; omega).trans h
end

/-- A row of plans, and the box of the plan, while names are gathered: 'v' is what came, the rest what it is. The box of the answer lies ahead of it. -/
structure P1 (w wr : World) (v : V) (NA : Option Addr) (nl nc : Nat) (done : List Pl) (xs : List Value) (k n : Nat) (t : ByteArray) (ks : List V) (A : Option Addr) (l c : Nat) : Prop where
  eq : plan v = addN done (plan (.mk k n t ks))
  may : mayB (.mk k n t ks) = true
  blk : bulk (.mk k n t ks) + done.length ≤ bulk v
  num : k < 256 ∧ n < 18446744073709551616
  kd : Val.Kids false w (Lo w.heap.size) ks A l c
  box : Bx wr (w.heap.size + 1 + 1) (.slice NA nl nc) (.int .u8 (k : Int)) (.int .u64 (n : Int)) (.string t) (.slice A l c) (.int .u8 0) (.bool false) (.slice none 0 0) (.complex .f64 0 0)
  res : Bx wr (w.heap.size + 1) (.slice none 0 0) (.int .u8 0) (.int .u64 0) (.string ⟨#[]⟩) (.slice none 0 0) (.int .u8 0) (.bool false) (.slice none 0 0) (.complex .f64 0 0)
  row : PR (w.heap.size + 1 + 1 + 1) wr NA nl nc done xs
  low : Below w.heap.size w wr
  sz : w.heap.size + 1 + 1 + 1 ≤ wr.heap.size
theorem kids_lo {w wr : World} {ks : List V} {A : Option Addr} {l c : Nat} (h : Val.Kids false w (Lo w.heap.size) ks A l c) (hb : Below w.heap.size w wr) : Val.Kids false wr (Lo w.heap.size) ks A l c := h.keep fun i hi => hb.block i hi
theorem kids_kd {w wr : World} {ks : List V} {A : Option Addr} {l c : Nat} (h : Val.Kids false w (Lo w.heap.size) ks A l c) (hb : Below w.heap.size w wr) : Kd wr ks A l c := (kids_lo h hb).mono fun _ hi => Nat.lt_of_lt_of_le hi hb.size

/-- A name more. -/
theorem P1.step {w wr w1 w9 : World} {v : V} {NA : Option Addr} {nl nc : Nat} {done : List Pl} {xs : List Value} {n : Nat} {t : ByteArray} {A : Option Addr} {l c : Nat} {k1 n1 : Nat} {t1 : ByteArray} {ks1 : List V} {k2 n2 : Nat} {t2 : ByteArray} {ks2 : List V} {A2 : Option Addr} {l2 c2 : Nat}
    (h : P1 w wr v NA nl nc done xs 25 n t [.mk k1 n1 t1 ks1, .mk k2 n2 t2 ks2] A l c) (hk2 : k2 < 256 ∧ n2 < 18446744073709551616) (hK2 : Val.Kids false w (Lo w.heap.size) ks2 A2 l2 c2)
    (hb1 : Below wr.heap.size wr w1) {cs : List Value} (hc : RepC w1 (fun i => wr.heap.size ≤ i ∧ i < w1.heap.size) (plan (.mk k1 n1 t1 ks1)) cs) {g cap : Nat} (o : Obj)
    (hown : w9.ownsRow (w.heap.size + 1 + 1 + 1) 55 9 (.slice (some ⟨g, 0, none⟩) (nl + 1) cap) (nl + 1) (xs ++ cs)) (hg : (w1.alloc o).grownBy w9 (Value.slice NA nl nc).ownBlock) (hat : (Value.slice NA nl nc).ownBlock = some g ∨ w1.heap.size ≤ g) :
    P1 w (((((w9.setCell ⟨w.heap.size + 1 + 1, 0, none⟩ (.slice (some ⟨g, 0, none⟩) (nl + 1) cap)).setCell ⟨w.heap.size + 1 + 1, 1, none⟩ (.int .u8 (k2 : Int))).setCell ⟨w.heap.size + 1 + 1, 2, none⟩ (.int .u64 (n2 : Int))).setCell ⟨w.heap.size + 1 + 1, 3, none⟩ (.string t2)).setCell ⟨w.heap.size + 1 + 1, 4, none⟩ (.slice A2 l2 c2)) v (some ⟨g, 0, none⟩) (nl + 1) cap (done ++ [plan (.mk k1 n1 t1 ks1)]) (xs ++ cs) k2 n2 t2 ks2 A2 l2 c2 := by
  obtain ⟨_, _, e0, _, _, hm2⟩ := may_desc h.may
  injection e0 with _ e0
  injection e0 with e0
  subst e0
  have hob := h.row.blk
  have hs1 := hb1.size
  have hs9 := hg.size
  have hsz := h.sz
  have hrow1 := h.row.call hb1
  have hcs := RepC.mono (P' := fun i => w.heap.size + 1 + 1 + 1 ≤ i ∧ i < w1.heap.size ∧ (Value.slice NA nl nc).ownBlock ≠ some i) (fun i hi => ⟨by omega, hi.2, fun e => by have := hob i e; omega⟩) hc
  have hpush := hrow1.push hcs o rfl hown hg hat
  have hfar : ∀ r, (Value.slice NA nl nc).ownBlock = some r → w.heap.size + 1 + 1 < r := fun r e => by have := hob r e; omega
  have hfar' : ∀ r, (Value.slice NA nl nc).ownBlock = some r → w.heap.size + 1 < r := fun r e => by have := hob r e; omega
  have hbox := (((h.box.call hb1).alloc o).grown hg hfar)
  have hres := (((h.res.call hb1).alloc o).grown hg hfar')
  have hlow : Below w.heap.size w w9 := ((below_next h.low hb1).alloc (by have := h.low.size; omega) o).grown hg (by simp; have := h.low.size; omega) fun r e => by have := hob r e; omega
  refine ⟨?_, hm2, ?_, hk2, hK2, ((((hbox.set0 _).set1 _).set2 _).set3 _).set4 _, ?_, ?_, ?_, ?_⟩
  · rw [h.eq, plan_desc, addN_addN]
  · have := h.blk
    simp only [bulk, bulkL, List.length_append, List.length_cons, List.length_nil] at this ⊢
    omega
  · exact ((((hres.far (by simp) _).far (by simp) _).far (by simp) _).far (by simp) _).far (by simp) _
  · exact ((((hpush.setCell (by simp) _).setCell (by simp) _).setCell (by simp) _).setCell (by simp) _).setCell (by simp) _
  · exact ((((hlow.setCell (by simp; omega) _).setCell (by simp; omega) _).setCell (by simp; omega) _).setCell (by simp; omega) _).setCell (by simp; omega) _
  · simp at hs9 ⊢
    omega
end Go.Proofs.YtophlpkbpjhhjaaDoor.Enc
