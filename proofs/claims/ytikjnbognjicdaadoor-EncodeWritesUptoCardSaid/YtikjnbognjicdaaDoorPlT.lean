/-
  Plans in memory: a plan's nine cells, boxes of one, slices of plans, rows of plans that the call itself makes. No condition.
-/
import Derived.Test.YtikjnbognjicdaaDoorPl
import Derived.Test.YtikjnbognjicdaaDoorFloat
import Derived.Test.YtikjnbognjicdaaDoorCells
namespace Go.Proofs.YtikjnbognjicdaaDoor.Enc
set_option maxRecDepth 100000
open Go.RowKit Go.Proofs.YtikjnbognjicdaaDoor.Utf Go.Proofs.YtikjnbognjicdaaDoor.Val

theorem store_cplx (w : World) (a : Addr) (x y : Nat) (m : Mode) : (store a (.complex .f64 x y) m).run Tryd.prog w = stored Tryd.prog w a (.complex .f64 x y) m := run_store Tryd.prog w a _ m rfl

/- The nine cells c hold the plan; all that it leads to lies in blocks of P. -/
mutual
def RepC (w : World) (P : Nat → Prop) : Pl → List Value → Prop
  | .mk ns k n t code bb ks re im, c => ∃ NA nl nc VA vl vc KA kl kc, c = [.slice NA nl nc, .int .u8 (k : Int), .int .u64 (n : Int), .string t, .slice VA vl vc, .int .u8 (code : Int), .bool bb, .slice KA kl kc, .complex .f64 (fb re) (fb im)] ∧ nl = ns.length ∧ nl ≤ nc ∧ kl = ks.length ∧ kl ≤ kc ∧
      (0 < nl → ∃ b o, NA = some ⟨b, o, none⟩ ∧ P b ∧ RowC w P ns b o) ∧ (0 < kl → ∃ b o, KA = some ⟨b, o, none⟩ ∧ P b ∧ RowC w P ks b o)
def RowC (w : World) (P : Nat → Prop) : List Pl → Nat → Nat → Prop
  | [], _, _ => True
  | p :: r, b, o => (∃ c, RepC w P p c ∧ ∀ j, j < 9 → w.cell? ⟨b, o + j, none⟩ = c[j]?) ∧ RowC w P r b (o + 9)
end
/-- A slice that reads as the plans l. -/
def Ps (w : World) (P : Nat → Prop) (l : List Pl) (A : Option Addr) (n c : Nat) : Prop :=
  n = l.length ∧ n ≤ c ∧ (0 < n → ∃ b o, A = some ⟨b, o, none⟩ ∧ P b ∧ RowC w P l b o)
theorem repC_iff {w : World} {P : Nat → Prop} {ns : List Pl} {k n : Nat} {t : ByteArray} {code : Nat} {bb : Bool} {ks : List Pl} {re im : Nat} {c : List Value} : RepC w P (.mk ns k n t code bb ks re im) c ↔
    ∃ NA nl nc VA vl vc KA kl kc, c = [.slice NA nl nc, .int .u8 (k : Int), .int .u64 (n : Int), .string t, .slice VA vl vc, .int .u8 (code : Int), .bool bb, .slice KA kl kc, .complex .f64 (fb re) (fb im)] ∧ Ps w P ns NA nl nc ∧ Ps w P ks KA kl kc := by
  simp only [RepC, Ps]
  constructor
  · rintro ⟨NA, nl, nc, VA, vl, vc, KA, kl, kc, h, h1, h2, h3, h4, h5, h6⟩
    exact ⟨NA, nl, nc, VA, vl, vc, KA, kl, kc, h, ⟨h1, h2, h5⟩, h3, h4, h6⟩
  · rintro ⟨NA, nl, nc, VA, vl, vc, KA, kl, kc, h, ⟨h1, h2, h5⟩, h3, h4, h6⟩
    exact ⟨NA, nl, nc, VA, vl, vc, KA, kl, kc, h, h1, h2, h3, h4, h5, h6⟩
theorem RepC.len {w : World} {P : Nat → Prop} : ∀ {p : Pl} {c : List Value}, RepC w P p c → c.length = 9
  | .mk _ _ _ _ _ _ _ _ _, _, h => by
    obtain ⟨NA, nl, nc, VA, vl, vc, KA, kl, kc, rfl, _⟩ := repC_iff.1 h
    rfl
theorem RepC.one {w : World} {P : Nat → Prop} : ∀ {p : Pl} {c : List Value}, RepC w P p c → ∀ u ∈ c, u.oneCell' = true
  | .mk _ _ _ _ _ _ _ _ _, _, h => by
    obtain ⟨NA, nl, nc, VA, vl, vc, KA, kl, kc, rfl, _⟩ := repC_iff.1 h
    intro u hu
    simp only [List.mem_cons, List.not_mem_nil, or_false] at hu
    rcases hu with rfl | rfl | rfl | rfl | rfl | rfl | rfl | rfl | rfl <;> rfl
mutual
theorem RepC.keep {w w' : World} {P : Nat → Prop} (hk : ∀ i, P i → w'.heap[i]? = w.heap[i]?) : ∀ {p : Pl} {c : List Value}, RepC w P p c → RepC w' P p c
  | .mk _ _ _ _ _ _ _ _ _, _, h => by
    obtain ⟨NA, nl, nc, VA, vl, vc, KA, kl, kc, h, h1, h2, h3, h4, h5, h6⟩ := h
    refine ⟨NA, nl, nc, VA, vl, vc, KA, kl, kc, h, h1, h2, h3, h4, fun h => ?_, fun h => ?_⟩
    · obtain ⟨b, o, e, hP, hr⟩ := h5 h
      exact ⟨b, o, e, hP, hr.keep hk hP⟩
    · obtain ⟨b, o, e, hP, hr⟩ := h6 h
      exact ⟨b, o, e, hP, hr.keep hk hP⟩
theorem RowC.keep {w w' : World} {P : Nat → Prop} (hk : ∀ i, P i → w'.heap[i]? = w.heap[i]?) : ∀ {l : List Pl} {b o : Nat}, P b → RowC w P l b o → RowC w' P l b o
  | [], _, _, _, _ => trivial
  | _ :: _, b, _, hP, h => by
    obtain ⟨⟨c, hc, hj⟩, hr⟩ := h
    exact ⟨⟨c, hc.keep hk, fun j h => (World.cell?_of_block (hk b hP)).trans (hj j h)⟩, hr.keep hk hP⟩
end
mutual
theorem RepC.mono {w : World} {P P' : Nat → Prop} (hk : ∀ i, P i → P' i) : ∀ {p : Pl} {c : List Value}, RepC w P p c → RepC w P' p c
  | .mk _ _ _ _ _ _ _ _ _, _, h => by
    obtain ⟨NA, nl, nc, VA, vl, vc, KA, kl, kc, h, h1, h2, h3, h4, h5, h6⟩ := h
    refine ⟨NA, nl, nc, VA, vl, vc, KA, kl, kc, h, h1, h2, h3, h4, fun h => ?_, fun h => ?_⟩
    · obtain ⟨b, o, e, hP, hr⟩ := h5 h
      exact ⟨b, o, e, hk _ hP, hr.mono hk⟩
    · obtain ⟨b, o, e, hP, hr⟩ := h6 h
      exact ⟨b, o, e, hk _ hP, hr.mono hk⟩
theorem RowC.mono {w : World} {P P' : Nat → Prop} (hk : ∀ i, P i → P' i) : ∀ {l : List Pl} {b o : Nat}, RowC w P l b o → RowC w P' l b o
  | [], _, _, _ => trivial
  | _ :: _, _, _, h => by
    obtain ⟨⟨c, hc, hj⟩, hr⟩ := h
    exact ⟨⟨c, hc.mono hk, hj⟩, hr.mono hk⟩
end
theorem Ps.keep {w w' : World} {P : Nat → Prop} {l : List Pl} {A : Option Addr} {n c : Nat} (h : Ps w P l A n c) (hk : ∀ i, P i → w'.heap[i]? = w.heap[i]?) : Ps w' P l A n c :=
  ⟨h.1, h.2.1, fun hl => by
    obtain ⟨b, o, e, hP, hr⟩ := h.2.2 hl
    exact ⟨b, o, e, hP, hr.keep hk hP⟩⟩
theorem Ps.mono {w : World} {P P' : Nat → Prop} {l : List Pl} {A : Option Addr} {n c : Nat} (h : Ps w P l A n c) (hk : ∀ i, P i → P' i) : Ps w P' l A n c :=
  ⟨h.1, h.2.1, fun hl => by
    obtain ⟨b, o, e, hP, hr⟩ := h.2.2 hl
    exact ⟨b, o, e, hk _ hP, hr.mono hk⟩⟩
theorem Ps.nil (w : World) (P : Nat → Prop) (A : Option Addr) (c : Nat) : Ps w P [] A 0 c := ⟨rfl, Nat.zero_le _, fun h => absurd h (by omega)⟩
theorem rowC_at {w : World} {P : Nat → Prop} : ∀ {l : List Pl} {b o i : Nat} {p : Pl}, RowC w P l b o → l[i]? = some p → ∃ c, RepC w P p c ∧ ∀ j, j < 9 → w.cell? ⟨b, o + i * 9 + j, none⟩ = c[j]?
  | [], _, _, _, _, _, h => by simp at h
  | x :: l, b, o, 0, p, hr, h => by
    simp at h
    subst h
    simpa using hr.1
  | x :: l, b, o, i + 1, p, hr, h => by
    have := rowC_at (i := i) hr.2 (by simpa using h)
    rwa [show o + (i + 1) * 9 = o + 9 + i * 9 by omega]
/-- Nine cells at a place. -/
def At9 (w : World) (b o : Nat) (x0 x1 x2 x3 x4 x5 x6 x7 x8 : Value) : Prop :=
  w.cell? ⟨b, o, none⟩ = some x0 ∧ w.cell? ⟨b, o + 1, none⟩ = some x1 ∧ w.cell? ⟨b, o + 2, none⟩ = some x2 ∧ w.cell? ⟨b, o + 3, none⟩ = some x3 ∧ w.cell? ⟨b, o + 4, none⟩ = some x4 ∧ w.cell? ⟨b, o + 5, none⟩ = some x5 ∧ w.cell? ⟨b, o + 6, none⟩ = some x6 ∧ w.cell? ⟨b, o + 7, none⟩ = some x7 ∧ w.cell? ⟨b, o + 8, none⟩ = some x8
theorem Ps.at_ {w : World} {P : Nat → Prop} {l : List Pl} {A : Option Addr} {n' c : Nat} (h : Ps w P l A n' c) {i : Nat} (hi : i < n') : ∃ b o ns k n t code bb ks re im NA nl nc VA vl vc KA kl kc, A = some ⟨b, o, none⟩ ∧ P b ∧ l[i]? = some (.mk ns k n t code bb ks re im) ∧
    At9 w b (o + i * 9) (.slice NA nl nc) (.int .u8 (k : Int)) (.int .u64 (n : Int)) (.string t) (.slice VA vl vc) (.int .u8 (code : Int)) (.bool bb) (.slice KA kl kc) (.complex .f64 (fb re) (fb im)) ∧ Ps w P ns NA nl nc ∧ Ps w P ks KA kl kc := by
  obtain ⟨b, o, e, hP, hrow⟩ := h.2.2 (by omega)
  have hil : i < l.length := by rw [← h.1]; exact hi
  have hx : l[i]? = some l[i] := List.getElem?_eq_getElem hil
  obtain ⟨c, hr, hj⟩ := rowC_at hrow hx
  cases hv : l[i] with
  | mk ns k n t code bb ks re im =>
    rw [hv] at hx hr
    obtain ⟨NA, nl, nc, VA, vl, vc, KA, kl, kc, rfl, h1, h2⟩ := repC_iff.1 hr
    exact ⟨b, o, ns, k, n, t, code, bb, ks, re, im, NA, nl, nc, VA, vl, vc, KA, kl, kc, e, hP, hx, ⟨hj 0 (by omega), hj 1 (by omega), hj 2 (by omega), hj 3 (by omega), hj 4 (by omega), hj 5 (by omega), hj 6 (by omega), hj 7 (by omega), hj 8 (by omega)⟩, h1, h2⟩

/-- Plans that can be read; plans in new memory, from block B on. -/
def Pd (w : World) (l : List Pl) (A : Option Addr) (n c : Nat) : Prop := Ps w (fun i => i < w.heap.size) l A n c
def Pn (B : Nat) (w : World) (l : List Pl) (A : Option Addr) (n c : Nat) : Prop := Ps w (fun i => B ≤ i ∧ i < w.heap.size) l A n c
section
variable {w w' : World} {B B' : Nat} {l : List Pl} {A : Option Addr} {n c : Nat}
theorem Pd.call (h : Pd w l A n c) (hb : Below w.heap.size w w') : Pd w' l A n c := (h.keep fun i hi => hb.block i hi).mono fun _ hi => Nat.lt_of_lt_of_le hi hb.size
theorem Pn.call (h : Pn B w l A n c) (hb : Below w.heap.size w w') : Pn B w' l A n c := (h.keep fun i hi => hb.block i hi.2).mono fun _ hi => ⟨hi.1, Nat.lt_of_lt_of_le hi.2 hb.size⟩
theorem Pn.pd (h : Pn B w l A n c) : Pd w l A n c := h.mono fun _ hi => hi.2
theorem Pn.less (h : Pn B w l A n c) (hB : B' ≤ B) : Pn B' w l A n c := h.mono fun _ hi => ⟨Nat.le_trans hB hi.1, hi.2⟩
theorem Pd.alloc (h : Pd w l A n c) (o : Obj) : Pd (w.alloc o) l A n c := h.call ((Below.refl _ _).alloc (Nat.le_refl _) _)
theorem Pn.alloc (h : Pn B w l A n c) (o : Obj) : Pn B (w.alloc o) l A n c := h.call ((Below.refl _ _).alloc (Nat.le_refl _) _)
theorem Pd.at_ {n' : Nat} (h : Pd w l A n' c) {i : Nat} (hi : i < n') : ∃ b o ns k n t code bb ks re im NA nl nc VA vl vc KA kl kc, A = some ⟨b, o, none⟩ ∧ b < w.heap.size ∧ l[i]? = some (.mk ns k n t code bb ks re im) ∧
    At9 w b (o + i * 9) (.slice NA nl nc) (.int .u8 (k : Int)) (.int .u64 (n : Int)) (.string t) (.slice VA vl vc) (.int .u8 (code : Int)) (.bool bb) (.slice KA kl kc) (.complex .f64 (fb re) (fb im)) ∧ Pd w ns NA nl nc ∧ Pd w ks KA kl kc := Ps.at_ h hi
theorem Pd.len (h : Pd w l A n c) : n = l.length := h.1
theorem Pd.cap (h : Pd w l A n c) : n ≤ c := h.2.1
end

/-- A call's own box of a plan. -/
def Bx (w : World) (g : Nat) (x0 x1 x2 x3 x4 x5 x6 x7 x8 : Value) : Prop := w.heap[g]? = some (.cells #[x0, x1, x2, x3, x4, x5, x6, x7, x8] 56 (0, 0))
section
variable {w w' : World} {g B : Nat} {x0 x1 x2 x3 x4 x5 x6 x7 x8 : Value}
theorem Bx.lt (h : Bx w g x0 x1 x2 x3 x4 x5 x6 x7 x8) : g < w.heap.size := (Array.getElem?_eq_some_iff.1 h).1
theorem Bx.new (w : World) (x0 x1 x2 x3 x4 x5 x6 x7 x8 : Value) : Bx (w.alloc (.cells #[x0, x1, x2, x3, x4, x5, x6, x7, x8] 56)) w.heap.size x0 x1 x2 x3 x4 x5 x6 x7 x8 := heap_alloc_new w _
theorem Bx.below (h : Bx w g x0 x1 x2 x3 x4 x5 x6 x7 x8) (hb : Below B w w') (hg : g < B) : Bx w' g x0 x1 x2 x3 x4 x5 x6 x7 x8 := (hb.block g hg).trans h
theorem Bx.call (h : Bx w g x0 x1 x2 x3 x4 x5 x6 x7 x8) (hb : Below w.heap.size w w') : Bx w' g x0 x1 x2 x3 x4 x5 x6 x7 x8 := h.below hb h.lt
theorem Bx.alloc (h : Bx w g x0 x1 x2 x3 x4 x5 x6 x7 x8) (o : Obj) : Bx (w.alloc o) g x0 x1 x2 x3 x4 x5 x6 x7 x8 := h.call ((Below.refl _ _).alloc (Nat.le_refl _) _)
theorem Bx.all (h : Bx w g x0 x1 x2 x3 x4 x5 x6 x7 x8) : w.cell? ⟨g, 0, none⟩ = some x0 ∧ w.cell? ⟨g, 1, none⟩ = some x1 ∧ w.cell? ⟨g, 2, none⟩ = some x2 ∧ w.cell? ⟨g, 3, none⟩ = some x3 ∧ w.cell? ⟨g, 4, none⟩ = some x4 ∧ w.cell? ⟨g, 5, none⟩ = some x5 ∧ w.cell? ⟨g, 6, none⟩ = some x6 ∧ w.cell? ⟨g, 7, none⟩ = some x7 ∧ w.cell? ⟨g, 8, none⟩ = some x8 ∧ ∀ j, w.frozen? ⟨g, j, none⟩ = false := by
  refine ⟨cell_of_row w g 0 _ _ _ h, cell_of_row w g 1 _ _ _ h, cell_of_row w g 2 _ _ _ h, cell_of_row w g 3 _ _ _ h, cell_of_row w g 4 _ _ _ h, cell_of_row w g 5 _ _ _ h, cell_of_row w g 6 _ _ _ h, cell_of_row w g 7 _ _ _ h, cell_of_row w g 8 _ _ _ h, fun j => ?_⟩
  unfold Bx at h
  simp [World.frozen?, h]
theorem Bx.far (h : Bx w g x0 x1 x2 x3 x4 x5 x6 x7 x8) {p : Addr} (hp : g ≠ p.block) (u : Value) : Bx (w.setCell p u) g x0 x1 x2 x3 x4 x5 x6 x7 x8 := (Below.heap_setCell w p u g hp).trans h
end
end Go.Proofs.YtikjnbognjicdaaDoor.Enc
