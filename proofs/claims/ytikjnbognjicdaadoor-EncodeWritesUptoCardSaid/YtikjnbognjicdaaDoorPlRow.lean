/-
  Rows of plans that the call itself makes: what lies in them, and how one more is appended. No condition.
-/
import Derived.Test.YtikjnbognjicdaaDoorCanA
namespace Go.Proofs.YtikjnbognjicdaaDoor.Enc
set_option maxRecDepth 100000
open Go.RowKit Go.Proofs.YtikjnbognjicdaaDoor.Utf Go.Proofs.YtikjnbognjicdaaDoor.Val

theorem infoP : (Tryd.prog.info? 56).map (fun i => (i.zero, i.size, i.bytes)) = some (some (.agg #[.slice none 0 0, .int .u8 0, .int .u64 0, .string ⟨#[]⟩, .slice none 0 0, .int .u8 0, .bool false, .slice none 0 0, .complex .f64 0 0]), 9, 128) := by kernel_rfl

/-- The cells of a row that reads as some plans. -/
def CellsP (w : World) (P : Nat → Prop) : List Pl → List Value → Prop
  | [], xs => xs = []
  | p :: ps, xs => ∃ c ys, xs = c ++ ys ∧ RepC w P p c ∧ CellsP w P ps ys
theorem CellsP.len {w : World} {P : Nat → Prop} : ∀ {ps : List Pl} {xs : List Value}, CellsP w P ps xs → xs.length = ps.length * 9
  | [], xs, h => by rw [show xs = [] from h]; rfl
  | p :: ps, xs, h => by
    obtain ⟨c, ys, rfl, hc, hr⟩ := h
    simp [hr.len, hc.len]
    omega
theorem CellsP.keep {w w' : World} {P : Nat → Prop} (hk : ∀ i, P i → w'.heap[i]? = w.heap[i]?) : ∀ {ps : List Pl} {xs : List Value}, CellsP w P ps xs → CellsP w' P ps xs
  | [], _, h => h
  | _ :: _, _, h => by
    obtain ⟨c, ys, e, hc, hr⟩ := h
    exact ⟨c, ys, e, hc.keep hk, hr.keep hk⟩
theorem CellsP.mono {w : World} {P P' : Nat → Prop} (hk : ∀ i, P i → P' i) : ∀ {ps : List Pl} {xs : List Value}, CellsP w P ps xs → CellsP w P' ps xs
  | [], _, h => h
  | _ :: _, _, h => by
    obtain ⟨c, ys, e, hc, hr⟩ := h
    exact ⟨c, ys, e, hc.mono hk, hr.mono hk⟩
theorem CellsP.snoc {w : World} {P : Nat → Prop} {p : Pl} {c : List Value} (hc : RepC w P p c) : ∀ {ps : List Pl} {xs : List Value}, CellsP w P ps xs → CellsP w P (ps ++ [p]) (xs ++ c)
  | [], xs, h => by
    rw [show xs = [] from h]
    exact ⟨c, [], by simp, hc, rfl⟩
  | _ :: _, _, h => by
    obtain ⟨c', ys, rfl, hc', hr⟩ := h
    exact ⟨c', ys ++ c, by simp, hc', CellsP.snoc hc hr⟩
theorem CellsP.row {w : World} {P : Nat → Prop} {b : Nat} : ∀ {ps : List Pl} {xs : List Value} {o : Nat}, (∀ j u, xs[j]? = some u → w.cell? ⟨b, o + j, none⟩ = some u) → CellsP w P ps xs → RowC w P ps b o
  | [], _, _, _, _ => trivial
  | p :: ps, _, o, hx, h => by
    obtain ⟨c, ys, rfl, hc, hr⟩ := h
    refine ⟨⟨c, hc, fun j hj => ?_⟩, hr.row fun j u hu => ?_⟩
    · have hl := hc.len
      have hu : c[j]? = some c[j] := List.getElem?_eq_getElem (by omega)
      rw [hu]
      exact hx j _ (by rw [List.getElem?_append_left (by omega)]; exact hu)
    · have := hx (9 + j) u (by rw [List.getElem?_append_right (by rw [hc.len]; omega), hc.len, show 9 + j - 9 = j by omega]; exact hu)
      rwa [← Nat.add_assoc] at this

/-- A row of the call's own (from block B on), of the plans done. -/
structure PR (B : Nat) (wr : World) (A : Option Addr) (n c : Nat) (done : List Pl) (xs : List Value) : Prop where
  own : wr.ownsRow B 56 9 (.slice A n c) n xs
  cells : CellsP wr (fun i => B ≤ i ∧ i < wr.heap.size ∧ (Value.slice A n c).ownBlock ≠ some i) done xs
theorem PR.len {B : Nat} {wr : World} {A : Option Addr} {n c : Nat} {done : List Pl} {xs : List Value} (h : PR B wr A n c done xs) : done.length = n := by
  have := h.own.1
  have := h.cells.len
  omega
theorem PR.nil (B : Nat) (wr : World) : PR B wr none 0 0 [] [] := ⟨World.ownsRow_nil _ _ _ _, rfl⟩
theorem PR.call {B : Nat} {wr w' : World} {A : Option Addr} {n c : Nat} {done : List Pl} {xs : List Value} (h : PR B wr A n c done xs) (hb : Below wr.heap.size wr w') : PR B w' A n c done xs :=
  ⟨h.own.kept (grown_of_below hb) (by cases hv : (Value.slice A n c).ownBlock <;> simp), (h.cells.keep fun i hi => hb.block i hi.2.1).mono fun i hi => ⟨hi.1, Nat.lt_of_lt_of_le hi.2.1 hb.size, hi.2.2⟩⟩
theorem PR.drew {B : Nat} {wr : World} {A : Option Addr} {n c : Nat} {done : List Pl} {xs : List Value} (h : PR B wr A n c done xs) : PR B wr.drew A n c done xs := h.call (Below.refl _ _).drew
theorem PR.alloc {B : Nat} {wr : World} {A : Option Addr} {n c : Nat} {done : List Pl} {xs : List Value} (h : PR B wr A n c done xs) (o : Obj) : PR B (wr.alloc o) A n c done xs := h.call ((Below.refl _ _).alloc (Nat.le_refl _) _)
/-- What the row reads as. -/
theorem PR.pn {B : Nat} {wr : World} {A : Option Addr} {n c : Nat} {done : List Pl} {xs : List Value} (h : PR B wr A n c done xs) : Pn B wr done A n c := by
  refine ⟨h.len.symm, own_cap h.own, fun hn => ?_⟩
  rcases h.own.2 with ⟨_, h0⟩ | ⟨g, cap, cur, hv, hb, hg, hnc, hcm, hcs, htake⟩
  · omega
  · injection hv with h1 _ h3
    subst h1
    subst h3
    refine ⟨g, 0, rfl, ⟨hb, (Array.getElem?_eq_some_iff.1 hg).1⟩, (h.cells.mono fun i hi => ⟨hi.1, hi.2.1⟩).row fun j u hu => ?_⟩
    rw [Nat.zero_add, h.own.cellAt j (by rw [← h.own.1]; exact (List.getElem?_eq_some_iff.1 hu).1), hu]
theorem PR.cast {B : Nat} {wr : World} {A : Option Addr} {n c : Nat} {done done' : List Pl} {xs : List Value} (h : PR B wr A n c done xs) (e : done = done') : PR B wr A n c done' xs := e ▸ h
theorem PR.blk {B : Nat} {wr : World} {A : Option Addr} {n c : Nat} {done : List Pl} {xs : List Value} (h : PR B wr A n c done xs) : ∀ g, (Value.slice A n c).ownBlock = some g → B ≤ g ∧ g < wr.heap.size := h.own.lt

/-- One more is appended: w2: the world in which it was made; wr: that with append's argument laid behind. -/
theorem PR.push {B : Nat} {wr w2 w3 : World} {A : Option Addr} {n c : Nat} {done : List Pl} {xs : List Value} (h : PR B w2 A n c done xs) {p : Pl} {cs : List Value}
    (hK : RepC w2 (fun i => B ≤ i ∧ i < w2.heap.size ∧ (Value.slice A n c).ownBlock ≠ some i) p cs) {g cap : Nat} (o : Obj) (hr : wr = w2.alloc o)
    (hown : w3.ownsRow B 56 9 (.slice (some ⟨g, 0, none⟩) (n + 1) cap) (n + 1) (xs ++ cs)) (hg : wr.grownBy w3 (Value.slice A n c).ownBlock) (hat : (Value.slice A n c).ownBlock = some g ∨ w2.heap.size ≤ g) :
    PR B w3 (some ⟨g, 0, none⟩) (n + 1) cap (done ++ [p]) (xs ++ cs) := by
  subst hr
  have hk1 : ∀ i, (B ≤ i ∧ i < w2.heap.size ∧ (Value.slice A n c).ownBlock ≠ some i) → w3.heap[i]? = w2.heap[i]? := fun i hi =>
    (hg.block i (by simp; omega) (fun e => hi.2.2 e.symm)).trans (Below.heap_alloc _ _ _ hi.2.1)
  have hk2 : ∀ i, (B ≤ i ∧ i < w2.heap.size ∧ (Value.slice A n c).ownBlock ≠ some i) → (B ≤ i ∧ i < w3.heap.size ∧ (Value.slice (some ⟨g, 0, none⟩) (n + 1) cap).ownBlock ≠ some i) := fun i hi => by
    refine ⟨hi.1, ?_, fun e => ?_⟩
    · have := hg.size
      simp at this
      omega
    · have e2 : g = i := by simpa [Value.ownBlock] using e
      subst e2
      rcases hat with ha | ha
      · exact hi.2.2 ha
      · omega
  exact ⟨hown, CellsP.snoc ((hK.keep hk1).mono hk2) ((h.cells.keep hk1).mono hk2)⟩

theorem news9 (w : World) (x0 x1 x2 x3 x4 x5 x6 x7 x8 : Value) (e : TypeId) (H : Nat) (hH : w.heap.size = H) : ∀ j a, [x0, x1, x2, x3, x4, x5, x6, x7, x8][j]? = some a → (w.alloc (.cells #[x0, x1, x2, x3, x4, x5, x6, x7, x8] e)).cell? ((⟨H, 0, none⟩ : Addr).add j) = some a := by
  subst hH
  intro j a hv
  have hj : j < 9 := (List.getElem?_eq_some_iff.1 hv).1
  match j, hj, hv with
  | 0, _, hv => simpa [Addr.add] using hv
  | 1, _, hv => simpa [Addr.add] using hv
  | 2, _, hv => simpa [Addr.add] using hv
  | 3, _, hv => simpa [Addr.add] using hv
  | 4, _, hv => simpa [Addr.add] using hv
  | 5, _, hv => simpa [Addr.add] using hv
  | 6, _, hv => simpa [Addr.add] using hv
  | 7, _, hv => simpa [Addr.add] using hv
  | 8, _, hv => simpa [Addr.add] using hv

/-- The call answers the plan, in new memory. -/
def GivesP (p : Pl) (w : World) (e : Ending) (w' : World) : Prop := ∃ ns k n t code bb ks re im NA nl nc VA vl vc KA kl kc, p = .mk ns k n t code bb ks re im ∧ e = .returned (.agg #[.slice NA nl nc, .int .u8 (k : Int), .int .u64 (n : Int), .string t, .slice VA vl vc, .int .u8 (code : Int), .bool bb, .slice KA kl kc, .complex .f64 (fb re) (fb im)]) ∧ Pn w.heap.size w' ns NA nl nc ∧ Pn w.heap.size w' ks KA kl kc ∧ Below w.heap.size w w'
end Go.Proofs.YtikjnbognjicdaaDoor.Enc
