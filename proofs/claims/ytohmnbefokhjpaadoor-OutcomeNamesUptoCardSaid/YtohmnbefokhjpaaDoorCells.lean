/-
  Rows of values that the call itself makes: what lies in them, and how one more is appended. No condition.
-/
import Derived.Test.YtohmnbefokhjpaaDoorVsame
namespace Go.Proofs.YtohmnbefokhjpaaDoor.Val
open Go.RowKit Go.Proofs.YtohmnbefokhjpaaDoor.Utf V

/-- The cells of a row that reads as some values; what these lead to lies in rows of P that may be written. -/
def CellsOf (w : World) (P : Nat → Prop) : List V → List Value → Prop
  | [], xs => xs = []
  | .mk k n t ks :: vs, xs => ∃ A l c ys, xs = .int .u8 (k : Int) :: .int .u64 (n : Int) :: .string t :: .slice A l c :: ys ∧ k < 256 ∧ n < 18446744073709551616 ∧ Kids true w P ks A l c ∧ CellsOf w P vs ys

theorem CellsOf.len {w : World} {P : Nat → Prop} : ∀ {vs : List V} {xs : List Value}, CellsOf w P vs xs → xs.length = vs.length * 4
  | [], xs, h => by rw [show xs = [] from h]; rfl
  | .mk k n t ks :: vs, xs, h => by
    obtain ⟨A, l, c, ys, rfl, _, _, _, hr⟩ := h
    simp [hr.len]
    omega
theorem CellsOf.keep {w w' : World} {P : Nat → Prop} (hk : ∀ i, P i → w'.heap[i]? = w.heap[i]?) : ∀ {vs : List V} {xs : List Value}, CellsOf w P vs xs → CellsOf w' P vs xs
  | [], _, h => h
  | .mk _ _ _ _ :: _, _, h => by
    obtain ⟨A, l, c, ys, e, a1, a2, a3, hr⟩ := h
    exact ⟨A, l, c, ys, e, a1, a2, a3.keep hk, hr.keep hk⟩
theorem CellsOf.mono {w : World} {P P' : Nat → Prop} (hk : ∀ i, P i → P' i) : ∀ {vs : List V} {xs : List Value}, CellsOf w P vs xs → CellsOf w P' vs xs
  | [], _, h => h
  | .mk _ _ _ _ :: _, _, h => by
    obtain ⟨A, l, c, ys, e, a1, a2, a3, hr⟩ := h
    exact ⟨A, l, c, ys, e, a1, a2, a3.mono hk, hr.mono hk⟩
theorem CellsOf.snoc {w : World} {P : Nat → Prop} {k n : Nat} {t : ByteArray} {ks : List V} {A : Option Addr} {l c : Nat} (hk : k < 256) (hn : n < 18446744073709551616) (hK : Kids true w P ks A l c) :
    ∀ {vs : List V} {xs : List Value}, CellsOf w P vs xs → CellsOf w P (vs ++ [.mk k n t ks]) (xs ++ [.int .u8 (k : Int), .int .u64 (n : Int), .string t, .slice A l c])
  | [], xs, h => by
    rw [show xs = [] from h]
    exact ⟨A, l, c, [], rfl, hk, hn, hK, rfl⟩
  | .mk _ _ _ _ :: _, _, h => by
    obtain ⟨A', l', c', ys, rfl, a1, a2, a3, hr⟩ := h
    exact ⟨A', l', c', _, rfl, a1, a2, a3, CellsOf.snoc hk hn hK hr⟩
theorem CellsOf.row {w : World} {P : Nat → Prop} {b : Nat} : ∀ {vs : List V} {xs : List Value} {o : Nat}, (∀ j u, xs[j]? = some u → w.cell? ⟨b, o + j, none⟩ = some u) → CellsOf w P vs xs → RowL true w P vs b o
  | [], _, _, _, _ => trivial
  | .mk k n t ks :: vs, _, o, hc, h => by
    obtain ⟨A, l, c, ys, rfl, a1, a2, a3, hr⟩ := h
    refine ⟨repV_iff.2 ⟨A, l, c, hc 0 _ rfl, hc 1 _ rfl, hc 2 _ rfl, hc 3 _ rfl, a1, a2, a3⟩, hr.row fun j u hu => ?_⟩
    have := hc (j + 4) u (by simpa using hu)
    rwa [show o + (j + 4) = o + 4 + j by omega] at this

/-- A row of the call's own (from block B on), of the values done. -/
structure CS (B : Nat) (wr : World) (A : Option Addr) (n c : Nat) (done : List V) (xs : List Value) : Prop where
  own : wr.ownsRow B 27 4 (.slice A n c) n xs
  cells : CellsOf wr (fun i => B ≤ i ∧ i < wr.heap.size ∧ (Value.slice A n c).ownBlock ≠ some i) done xs

theorem CS.len {B : Nat} {wr : World} {A : Option Addr} {n c : Nat} {done : List V} {xs : List Value} (h : CS B wr A n c done xs) : done.length = n := by
  have := h.own.1
  have := h.cells.len
  omega
theorem CS.nil (B : Nat) (wr : World) : CS B wr none 0 0 [] [] := ⟨World.ownsRow_nil _ _ _ _, rfl⟩
theorem CS.call {B : Nat} {wr w' : World} {A : Option Addr} {n c : Nat} {done : List V} {xs : List Value} (h : CS B wr A n c done xs) (hb : Below wr.heap.size wr w') : CS B w' A n c done xs :=
  ⟨h.own.kept (grown_of_below hb) (by cases hv : (Value.slice A n c).ownBlock <;> simp), (h.cells.keep fun i hi => hb.block i hi.2.1).mono fun i hi => ⟨hi.1, Nat.lt_of_lt_of_le hi.2.1 hb.size, hi.2.2⟩⟩
theorem CS.drew {B : Nat} {wr : World} {A : Option Addr} {n c : Nat} {done : List V} {xs : List Value} (h : CS B wr A n c done xs) : CS B wr.drew A n c done xs := h.call (Below.refl _ _).drew
/-- What the row reads as. -/
theorem CS.nw {B : Nat} {wr : World} {A : Option Addr} {n c : Nat} {done : List V} {xs : List Value} (h : CS B wr A n c done xs) : Nw B wr done A n c := by
  refine ⟨h.len.symm, own_cap h.own, fun hn => ?_⟩
  rcases h.own.2 with ⟨_, h0⟩ | ⟨g, cap, cur, hv, hb, hg, hnc, hcm, hcs, htake⟩
  · omega
  · injection hv with h1 _ h3
    subst h1
    subst h3
    refine ⟨g, 0, rfl, ⟨hb, (Array.getElem?_eq_some_iff.1 hg).1⟩, fun _ => ⟨cur, hg⟩, (h.cells.mono fun i hi => ⟨hi.1, hi.2.1⟩).row fun j u hu => ?_⟩
    rw [Nat.zero_add, h.own.cellAt j (by rw [← h.own.1]; exact (List.getElem?_eq_some_iff.1 hu).1), hu]
theorem CS.cast {B : Nat} {wr : World} {A : Option Addr} {n c : Nat} {done done' : List V} {xs : List Value} (h : CS B wr A n c done xs) (e : done = done') : CS B wr A n c done' xs := e ▸ h

/-- One more is appended: w2: the world in which it was made, beside or behind the row's; o: the block that append's argument lies in. -/
theorem CS.push {B : Nat} {wr w2 w3 : World} {A : Option Addr} {n c : Nat} {done : List V} {xs : List Value} (h : CS B w2 A n c done xs) {k m : Nat} {t : ByteArray} {ks : List V} {A' : Option Addr} {l' c' : Nat} (hk : k < 256) (hm : m < 18446744073709551616)
    (hK : Kids true w2 (fun i => B ≤ i ∧ i < w2.heap.size ∧ (Value.slice A n c).ownBlock ≠ some i) ks A' l' c') {g cap : Nat} (o : Obj) (hr : wr = w2.alloc o)
    (hown : w3.ownsRow B 27 4 (.slice (some ⟨g, 0, none⟩) (n + 1) cap) (n + 1) (xs ++ [.int .u8 (k : Int), .int .u64 (m : Int), .string t, .slice A' l' c'])) (hg : wr.grownBy w3 (Value.slice A n c).ownBlock) (hat : (Value.slice A n c).ownBlock = some g ∨ w2.heap.size ≤ g) :
    CS B w3 (some ⟨g, 0, none⟩) (n + 1) cap (done ++ [.mk k m t ks]) (xs ++ [.int .u8 (k : Int), .int .u64 (m : Int), .string t, .slice A' l' c']) := by
  subst hr
  have hk1 : ∀ i, (B ≤ i ∧ i < w2.heap.size ∧ (Value.slice A n c).ownBlock ≠ some i) → w3.heap[i]? = w2.heap[i]? := fun i hi =>
    (hg.block i (by simp; omega) (fun e => hi.2.2 e.symm)).trans (Below.heap_alloc _ _ _ hi.2.1)
  have hk2 : ∀ i, (B ≤ i ∧ i < w2.heap.size ∧ (Value.slice A n c).ownBlock ≠ some i) → (B ≤ i ∧ i < w3.heap.size ∧ (Value.slice (some ⟨g, 0, none⟩) (n + 1) cap).ownBlock ≠ some i) := fun i hi => by
    refine ⟨hi.1, ?_, fun e => ?_⟩
    · have := hg.size
      simp at this
      omega
    · have e2 : g = i := by simpa [Value.ownBlock] using e
      subst e2
      rcases hat with ha | ha
      · exact hi.2.2 ha
      · omega
  exact ⟨hown, CellsOf.snoc hk hm ((hK.keep hk1).mono hk2) ((h.cells.keep hk1).mono hk2)⟩
end Go.Proofs.YtohmnbefokhjpaaDoor.Val
