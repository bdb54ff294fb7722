/-
  Contract of the laws' turn: it changes numbers of values in the blocks in which they lie, and nothing else. Condition: at most 2^30 values beside one another.
-/
import Derived.Test.YtnojhgpaplecgaaDoorMade
namespace Go.Proofs.YtnojhgpaplecgaaDoor.Tn
set_option maxRecDepth 100000
open Go.RowKit Go.Proofs.YtnojhgpaplecgaaDoor.Utf Go.Proofs.YtnojhgpaplecgaaDoor.Val V

/-- Memory is as it was but for the blocks of P; nothing was made, or printed. -/
def Keep (P : Nat → Prop) (w w' : World) : Prop := w'.os = w.os ∧ w'.tape = w.tape ∧ w'.output = w.output ∧ w.heap.size ≤ w'.heap.size ∧ ∀ i, ¬ P i → w'.heap[i]? = w.heap[i]?
theorem Keep.refl (P : Nat → Prop) (w : World) : Keep P w w := ⟨rfl, rfl, rfl, Nat.le_refl _, fun _ _ => rfl⟩
theorem Keep.trans {P : Nat → Prop} {w w' w'' : World} (h : Keep P w w') (h' : Keep P w' w'') : Keep P w w'' := ⟨h'.1.trans h.1, h'.2.1.trans h.2.1, h'.2.2.1.trans h.2.2.1, Nat.le_trans h.2.2.2.1 h'.2.2.2.1, fun i hi => (h'.2.2.2.2 i hi).trans (h.2.2.2.2 i hi)⟩
theorem Keep.below {P : Nat → Prop} {B : Nat} {w w' : World} (h : Keep P w w') (hB : ∀ i, i < B → ¬ P i) : Below B w w' := ⟨h.1, h.2.1, h.2.2.1, h.2.2.2.1, fun i hi => h.2.2.2.2 i (hB i hi)⟩
/-- In the blocks of P numbers of 64 bits may have changed, and nothing else. -/
def Numy (P : Nat → Prop) (w w' : World) : Prop :=
  Keep P w w' ∧ (∀ b p v, w.cell? ⟨b, p, none⟩ = some v → (∀ n, v ≠ .int .u64 n) → w'.cell? ⟨b, p, none⟩ = some v) ∧
  (∀ b p (n : Nat), w.cell? ⟨b, p, none⟩ = some (.int .u64 n) → n < 18446744073709551616 → ∃ n' : Nat, n' < 18446744073709551616 ∧ w'.cell? ⟨b, p, none⟩ = some (.int .u64 n')) ∧
  (∀ (b : Nat) C, w.heap[b]? = some (.cells C 25 (0, 0)) → ∃ C', w'.heap[b]? = some (.cells C' 25 (0, 0)))
theorem Numy.refl (P : Nat → Prop) (w : World) : Numy P w w := ⟨Keep.refl _ _, fun _ _ _ h _ => h, fun _ _ n h hn => ⟨n, hn, h⟩, fun _ C h => ⟨C, h⟩⟩
theorem Numy.trans {P : Nat → Prop} {w w' w'' : World} (h : Numy P w w') (h' : Numy P w' w'') : Numy P w w'' :=
  ⟨h.1.trans h'.1, fun b p v hv hn => h'.2.1 b p v (h.2.1 b p v hv hn) hn, fun b p n hv hn => by
    obtain ⟨n1, hn1, h1⟩ := h.2.2.1 b p n hv hn
    exact h'.2.2.1 b p n1 h1 hn1, fun b C hb => by
    obtain ⟨C1, h1⟩ := h.2.2.2 b C hb
    exact h'.2.2.2 b C1 h1⟩
theorem Numy.set {P : Nat → Prop} {w : World} {b p n n' : Nat} (hB : P b) (h : w.cell? ⟨b, p, none⟩ = some (.int .u64 n)) (hn : n' < 18446744073709551616) : Numy P w (w.setCell ⟨b, p, none⟩ (.int .u64 n')) := by
  have hs : (w.setCell ⟨b, p, none⟩ (.int .u64 n')).cell? ⟨b, p, none⟩ = some (.int .u64 n') := World.cell?_setCell_same' w _ _ (by rw [h]; rfl)
  refine ⟨⟨rfl, rfl, rfl, by simp, fun i hi => Below.heap_setCell w ⟨b, p, none⟩ _ i (fun e => hi (e ▸ hB))⟩, fun b' p' v hv hne => ?_, fun b' p' m hv hm => ?_, fun b' C hb => ?_⟩
  · by_cases e : b' = b ∧ p' = p
    · obtain ⟨rfl, rfl⟩ := e
      rw [h] at hv
      injection hv with hv
      exact absurd hv.symm (hne n)
    · rw [World.cell?_setCell_other _ _ _ _ (fun e' => by injection e' with e1 e2; exact e ⟨e1.symm, e2.symm⟩)]
      exact hv
  · by_cases e : b' = b ∧ p' = p
    · obtain ⟨rfl, rfl⟩ := e
      exact ⟨n', hn, hs⟩
    · rw [World.cell?_setCell_other _ _ _ _ (fun e' => by injection e' with e1 e2; exact e ⟨e1.symm, e2.symm⟩)]
      exact ⟨m, hm, hv⟩
  · by_cases e : b' = b
    · subst e
      simp [World.setCell, Array.getElem?_modify, hb]
    · exact ⟨C, (Below.heap_setCell w ⟨b, p, none⟩ _ b' e).trans hb⟩

/- The shape of values in memory in blocks of P, so deep at most; whatever their numbers are. -/
def Shp : Nat → World → (Nat → Prop) → Nat → Nat → Prop
  | 0, _, _, _, _ => False
  | N + 1, w, P, b, o => ∃ (k n : Nat) (t : ByteArray) (A : Option Addr) (l c : Nat), w.cell? ⟨b, o, none⟩ = some (.int .u8 k) ∧ w.cell? ⟨b, o + 1, none⟩ = some (.int .u64 n) ∧ w.cell? ⟨b, o + 2, none⟩ = some (.string t) ∧ w.cell? ⟨b, o + 3, none⟩ = some (.slice A l c) ∧
      n < 18446744073709551616 ∧ l ≤ 1073741824 ∧ l ≤ c ∧ (0 < l → ∃ b' o', A = some ⟨b', o', none⟩ ∧ P b' ∧ (∃ C, w.heap[b']? = some (.cells C 25 (0, 0))) ∧ ∀ i, i < l → Shp N w P b' (o' + i * 4))
/-- A row of them. -/
def ShR (N : Nat) (w : World) (P : Nat → Prop) (A : Option Addr) (l c : Nat) : Prop := l ≤ 1073741824 ∧ l ≤ c ∧ (0 < l → ∃ b' o', A = some ⟨b', o', none⟩ ∧ P b' ∧ (∃ C, w.heap[b']? = some (.cells C 25 (0, 0))) ∧ ∀ i, i < l → Shp N w P b' (o' + i * 4))
theorem Shp.num : ∀ {N : Nat} {w w' : World} {P : Nat → Prop} {b o : Nat}, Shp N w P b o → Numy P w w' → Shp N w' P b o
  | 0, _, _, _, _, _, h, _ => h.elim
  | N + 1, w, w', P, b, o, ⟨k, n, t, A, l, c, h0, h1, h2, h3, hn, hl, hc, hr⟩, hy => by
    obtain ⟨n', hn', h1'⟩ := hy.2.2.1 _ _ n h1 hn
    refine ⟨k, n', t, A, l, c, hy.2.1 _ _ _ h0 (fun m e => by cases e), h1', hy.2.1 _ _ _ h2 (fun m e => by cases e), hy.2.1 _ _ _ h3 (fun m e => by cases e), hn', hl, hc, fun h => ?_⟩
    obtain ⟨b', o', e, hb, ⟨C, hC⟩, hk⟩ := hr h
    exact ⟨b', o', e, hb, hy.2.2.2 _ C hC, fun i hi => (hk i hi).num hy⟩
theorem ShR.num {N : Nat} {w w' : World} {P : Nat → Prop} {A : Option Addr} {l c : Nat} (h : ShR N w P A l c) (hy : Numy P w w') : ShR N w' P A l c :=
  ⟨h.1, h.2.1, fun h0 => by
    obtain ⟨b', o', e, hb, ⟨C, hC⟩, hk⟩ := h.2.2 h0
    exact ⟨b', o', e, hb, hy.2.2.2 _ C hC, fun i hi => (hk i hi).num hy⟩⟩
mutual
theorem shp_of {w : World} {P : Nat → Prop} : ∀ (v : V) {N b o : Nat}, depth v ≤ N → bulk v ≤ 1073741824 → RepV true w P v b o → Shp N w P b o
  | .mk k n t ks, 0, b, o, hd, _, _ => by simp only [depth] at hd; omega
  | .mk k n t ks, N + 1, b, o, hd, hb, h => by
    obtain ⟨A, l, c, h0, h1, h2, h3, hk, hn, hl, hc, hr⟩ := h
    simp only [depth] at hd
    simp only [bulk] at hb
    refine ⟨k, n, t, A, l, c, h0, h1, h2, h3, hn, by have := length_bulk ks; omega, hc, fun h0 => ?_⟩
    obtain ⟨b', o', e, hP, ho, hrow⟩ := hr h0
    exact ⟨b', o', e, hP, ho rfl, fun i hi => shp_row ks (by omega) (by omega) hrow i (by omega)⟩
theorem shp_row {w : World} {P : Nat → Prop} : ∀ (ks : List V) {N b o : Nat}, depthL ks ≤ N → bulkL ks ≤ 1073741824 → RowL true w P ks b o → ∀ i, i < ks.length → Shp N w P b (o + i * 4)
  | [], _, _, _, _, _, _, i, hi => by simp at hi
  | v :: vs, N, b, o, hd, hb, h, 0, _ => by
    simp only [depthL] at hd
    simp only [bulkL] at hb
    rw [Nat.zero_mul, Nat.add_zero]
    exact shp_of v (by omega) (by omega) h.1
  | v :: vs, N, b, o, hd, hb, h, i + 1, hi => by
    simp only [depthL] at hd
    simp only [bulkL] at hb
    have := shp_row vs (N := N) (by omega) (by omega) h.2 i (by simpa using hi)
    rwa [show o + (i + 1) * 4 = o + 4 + i * 4 by omega]
end
theorem shr_kids {w : World} {P : Nat → Prop} {ks : List V} {A : Option Addr} {l c : Nat} (h : Go.Proofs.YtnojhgpaplecgaaDoor.Val.Kids true w P ks A l c) (hb : bulkL ks ≤ 1073741824) : ShR (depthL ks) w P A l c := by
  refine ⟨by have := h.len; have := length_bulk ks; omega, h.cap, fun h0 => ?_⟩
  obtain ⟨b', o', e, hP, ho, hrow⟩ := h.2.2 h0
  exact ⟨b', o', e, hP, ho rfl, fun i hi => shp_row ks (Nat.le_refl _) hb hrow i (by rw [← h.len]; exact hi)⟩

/-- Nothing is answered. -/
def GivesT (P : Nat → Prop) (w : World) (e : Ending) (w' : World) : Prop := (∃ v, e = .returned v) ∧ Numy P w w'
end Go.Proofs.YtnojhgpaplecgaaDoor.Tn
