/-
  Contract of the laws' turn: it changes numbers of values in new memory, and nothing else. Memory below stays. Condition: at most 2^30 values beside one another.
-/
import Derived.Test.YtdbcdabijolagaaDoorMade
namespace Go.Proofs.YtdbcdabijolagaaDoor.Val
open Go.RowKit Go.Proofs.YtdbcdabijolagaaDoor.Utf V

/-- From block B on numbers of 64 bits may have changed, and nothing else. -/
def Numy (B : Nat) (w w' : World) : Prop :=
  Below B w w' ∧ (∀ b p v, w.cell? ⟨b, p, none⟩ = some v → (∀ n, v ≠ .int .u64 n) → w'.cell? ⟨b, p, none⟩ = some v) ∧
  (∀ b p (n : Nat), w.cell? ⟨b, p, none⟩ = some (.int .u64 n) → n < 18446744073709551616 → ∃ n' : Nat, n' < 18446744073709551616 ∧ w'.cell? ⟨b, p, none⟩ = some (.int .u64 n')) ∧
  (∀ (b : Nat) C, w.heap[b]? = some (.cells C 25 (0, 0)) → ∃ C', w'.heap[b]? = some (.cells C' 25 (0, 0)))
theorem Numy.refl (B : Nat) (w : World) : Numy B w w := ⟨Below.refl _ _, fun _ _ _ h _ => h, fun _ _ n h hn => ⟨n, hn, h⟩, fun _ C h => ⟨C, h⟩⟩
theorem Numy.trans {B : Nat} {w w' w'' : World} (h : Numy B w w') (h' : Numy B w' w'') : Numy B w w'' :=
  ⟨h.1.trans h'.1, fun b p v hv hn => h'.2.1 b p v (h.2.1 b p v hv hn) hn, fun b p n hv hn => by
    obtain ⟨n1, hn1, h1⟩ := h.2.2.1 b p n hv hn
    exact h'.2.2.1 b p n1 h1 hn1, fun b C hb => by
    obtain ⟨C1, h1⟩ := h.2.2.2 b C hb
    exact h'.2.2.2 b C1 h1⟩
theorem Numy.set {B : Nat} {w : World} {b p n n' : Nat} (hB : B ≤ b) (h : w.cell? ⟨b, p, none⟩ = some (.int .u64 n)) (hn : n' < 18446744073709551616) : Numy B w (w.setCell ⟨b, p, none⟩ (.int .u64 n')) := by
  have hs : (w.setCell ⟨b, p, none⟩ (.int .u64 n')).cell? ⟨b, p, none⟩ = some (.int .u64 n') := World.cell?_setCell_same' w _ _ (by rw [h]; rfl)
  refine ⟨(Below.refl _ _).setCell (p := ⟨b, p, none⟩) hB _, fun b' p' v hv hne => ?_, fun b' p' m hv hm => ?_, fun b' C hb => ?_⟩
  · by_cases e : b' = b ∧ p' = p
    · obtain ⟨rfl, rfl⟩ := e
      rw [h] at hv
      injection hv with hv
      exact absurd hv.symm (hne n)
    · rw [World.cell?_setCell_other _ _ _ _ (fun e' => by injection e' with e1 e2; exact e ⟨e1.symm, e2.symm⟩)]
      exact hv
  · by_cases e : b' = b ∧ p' = p
    · obtain ⟨rfl, rfl⟩ := e
      exact ⟨n', hn, hs⟩
    · rw [World.cell?_setCell_other _ _ _ _ (fun e' => by injection e' with e1 e2; exact e ⟨e1.symm, e2.symm⟩)]
      exact ⟨m, hm, hv⟩
  · by_cases e : b' = b
    · subst e
      simp [World.setCell, Array.getElem?_modify, hb]
    · exact ⟨C, (Below.heap_setCell w ⟨b, p, none⟩ _ b' e).trans hb⟩

/- The shape of values in memory from block B on, so deep at most; whatever their numbers are. -/
def Shp : Nat → World → Nat → Nat → Nat → Prop
  | 0, _, _, _, _ => False
  | N + 1, w, B, b, o => ∃ (k n : Nat) (t : ByteArray) (A : Option Addr) (l c : Nat), w.cell? ⟨b, o, none⟩ = some (.int .u8 k) ∧ w.cell? ⟨b, o + 1, none⟩ = some (.int .u64 n) ∧ w.cell? ⟨b, o + 2, none⟩ = some (.string t) ∧ w.cell? ⟨b, o + 3, none⟩ = some (.slice A l c) ∧
      n < 18446744073709551616 ∧ l ≤ 1073741824 ∧ l ≤ c ∧ (0 < l → ∃ b' o', A = some ⟨b', o', none⟩ ∧ B ≤ b' ∧ (∃ C, w.heap[b']? = some (.cells C 25 (0, 0))) ∧ ∀ i, i < l → Shp N w B b' (o' + i * 4))
/-- A row of them. -/
def ShR (N : Nat) (w : World) (B : Nat) (A : Option Addr) (l c : Nat) : Prop := l ≤ 1073741824 ∧ l ≤ c ∧ (0 < l → ∃ b' o', A = some ⟨b', o', none⟩ ∧ B ≤ b' ∧ (∃ C, w.heap[b']? = some (.cells C 25 (0, 0))) ∧ ∀ i, i < l → Shp N w B b' (o' + i * 4))
theorem Shp.num : ∀ {N : Nat} {w w' : World} {B b o : Nat}, Shp N w B b o → Numy B w w' → Shp N w' B b o
  | 0, _, _, _, _, _, h, _ => h.elim
  | N + 1, w, w', B, b, o, ⟨k, n, t, A, l, c, h0, h1, h2, h3, hn, hl, hc, hr⟩, hy => by
    obtain ⟨n', hn', h1'⟩ := hy.2.2.1 _ _ n h1 hn
    refine ⟨k, n', t, A, l, c, hy.2.1 _ _ _ h0 (fun m e => by cases e), h1', hy.2.1 _ _ _ h2 (fun m e => by cases e), hy.2.1 _ _ _ h3 (fun m e => by cases e), hn', hl, hc, fun h => ?_⟩
    obtain ⟨b', o', e, hb, ⟨C, hC⟩, hk⟩ := hr h
    exact ⟨b', o', e, hb, hy.2.2.2 _ C hC, fun i hi => (hk i hi).num hy⟩
theorem ShR.num {N : Nat} {w w' : World} {B : Nat} {A : Option Addr} {l c : Nat} (h : ShR N w B A l c) (hy : Numy B w w') : ShR N w' B A l c :=
  ⟨h.1, h.2.1, fun h0 => by
    obtain ⟨b', o', e, hb, ⟨C, hC⟩, hk⟩ := h.2.2 h0
    exact ⟨b', o', e, hb, hy.2.2.2 _ C hC, fun i hi => (hk i hi).num hy⟩⟩
mutual
theorem shp_of {w : World} {B : Nat} : ∀ (v : V) {N b o : Nat}, depth v ≤ N → bulk v ≤ 1073741824 → RepV true w (fun i => B ≤ i ∧ i < w.heap.size) v b o → Shp N w B b o
  | .mk k n t ks, 0, b, o, hd, _, _ => by simp only [depth] at hd; omega
  | .mk k n t ks, N + 1, b, o, hd, hb, h => by
    obtain ⟨A, l, c, h0, h1, h2, h3, hk, hn, hl, hc, hr⟩ := h
    simp only [depth] at hd
    simp only [bulk] at hb
    refine ⟨k, n, t, A, l, c, h0, h1, h2, h3, hn, by have := length_bulk ks; omega, hc, fun h0 => ?_⟩
    obtain ⟨b', o', e, hP, ho, hrow⟩ := hr h0
    exact ⟨b', o', e, hP.1, ho rfl, fun i hi => shp_row ks (by omega) (by omega) hrow i (by omega)⟩
theorem shp_row {w : World} {B : Nat} : ∀ (ks : List V) {N b o : Nat}, depthL ks ≤ N → bulkL ks ≤ 1073741824 → RowL true w (fun i => B ≤ i ∧ i < w.heap.size) ks b o → ∀ i, i < ks.length → Shp N w B b (o + i * 4)
  | [], _, _, _, _, _, _, i, hi => by simp at hi
  | v :: vs, N, b, o, hd, hb, h, 0, _ => by
    simp only [depthL] at hd
    simp only [bulkL] at hb
    rw [Nat.zero_mul, Nat.add_zero]
    exact shp_of v (by omega) (by omega) h.1
  | v :: vs, N, b, o, hd, hb, h, i + 1, hi => by
    simp only [depthL] at hd
    simp only [bulkL] at hb
    have := shp_row vs (N := N) (by omega) (by omega) h.2 i (by simpa using hi)
    rwa [show o + (i + 1) * 4 = o + 4 + i * 4 by omega]
end
theorem Nw.shr {w : World} {B : Nat} {ks : List V} {A : Option Addr} {l c : Nat} (h : Nw B w ks A l c) (hb : bulkL ks ≤ 1073741824) : ShR (depthL ks) w B A l c := by
  refine ⟨by have := h.len; have := length_bulk ks; omega, h.cap, fun h0 => ?_⟩
  obtain ⟨b', o', e, hP, ho, hrow⟩ := h.2.2 h0
  exact ⟨b', o', e, hP.1, ho rfl, fun i hi => shp_row ks (Nat.le_refl _) hb hrow i (by rw [← h.len]; exact hi)⟩

/-- Nothing is answered. -/
def GivesT (B : Nat) (w : World) (e : Ending) (w' : World) : Prop := (∃ v, e = .returned v) ∧ Numy B w w'
set_option maxRecDepth 100000 in
set_option maxHeartbeats 800000 in
theorem turn_any (B N : Nat) : ∀ (A : Option Addr) (l c : Nat) (w : World), ShR N w B A l c → Calls Tryd.prog 26 #[.slice A l c] w (GivesT B w) := by
  induction N using Nat.strongRecOn with
  | ind N ih =>
    intro A l c w h
    have hl := h.1
    have HS := Lib.hid h
    have IH := Lib.hid ih
    clear h ih
    go_enter Tryd.func26, Tryd.ntmps26
    go_wp2
    go_loopw [2] (fun i wr => ∃ j : Nat, j ≤ l ∧ i = .int .i64 j ∧ Numy B w wr) (fun i _ => l - (intOf i).toNat)
    case atStart => exact ⟨0, Nat.zero_le _, rfl, Numy.refl _ _⟩
    case round =>
      obtain ⟨j, hj, rfl, hy⟩ := hrel
      by_cases hlt : j < l
      · obtain ⟨b', o', rfl, hb', ⟨C, hC⟩, hk⟩ := (HS.out.num hy).2.2 (by omega)
        cases N with
        | zero => exact (hk j hlt).elim
        | succ N =>
          obtain ⟨k, n, t, A', l', c', h0, h1, h2, h3, hn, hl', hc', hr⟩ := hk j hlt
          obtain ⟨m, hm, hm2⟩ : ∃ m : Nat, IntKind.u64.wrap ((n : Int) + 1) = m ∧ m < 18446744073709551616 := by
            refine ⟨(n + 1) % 18446744073709551616, ?_, by omega⟩
            simp only [IntKind.wrap, IntKind.bits, IntKind.signed, Bool.false_and]
            simp
          have hfz : ∀ q, wr.frozen? ⟨b', q, none⟩ = false := fun q => by simp [World.frozen?, hC]
          have hy1 := Numy.set (n' := m) hb' h1 hm2
          have hS1 : ShR N (wr.setCell ⟨b', o' + j * 4 + 1, none⟩ (.int .u64 m)) B A' l' c' := ShR.num ⟨hl', hc', hr⟩ hy1
          have HS1 := Lib.hid hS1
          have HY := Lib.hid (hy.trans hy1)
          clear hS1 hy1 hr hk
          go_wp2_with fail
          refine (IH.out N (Nat.lt_succ_self N) A' l' c' _ HS1.out).mono ?_
          rintro e w2 ⟨⟨v, rfl⟩, hy2⟩
          have HY2 := Lib.hid (HY.out.trans hy2)
          clear hm
          go_wp2
          go_roundw
          case rel => exact ⟨j + 1, by omega, by go_num, HY2.out⟩
          case measure => simp [intOf]; omega
      · go_wp2
        go_end0
        exact ⟨⟨_, rfl⟩, hy⟩
end Go.Proofs.YtdbcdabijolagaaDoor.Val
