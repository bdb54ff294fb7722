/-
  Values in memory: a slice of values that is read ('Kids', 'Kd'), and one that the call itself made ('Kids true', 'Nw'). No other condition.
-/
import Derived.Test.YtohmnbefokhjpaaDoorMem
import Derived.Test.YtohmnbefokhjpaaDoorVal
import Derived.Deep.AppendLies
namespace Go.Proofs.YtohmnbefokhjpaaDoor.Val
open Go.RowKit Go.Proofs.YtohmnbefokhjpaaDoor.Utf V

theorem infoV : (Tryd.prog.info? 27).map (fun i => (i.zero, i.size, i.bytes)) = some (some (.agg #[.int .u8 0, .int .u64 0, .string ⟨#[]⟩, .slice none 0 0]), 4, 56) := by kernel_rfl

/- The value v lies at block b from offset o on; all that it leads to lies in blocks of P (own: in rows of values that may be written). -/
mutual
def RepV (own : Bool) (w : World) (P : Nat → Prop) : V → Nat → Nat → Prop
  | .mk k n t ks, b, o => ∃ A l c, w.cell? ⟨b, o, none⟩ = some (.int .u8 (k : Int)) ∧ w.cell? ⟨b, o + 1, none⟩ = some (.int .u64 (n : Int)) ∧ w.cell? ⟨b, o + 2, none⟩ = some (.string t) ∧ w.cell? ⟨b, o + 3, none⟩ = some (.slice A l c) ∧
      k < 256 ∧ n < 18446744073709551616 ∧ l = ks.length ∧ l ≤ c ∧ (0 < l → ∃ b' o', A = some ⟨b', o', none⟩ ∧ P b' ∧ (own = true → ∃ C, w.heap[b']? = some (.cells C 27 (0, 0))) ∧ RowL own w P ks b' o')
def RowL (own : Bool) (w : World) (P : Nat → Prop) : List V → Nat → Nat → Prop
  | [], _, _ => True
  | v :: vs, b, o => RepV own w P v b o ∧ RowL own w P vs b (o + 4)
end

/-- A slice that reads as the values ks. -/
def Kids (own : Bool) (w : World) (P : Nat → Prop) (ks : List V) (A : Option Addr) (l c : Nat) : Prop :=
  l = ks.length ∧ l ≤ c ∧ (0 < l → ∃ b' o', A = some ⟨b', o', none⟩ ∧ P b' ∧ (own = true → ∃ C, w.heap[b']? = some (.cells C 27 (0, 0))) ∧ RowL own w P ks b' o')

theorem repV_iff {own : Bool} {w : World} {P : Nat → Prop} {k n : Nat} {t : ByteArray} {ks : List V} {b o : Nat} : RepV own w P (.mk k n t ks) b o ↔
    ∃ A l c, w.cell? ⟨b, o, none⟩ = some (.int .u8 (k : Int)) ∧ w.cell? ⟨b, o + 1, none⟩ = some (.int .u64 (n : Int)) ∧ w.cell? ⟨b, o + 2, none⟩ = some (.string t) ∧ w.cell? ⟨b, o + 3, none⟩ = some (.slice A l c) ∧
      k < 256 ∧ n < 18446744073709551616 ∧ Kids own w P ks A l c := by
  simp only [RepV, Kids]

theorem rowL_at {own : Bool} {w : World} {P : Nat → Prop} : ∀ {ks : List V} {b o i : Nat} {v : V}, RowL own w P ks b o → ks[i]? = some v → RepV own w P v b (o + i * 4)
  | [], _, _, _, _, _, h => by simp at h
  | x :: ks, b, o, 0, v, hr, h => by
    simp at h
    subst h
    simpa using hr.1
  | x :: ks, b, o, i + 1, v, hr, h => by
    have := rowL_at (i := i) hr.2 (by simpa using h)
    rwa [show o + (i + 1) * 4 = o + 4 + i * 4 by omega]
theorem rowL_mk {own : Bool} {w : World} {P : Nat → Prop} : ∀ {ks : List V} {b o : Nat}, (∀ i v, ks[i]? = some v → RepV own w P v b (o + i * 4)) → RowL own w P ks b o
  | [], _, _, _ => trivial
  | x :: ks, b, o, h => ⟨by simpa using h 0 x rfl, rowL_mk fun i v hi => by
    have := h (i + 1) v (by simpa using hi)
    rwa [show o + (i + 1) * 4 = o + 4 + i * 4 by omega] at this⟩

mutual
theorem RepV.keep {own : Bool} {w w' : World} {P : Nat → Prop} (hk : ∀ i, P i → w'.heap[i]? = w.heap[i]?) : ∀ {v : V} {b o : Nat}, (∀ j, j < 4 → w'.cell? ⟨b, o + j, none⟩ = w.cell? ⟨b, o + j, none⟩) → RepV own w P v b o → RepV own w' P v b o
  | .mk _ _ _ _, _, _, hb, h => by
    obtain ⟨A, l, c, h0, h1, h2, h3, hk', hn, hl, hlc, hr⟩ := h
    refine ⟨A, l, c, (hb 0 (by omega)).trans h0, (hb 1 (by omega)).trans h1, (hb 2 (by omega)).trans h2, (hb 3 (by omega)).trans h3, hk', hn, hl, hlc, fun h => ?_⟩
    obtain ⟨b', o', e, hP, ho, hrow⟩ := hr h
    exact ⟨b', o', e, hP, fun h => by rw [hk b' hP]; exact ho h, hrow.keep hk hP⟩
theorem RowL.keep {own : Bool} {w w' : World} {P : Nat → Prop} (hk : ∀ i, P i → w'.heap[i]? = w.heap[i]?) : ∀ {ks : List V} {b o : Nat}, P b → RowL own w P ks b o → RowL own w' P ks b o
  | [], _, _, _, _ => trivial
  | _ :: _, b, _, hP, h => ⟨RepV.keep hk (fun _ _ => World.cell?_of_block (hk b hP)) h.1, RowL.keep hk hP h.2⟩
end
mutual
theorem RepV.mono {own : Bool} {w : World} {P P' : Nat → Prop} (hk : ∀ i, P i → P' i) : ∀ {v : V} {b o : Nat}, RepV own w P v b o → RepV own w P' v b o
  | .mk _ _ _ _, _, _, h => by
    obtain ⟨A, l, c, h0, h1, h2, h3, hk', hn, hl, hlc, hr⟩ := h
    refine ⟨A, l, c, h0, h1, h2, h3, hk', hn, hl, hlc, fun h => ?_⟩
    obtain ⟨b', o', e, hP, ho, hrow⟩ := hr h
    exact ⟨b', o', e, hk _ hP, ho, hrow.mono hk⟩
theorem RowL.mono {own : Bool} {w : World} {P P' : Nat → Prop} (hk : ∀ i, P i → P' i) : ∀ {ks : List V} {b o : Nat}, RowL own w P ks b o → RowL own w P' ks b o
  | [], _, _, _ => trivial
  | _ :: _, _, _, h => ⟨h.1.mono hk, h.2.mono hk⟩
end
mutual
theorem RepV.weak {own : Bool} {w : World} {P : Nat → Prop} : ∀ {v : V} {b o : Nat}, RepV own w P v b o → RepV false w P v b o
  | .mk _ _ _ _, _, _, h => by
    obtain ⟨A, l, c, h0, h1, h2, h3, hk', hn, hl, hlc, hr⟩ := h
    refine ⟨A, l, c, h0, h1, h2, h3, hk', hn, hl, hlc, fun h => ?_⟩
    obtain ⟨b', o', e, hP, ho, hrow⟩ := hr h
    exact ⟨b', o', e, hP, fun h => (by cases h), hrow.weak⟩
theorem RowL.weak {own : Bool} {w : World} {P : Nat → Prop} : ∀ {ks : List V} {b o : Nat}, RowL own w P ks b o → RowL false w P ks b o
  | [], _, _, _ => trivial
  | _ :: _, _, _, h => ⟨h.1.weak, h.2.weak⟩
end

section
variable {own : Bool} {w w' : World} {P P' : Nat → Prop} {ks : List V} {A : Option Addr} {l c : Nat}

theorem Kids.len (h : Kids own w P ks A l c) : l = ks.length := h.1
theorem Kids.cap (h : Kids own w P ks A l c) : l ≤ c := h.2.1
theorem Kids.none_ (own : Bool) (w : World) (P : Nat → Prop) (A : Option Addr) (c : Nat) : Kids own w P [] A 0 c := ⟨rfl, Nat.zero_le _, fun h => absurd h (by omega)⟩
theorem Kids.keep (h : Kids own w P ks A l c) (hk : ∀ i, P i → w'.heap[i]? = w.heap[i]?) : Kids own w' P ks A l c :=
  ⟨h.1, h.2.1, fun hl => by
    obtain ⟨b', o', e, hP, ho, hrow⟩ := h.2.2 hl
    exact ⟨b', o', e, hP, fun h => by rw [hk b' hP]; exact ho h, hrow.keep hk hP⟩⟩
theorem Kids.mono (h : Kids own w P ks A l c) (hk : ∀ i, P i → P' i) : Kids own w P' ks A l c :=
  ⟨h.1, h.2.1, fun hl => by
    obtain ⟨b', o', e, hP, ho, hrow⟩ := h.2.2 hl
    exact ⟨b', o', e, hk _ hP, ho, hrow.mono hk⟩⟩
theorem Kids.weak (h : Kids own w P ks A l c) : Kids false w P ks A l c :=
  ⟨h.1, h.2.1, fun hl => by
    obtain ⟨b', o', e, hP, ho, hrow⟩ := h.2.2 hl
    exact ⟨b', o', e, hP, fun h => (by cases h), hrow.weak⟩⟩
theorem Kids.at_ (h : Kids own w P ks A l c) {i : Nat} (hi : i < l) : ∃ b o k n t ks' A' l' c', A = some ⟨b, o, none⟩ ∧ P b ∧ ks[i]? = some (.mk k n t ks') ∧
    w.cell? ⟨b, o + i * 4, none⟩ = some (.int .u8 (k : Int)) ∧ w.cell? ⟨b, o + i * 4 + 1, none⟩ = some (.int .u64 (n : Int)) ∧ w.cell? ⟨b, o + i * 4 + 2, none⟩ = some (.string t) ∧ w.cell? ⟨b, o + i * 4 + 3, none⟩ = some (.slice A' l' c') ∧
    k < 256 ∧ n < 18446744073709551616 ∧ Kids own w P ks' A' l' c' := by
  obtain ⟨b, o, e, hP, _, hrow⟩ := h.2.2 (by omega)
  have hil : i < ks.length := by rw [← h.1]; exact hi
  have hx : ks[i]? = some ks[i] := List.getElem?_eq_getElem hil
  have hr := rowL_at hrow hx
  cases hv : ks[i] with
  | mk k n t ks' =>
    rw [hv] at hx hr
    obtain ⟨A', l', c', h0, h1, h2, h3, hk', hn, hK⟩ := repV_iff.1 hr
    exact ⟨b, o, k, n, t, ks', A', l', c', e, hP, hx, h0, h1, h2, h3, hk', hn, hK⟩
end

theorem below_drewN {B : Nat} {a w : World} (h : Below B a w) (n : Nat) : Below B a (w.drewN n) := ⟨h.os, h.tape, h.output, h.size, h.block⟩

/-- Kids that can be read. -/
def Kd (w : World) (ks : List V) (A : Option Addr) (l c : Nat) : Prop := Kids false w (fun i => i < w.heap.size) ks A l c
/-- Kids in new memory, from block B on, that may be written. -/
def Nw (B : Nat) (w : World) (ks : List V) (A : Option Addr) (l c : Nat) : Prop := Kids true w (fun i => B ≤ i ∧ i < w.heap.size) ks A l c

section
variable {w w' : World} {B B' : Nat} {ks : List V} {A : Option Addr} {l c : Nat}
theorem Kd.len (h : Kd w ks A l c) : l = ks.length := h.1
theorem Kd.cap (h : Kd w ks A l c) : l ≤ c := h.2.1
theorem Kd.none_ (w : World) (A : Option Addr) (c : Nat) : Kd w [] A 0 c := Kids.none_ _ _ _ _ _
theorem Kd.at_ (h : Kd w ks A l c) {i : Nat} (hi : i < l) : ∃ b o k n t ks' A' l' c', A = some ⟨b, o, none⟩ ∧ b < w.heap.size ∧ ks[i]? = some (.mk k n t ks') ∧
    w.cell? ⟨b, o + i * 4, none⟩ = some (.int .u8 (k : Int)) ∧ w.cell? ⟨b, o + i * 4 + 1, none⟩ = some (.int .u64 (n : Int)) ∧ w.cell? ⟨b, o + i * 4 + 2, none⟩ = some (.string t) ∧ w.cell? ⟨b, o + i * 4 + 3, none⟩ = some (.slice A' l' c') ∧
    k < 256 ∧ n < 18446744073709551616 ∧ Kd w ks' A' l' c' := Kids.at_ h hi
theorem Kd.call (h : Kd w ks A l c) (hb : Below w.heap.size w w') : Kd w' ks A l c := (h.keep fun i hi => hb.block i hi).mono fun _ hi => Nat.lt_of_lt_of_le hi hb.size
theorem Kd.alloc (h : Kd w ks A l c) (o : Obj) : Kd (w.alloc o) ks A l c := h.call ((Below.refl _ _).alloc (Nat.le_refl _) _)
theorem Kd.drew (h : Kd w ks A l c) : Kd w.drew ks A l c := h.call ((Below.refl _ _).drew)
theorem Kd.drewN (h : Kd w ks A l c) (n : Nat) : Kd (w.drewN n) ks A l c := h.call (below_drewN (Below.refl _ _) n)
theorem Nw.kd (h : Nw B w ks A l c) : Kd w ks A l c := h.weak.mono fun _ hi => hi.2
theorem Nw.len (h : Nw B w ks A l c) : l = ks.length := h.1
theorem Nw.cap (h : Nw B w ks A l c) : l ≤ c := h.2.1
theorem Nw.call (h : Nw B w ks A l c) (hb : Below w.heap.size w w') : Nw B w' ks A l c := (h.keep fun i hi => hb.block i hi.2).mono fun _ hi => ⟨hi.1, Nat.lt_of_lt_of_le hi.2 hb.size⟩
theorem Nw.less (h : Nw B w ks A l c) (hB : B' ≤ B) : Nw B' w ks A l c := h.mono fun _ hi => ⟨Nat.le_trans hB hi.1, hi.2⟩
theorem Nw.drewN (h : Nw B w ks A l c) (n : Nat) : Nw B (w.drewN n) ks A l c := h.call (below_drewN (Below.refl _ _) n)
end
end Go.Proofs.YtohmnbefokhjpaaDoor.Val
