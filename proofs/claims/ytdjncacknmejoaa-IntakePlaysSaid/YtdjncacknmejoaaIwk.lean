/-
  The anchor of layer 12, and what its laws share: Put and Next at a state that is known, no intake, an append that lays a new row. Memory that was there stays. No condition.
-/
import Derived.Test.YtdjncacknmejoaaInn
import Derived.Test.YtdjncacknmejoaaIpu
import Derived.Deep.Upon
namespace Go.Proofs.Ytdjncacknmejoaa.It
set_option maxRecDepth 100000
open Go.RowKit Go.Proofs.Ytdjncacknmejoaa.Utf Go.Proofs.Ytdjncacknmejoaa.Enc Go.Proofs.Ytdjncacknmejoaa.Fr

theorem zero_row (k : Nat) : Builtin.zeroCells (Value.int .u8 0).cells k = (vs .u8 (List.replicate k 0)).toArray := by
  rw [← replicate_vs]
  apply Array.ext'
  have hc : (Value.int .u8 0).cells = #[Value.int .u8 0] := rfl
  rw [hc]
  simp [Builtin.zeroCells]
  apply List.ext_getElem
  · simp
  · intro i h1 h2
    simp [Nat.mod_one]
/-- A row that lies in a block of bytes, from a place on, with its room behind it. -/
structure Row (w : World) (A : Option Addr) (n c : Nat) (l : List Nat) : Prop where
  rd : Rd .u8 256 w w.heap.size A n l
  le : n ≤ c
  blk : c = 0 ∨ ∃ h o R, A = some ⟨h, o, none⟩ ∧ Blk w h R ∧ o + c = R.length
theorem Row.nil (w : World) : Row w none 0 0 [] := ⟨Rd.zero _ _ _ _ _, Nat.le_refl _, .inl rfl⟩
theorem rd_same {w : World} {B B' n : Nat} {A : Option Addr} {l m : List Nat} (h : Rd .u8 256 w B A n l) (h' : Rd .u8 256 w B' A n m) : l = m := by
  apply List.ext_getElem (by rw [h.1, h'.1])
  intro k h1 h2
  obtain ⟨b, o, e, _, hc⟩ := h.2.2 (by rw [← h.1]; omega)
  obtain ⟨b', o', e', _, hc'⟩ := h'.2.2 (by rw [← h.1]; omega)
  rw [e] at e'
  injection e' with e'
  injection e' with e1 e2 _
  subst e1
  subst e2
  have := (hc k h1).symm.trans (hc' k h2)
  injection this with this
  injection this with _ this
  exact Int.ofNat.inj this
/-- append(x, y...) where there is no room: a new row. -/
theorem run_grow8 {w : World} {B B' n c m d : Nat} {A A' : Option Addr} {L l : List Nat} (ty : TypeId) (hr : Rd .u8 256 w B A n L) (hr' : Rd .u8 256 w B' A' m l) (hc : c < n + m) (hsz : n + m ≤ 17592186044416) :
    ∃ c2, n + m ≤ c2 ∧ ∃ w', (Builtin.append_ #[24, 24] ty #[.slice A n c, .slice A' m d]).run Try.prog w = .ok (.slice (some ⟨w.heap.size, 0, none⟩) (n + m) c2) w' ∧ Below w.heap.size w w' ∧ Blk w' w.heap.size (L ++ l ++ List.replicate (c2 - (n + m)) 0) := by
  obtain ⟨i0, hi, hz0, hz1, hz2⟩ := info_parts info5
  have hl := hr.1
  have hl' := hr'.1
  have hs : Src Try.prog i0.size 24 (.slice A' m d) m (vs .u8 l) w := hz1 ▸ rd_srcs hr'
  have hold : (Builtin.firstCells i0.size n (.slice A n c)).run Try.prog w.drew = .ok (vs .u8 L).toArray w.drew := by
    have hr1 : Rd .u8 256 w.drew B A n L := hr.below (Below.drew (Below.refl _ _))
    have := (rd_srcs (d := c) hr1).cells
    rw [hz1]
    exact this
  have hrun := run_append_grow_src (P := Try.prog) w 24 24 ty 5 i0 (.int .u8 0) Try.underlying24 hi hz0 A n c (vs .u8 L) hold (.slice A' m d) m (vs .u8 l) hs hc (by omega) (by rw [hz2]; exact growslice_fits hc (by omega))
  refine ⟨_, grownCap_ge w (n + m) c 5, _, hrun, ((Below.refl w.heap.size w).drew).alloc (Nat.le_refl _) _, ?_, ?_⟩
  · rw [zero_row, ← vs_append]
    have e1 : ∀ a b : List Nat, (vs .u8 a).toArray ++ (vs .u8 b).toArray = (vs .u8 (a ++ b)).toArray := fun a b => by rw [vs_append]; simp
    rw [e1]
    exact heap_alloc_new w.drew _
  · intro x hx
    rcases List.mem_append.1 hx with hx | hx
    · rcases List.mem_append.1 hx with hx | hx
      · exact hr.2.1 x hx
      · exact hr'.2.1 x hx
    · rw [List.eq_of_mem_replicate hx]; omega
/-- append(x, y...), wherever it lies: the same block, or a new one. -/
def Appended (A : Option Addr) (n m : Nat) (L : List Nat) (w : World) (A2 : Option Addr) (c2 : Nat) (w' : World) : Prop :=
  Row w' A2 (n + m) c2 L ∧ Off (fun i => ∃ o, A = some ⟨i, o, none⟩) w w' ∧ ∀ i o, A2 = some ⟨i, o, none⟩ → (∃ o', A = some ⟨i, o', none⟩) ∨ w.heap.size ≤ i
theorem run_row8 {w : World} {B' n c m d : Nat} {A A' : Option Addr} {L l : List Nat} (ty : TypeId) (r : Row w A n c L) (hr' : Rd .u8 256 w B' A' m l) (hsz : n + m ≤ 17592186044416) :
    ∃ A2 c2 w', (Builtin.append_ #[24, 24] ty #[.slice A n c, .slice A' m d]).run Try.prog w = .ok (.slice A2 (n + m) c2) w' ∧ Appended A n m (L ++ l) w A2 c2 w' := by
  have hl := r.rd.1
  have hl' := hr'.1
  by_cases hc : c < n + m
  · obtain ⟨c2, h2, w', hrun, hb, hB⟩ := run_grow8 (d := d) ty r.rd hr' hc hsz
    refine ⟨_, c2, w', hrun, ⟨?_, h2, .inr ⟨_, 0, _, rfl, hB, by simp; omega⟩⟩, Off.of _ hb, fun i o e => ?_⟩
    · have := hB.rd (o := 0) (n := n + m) (B := w'.heap.size) (by simp; omega) hB.lt
      rw [List.drop_zero, List.take_left' (by simp; omega)] at this
      exact this
    · injection e with e
      injection e with e _ _
      exact .inr (by omega)
  · rcases r.blk with h0 | ⟨h, o, R, rfl, hB, hoc⟩
    · -- nothing is appended to nothing
      have hle := r.le
      obtain rfl : m = 0 := by omega
      have e0 : l = [] := List.eq_nil_of_length_eq_zero hl'
      subst e0
      obtain ⟨i0, hi, hz0, hz1, hz2⟩ := info_parts info5
      have hs : Src Try.prog i0.size 24 (.slice A' 0 d) 0 [] w := hz1 ▸ rd_srcs hr'
      refine ⟨A, c, w, run_append_nothing (P := Try.prog) w 24 24 ty 5 i0 Try.underlying24 hi A n c hle _ hs, ⟨by simpa using r.rd, by omega, .inl h0⟩, Off.refl _ _, fun i o e => .inl ⟨o, e⟩⟩
    · have hrun := run_room8 (off := o) (d := d) ty hB hr' (show n + m ≤ c by omega) (by omega)
      have hB' := hB.sets (k := o + n) l hr'.2.1 (by omega)
      refine ⟨_, c, _, hrun, ⟨?_, by omega, .inr ⟨h, o, _, rfl, hB', by rw [length_splice _ _ _ (by omega)]; exact hoc⟩⟩, (Off.sets (X := fun i => i = h) (g := h) rfl _ _ _).mono (fun i _ e => ⟨o, by rw [e]⟩), fun i o' e => .inl ⟨o', e⟩⟩
      have := hB'.rd (o := o) (n := n + m) (B := (w.setCells h (o + n) (vs .u8 l)).heap.size) (by rw [length_splice _ _ _ (by omega)]; omega) hB'.lt
      have e1 : ((splice R (o + n) l).drop o).take (n + m) = L ++ l := by
        have hR : (R.drop o).take n = L := by
          have h1 := hB.rd (o := o) (n := n) (B := w.heap.size) (by omega) hB.lt
          exact rd_same h1 r.rd
        unfold splice
        rw [List.drop_append_of_le_length (by rw [List.length_take]; omega), List.drop_take, show o + n - o = n by omega, hR, ← List.append_assoc, List.take_left' (by simp; omega)]
      rwa [e1] at this
end Go.Proofs.Ytdjncacknmejoaa.It
