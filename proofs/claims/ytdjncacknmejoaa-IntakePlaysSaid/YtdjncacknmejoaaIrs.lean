/-
  Rows of rows of bytes of one's own: what is appended, and what stays. No other condition.
-/
import Derived.Test.YtdjncacknmejoaaIwo
namespace Go.Proofs.Ytdjncacknmejoaa.It
set_option maxRecDepth 100000
open Go.RowKit Go.Proofs.Ytdjncacknmejoaa.Utf Go.Proofs.Ytdjncacknmejoaa.Enc Go.Proofs.Ytdjncacknmejoaa.Fr

theorem info24 : (Try.prog.info? 24).map (fun i => (i.zero, i.size, i.bytes)) = some (some (.slice none 0 0), 1, 24) := by kernel_rfl
/-- An element: a slice of bytes, in no block below base, nor in the row's. -/
def Elt (w : World) (base : Nat) (v : Value) (A : Option Addr) (T : List Nat) : Prop :=
  ∃ B m d, v = .slice B m d ∧ m ≤ d ∧ Rd .u8 256 w w.heap.size B m T ∧ ∀ b o, B = some ⟨b, o, none⟩ → base ≤ b ∧ b < w.heap.size ∧ ∀ g o', A = some ⟨g, o', none⟩ → b ≠ g
/-- A row of one's own of rows of bytes. -/
structure RowsI (w : World) (base : Nat) (A : Option Addr) (n c : Nat) (Ts : List (List Nat)) : Prop where
  len : Ts.length = n
  own : ∃ xs : List Value, w.ownsRow base 24 1 (.slice A n c) n xs ∧ ∀ (i : Nat) (T : List Nat), Ts[i]? = some T → ∃ v : Value, xs[i]? = some v ∧ Elt w base v A T
section
variable {w w' : World} {base n c : Nat} {A : Option Addr} {Ts : List (List Nat)} {X : Nat → Prop}
theorem Elt.off {v : Value} {T : List Nat} (h : Elt w base v A T) (ho : Off X w w') (hx : ∀ i, X i → i < base ∨ ∃ o, A = some ⟨i, o, none⟩) : Elt w' base v A T := by
  obtain ⟨B, m, d, e, hmd, hr, hB⟩ := h
  refine ⟨B, m, d, e, hmd, (ho.rd hr fun b o e => ⟨(hB b o e).2.1, fun hX => ?_⟩).mono ho.size, fun b o e => ⟨(hB b o e).1, Nat.lt_of_lt_of_le (hB b o e).2.1 ho.size, (hB b o e).2.2⟩⟩
  rcases hx b hX with h | ⟨o', h⟩
  · have := (hB b o e).1; omega
  · exact (hB b o e).2.2 _ _ h rfl
theorem RowsI.off (h : RowsI w base A n c Ts) (ho : Off X w w') (hx : ∀ i, X i → i < base) : RowsI w' base A n c Ts := by
  refine ⟨h.len, ?_⟩
  obtain ⟨xs, hown, hat⟩ := h.own
  refine ⟨xs, ?_, fun i T hT => ?_⟩
  · refine ⟨hown.1, ?_⟩
    rcases hown.2 with h1 | ⟨g, cap, cur, h1, h2, h3, h4⟩
    · exact .inl h1
    · refine .inr ⟨g, cap, cur, h1, h2, (ho.block g (Array.getElem?_eq_some_iff.1 h3).1 fun hX => ?_).trans h3, h4⟩
      have := hx g hX
      omega
  · obtain ⟨v, hv, he⟩ := hat i T hT
    exact ⟨v, hv, he.off ho fun i hX => Or.inl (hx i hX)⟩
theorem RowsI.call (h : RowsI w base A n c Ts) (hb : Below w.heap.size w w') : RowsI w' base A n c Ts := h.off (X := fun _ => False) (Off.of _ hb) (fun _ h => h.elim)
theorem RowsI.cap (h : RowsI w base A n c Ts) : n ≤ c := by
  obtain ⟨xs, hown, _⟩ := h.own
  rcases hown.2 with ⟨e, h0⟩ | ⟨g, cap, cur, e, _, _, h1, _⟩
  · injection e with _ _ e; omega
  · injection e with _ _ e; omega
/-- The element at a place. -/
theorem RowsI.at (h : RowsI w base A n c Ts) {i : Nat} (hi : i < n) : ∃ g T B m d, A = some ⟨g, 0, none⟩ ∧ Ts[i]? = some T ∧ w.cell? ⟨g, i, none⟩ = some (.slice B m d) ∧ m ≤ d ∧ Rd .u8 256 w w.heap.size B m T ∧ base ≤ g ∧ g < w.heap.size ∧ ∀ b o, B = some ⟨b, o, none⟩ → base ≤ b ∧ b < w.heap.size := by
  have hl := h.len
  obtain ⟨xs, hown, hat⟩ := h.own
  obtain ⟨g, cap, e, hg1, hg2⟩ := hown.form (by omega)
  injection e with e1 _ e2
  subst e1
  obtain ⟨v, hv, B, m, d, rfl, hmd, hr, hB⟩ := hat i (Ts[i]'(by omega)) (List.getElem?_eq_getElem (by omega))
  have hown' : w.ownsRow base 24 1 (.slice (some ⟨g, 0, none⟩) n cap) n xs := e2 ▸ hown
  refine ⟨g, _, B, m, d, rfl, List.getElem?_eq_getElem (by omega), ?_, hmd, hr, hg1, hg2, fun b o e => ⟨(hB b o e).1, (hB b o e).2.1⟩⟩
  rw [World.ownsRow.cellAt hown' i (by omega)]
  exact hv
end
/-- A literal row of one slice. -/
theorem RowsI.lit (w : World) {base m d : Nat} {B : Option Addr} {T : List Nat} (hr : Rd .u8 256 w w.heap.size B m T) (hmd : m ≤ d) (hbase : base ≤ w.heap.size) (hB : ∀ b o, B = some ⟨b, o, none⟩ → base ≤ b ∧ b < w.heap.size) :
    RowsI (w.alloc (.cells #[.slice B m d] 24)) base (some ⟨w.heap.size, 0, none⟩) 1 1 [T] := by
  refine ⟨rfl, [.slice B m d], ?_, fun i T' hT => ?_⟩
  · have := World.ownsRow_lit (e := 24) (size := 1) (base := base) w #[.slice B m d] 1 hbase (by unfold maxLen; omega) (by simp)
    simpa using this
  · have hi : i = 0 := by
      have := (List.getElem?_eq_some_iff.1 hT).1
      simp at this
      omega
    subst hi
    simp at hT
    subst hT
    refine ⟨_, rfl, B, m, d, rfl, hmd, hr.call ((Below.refl _ _).alloc (Nat.le_refl _) _), fun b o e => ⟨(hB b o e).1, by have := (hB b o e).2; simp; omega, fun g o' e' => ?_⟩⟩
    injection e' with e'
    injection e' with e' _ _
    have := (hB b o e).2
    omega
/-- append(rows, x). -/
theorem wpList_rows {w : World} {ops : Array Oper} {rest : List Oper} {o : Oper} {a : Act} {Q : Exit → Act → World → Prop} (hgd : o.guard = none) (s x : Operand)
    (ho : o.op = .call { callee := .builtin .append, args := #[s, x], argTypes := #[23, 23] })
    {base n c m d g0 : Nat} {A B : Option Addr} {Ts : List (List Nat)} {T : List Nat} (hs : a.eval s = .slice A n c) (h : RowsI w base A n c Ts) (hx : a.eval x = .slice (some ⟨g0, 0, none⟩) 1 1) (hg0 : w.cell? ⟨g0, 0, none⟩ = some (.slice B m d))
    (hr : Rd .u8 256 w w.heap.size B m T) (hmd : m ≤ d) (hB : ∀ b o, B = some ⟨b, o, none⟩ → base ≤ b ∧ b < w.heap.size ∧ ∀ g o', A = some ⟨g, o', none⟩ → b ≠ g) (hn : n ≤ 1048576) (hbase : base ≤ w.heap.size)
    (hK : ∀ A2 c2 w', RowsI w' base A2 (n + 1) c2 (Ts ++ [T]) → Below base w w' → Off (fun i => ∃ o, A = some ⟨i, o, none⟩) w w' → wpList Try.prog ops Q rest (a.put o.dst (.slice A2 (n + 1) c2)) w') :
    wpList Try.prog ops Q (o :: rest) a w := by
  obtain ⟨i0, hi, hz0, hz1, hz2⟩ := info_parts info24
  have hlen := h.len
  obtain ⟨xs, hown, hat⟩ := h.own
  have hxl : xs.length = n := by have := hown.1; omega
  refine wpList_append_lies w hgd s x 23 ho base 24 i0 _ 1 24 Try.underlying23 hi hz0 hz1 hz2 rfl (by omega) (.slice A n c) n xs hs hown ⟨g0, 0, none⟩ 1 1 [.slice B m d] hx rfl (fun j u hu => ?_) (fun u hu => ?_) (by omega) (by unfold maxLen; omega) (by omega) hbase _ rfl fun g cap w' h1 h2 h3 h4 => ?_
  · have hj : j = 0 := by
      have := (List.getElem?_eq_some_iff.1 hu).1
      simp at this
      omega
    subst hj
    simp at hu
    subst hu
    rw [Addr.add_lit]
    exact hg0
  · simp at hu
    subst hu
    rfl
  · have hoff : Off (fun i => ∃ o, A = some ⟨i, o, none⟩) w w' := ⟨h2.os, h2.tape, h2.output, h2.size, fun i hi hX => h2.block i hi fun e => hX (by
      cases A with
      | none => cases e
      | some a =>
        rcases hown.2 with ⟨e1, _⟩ | ⟨g1, _, _, e1, _⟩
        · cases e1
        · injection e1 with e1 _ _
          injection e1 with e1
          subst e1
          have e : g1 = i := by simpa [Value.ownBlock] using e.symm
          exact ⟨0, by rw [e]⟩)⟩
    have hbel : Below base w w' := hoff.below hbase fun i hi ⟨o, e⟩ => by
      have := hown.lt i (by rw [e]; rfl)
      omega
    refine hK _ cap w' ⟨by simp [hlen], xs ++ [.slice B m d], h1, fun i T' hT => ?_⟩ hbel hoff
    have hne : ∀ b, b < w.heap.size → (∀ g o', A = some ⟨g, o', none⟩ → b ≠ g) → ∀ g' o', (some ⟨g, 0, none⟩ : Option Addr) = some ⟨g', o', none⟩ → b ≠ g' := fun b hb hA g' o' e => by
      injection e with e
      injection e with e _ _
      subst e
      rcases h3 with h3 | h3
      · cases A with
        | none => cases h3
        | some a =>
          rcases hown.2 with ⟨e1, _⟩ | ⟨g1, _, _, e1, _⟩
          · cases e1
          · injection e1 with e1 _ _
            injection e1 with e1
            subst e1
            have e : g1 = g := by simpa [Value.ownBlock] using h3
            exact e ▸ hA g1 0 rfl
      · omega
    have lift : ∀ v T, Elt w base v A T → Elt w' base v (some ⟨g, 0, none⟩) T := fun v T he => by
      obtain ⟨B', m', d', e, hmd', hr', hB'⟩ := he
      exact ⟨B', m', d', e, hmd', (hoff.rd hr' fun b o e => ⟨(hB' b o e).2.1, fun ⟨o', e'⟩ => (hB' b o e).2.2 _ _ e' rfl⟩).mono hoff.size, fun b o e => ⟨(hB' b o e).1, Nat.lt_of_lt_of_le (hB' b o e).2.1 hoff.size, hne b (hB' b o e).2.1 (hB' b o e).2.2⟩⟩
    by_cases hi : i < Ts.length
    · rw [List.getElem?_append_left hi] at hT
      obtain ⟨v, hv, he⟩ := hat i T' hT
      exact ⟨v, by rw [List.getElem?_append_left (by omega)]; exact hv, lift v T' he⟩
    · have hi2 : i = Ts.length := by
        have := (List.getElem?_eq_some_iff.1 hT).1
        simp at this
        omega
      subst hi2
      simp at hT
      subst hT
      exact ⟨.slice B m d, by rw [List.getElem?_append_right (by omega), show Ts.length - xs.length = 0 by omega]; rfl, lift _ _ ⟨B, m, d, rfl, hmd, hr, hB⟩⟩
end Go.Proofs.Ytdjncacknmejoaa.It
