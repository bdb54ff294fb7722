/-
  Rows of frames of one's own: what is appended, and what stays. No other condition.
-/
import Derived.Test.YtdjncacknmejoaaIrs
import Derived.Test.YtdjncacknmejoaaIev
namespace Go.Proofs.Ytdjncacknmejoaa.It
set_option maxRecDepth 100000
open Go.RowKit Go.Proofs.Ytdjncacknmejoaa.Utf Go.Proofs.Ytdjncacknmejoaa.Enc Go.Proofs.Ytdjncacknmejoaa.Fr

theorem info39 : (Try.prog.info? 39).map (fun i => (i.zero, i.size, i.bytes)) = some (some (.agg #[.int .u16 0, .slice none 0 0]), 2, 32) := by kernel_rfl
/-- In which block it lies. -/
def Bof (A : Option Addr) (b : Nat) : Prop := ∃ o, A = some ⟨b, o, none⟩
/-- A slice of bytes, in no block below base, nor in one of Z. -/
def EltZ (w : World) (base : Nat) (v : Value) (Z : Nat → Prop) (T : List Nat) : Prop :=
  ∃ B m d, v = .slice B m d ∧ m ≤ d ∧ Rd .u8 256 w w.heap.size B m T ∧ ∀ b, Bof B b → base ≤ b ∧ b < w.heap.size ∧ ¬ Z b
theorem EltZ.off {w w' : World} {base : Nat} {v : Value} {Z X : Nat → Prop} {T : List Nat} (h : EltZ w base v Z T) (ho : Off X w w') (hx : ∀ i, X i → i < base ∨ Z i) : EltZ w' base v Z T := by
  obtain ⟨B, m, d, e, hmd, hr, hB⟩ := h
  refine ⟨B, m, d, e, hmd, (ho.rd hr fun b o e => ⟨(hB b ⟨o, e⟩).2.1, fun hX => ?_⟩).mono ho.size, fun b hb => ⟨(hB b hb).1, Nat.lt_of_lt_of_le (hB b hb).2.1 ho.size, (hB b hb).2.2⟩⟩
  rcases hx b hX with h | h
  · have := (hB b ⟨o, e⟩).1; omega
  · exact (hB b ⟨o, e⟩).2.2 h
theorem EltZ.re {w : World} {base : Nat} {v : Value} {Z Z' : Nat → Prop} {T : List Nat} (h : EltZ w base v Z T) (hz : ∀ b, b < w.heap.size → Z' b → Z b) : EltZ w base v Z' T := by
  obtain ⟨B, m, d, e, hmd, hr, hB⟩ := h
  exact ⟨B, m, d, e, hmd, hr, fun b hb => ⟨(hB b hb).1, (hB b hb).2.1, fun hZ => (hB b hb).2.2 (hz b (hB b hb).2.1 hZ)⟩⟩
/-- A row of one's own of frames, whose bodies lie in no block of Z. -/
structure FrsI (w : World) (base : Nat) (Z : Nat → Prop) (A : Option Addr) (n c : Nat) (E : List (Nat × List Nat)) : Prop where
  len : E.length = n
  own : ∃ xs : List Value, w.ownsRow base 39 2 (.slice A n c) n xs ∧ ∀ (i : Nat) (q : Nat × List Nat), E[i]? = some q → xs[i * 2]? = some (.int .u16 (q.1 : Int)) ∧ ∃ v : Value, xs[i * 2 + 1]? = some v ∧ EltZ w base v (fun b => Z b ∨ Bof A b) q.2
theorem FrsI.nil (w : World) (base : Nat) (Z : Nat → Prop) : FrsI w base Z none 0 0 [] := ⟨rfl, [], World.ownsRow_nil _ _ _ _, fun i q h => by simp at h⟩
section
variable {w w' : World} {base n c : Nat} {A : Option Addr} {E : List (Nat × List Nat)} {X Z Z' : Nat → Prop}
theorem FrsI.off (h : FrsI w base Z A n c E) (ho : Off X w w') (hx : ∀ i, X i → i < base ∨ (Z i ∧ ¬ Bof A i)) : FrsI w' base Z A n c E := by
  refine ⟨h.len, ?_⟩
  obtain ⟨xs, hown, hat⟩ := h.own
  refine ⟨xs, ?_, fun i T hT => ?_⟩
  · refine ⟨hown.1, ?_⟩
    rcases hown.2 with h1 | ⟨g, cap, cur, h1, h2, h3, h4⟩
    · exact .inl h1
    · refine .inr ⟨g, cap, cur, h1, h2, (ho.block g (Array.getElem?_eq_some_iff.1 h3).1 fun hX => ?_).trans h3, h4⟩
      rcases hx g hX with h | h
      · omega
      · injection h1 with h1 _ _
        exact h.2 ⟨0, h1⟩
  · obtain ⟨h0, v, hv, he⟩ := hat i T hT
    exact ⟨h0, v, hv, he.off ho fun i hX => (hx i hX).imp id fun h => Or.inl h.1⟩
theorem FrsI.re (h : FrsI w base Z A n c E) (hz : ∀ b, b < w.heap.size → Z' b → Z b) : FrsI w base Z' A n c E := by
  refine ⟨h.len, ?_⟩
  obtain ⟨xs, hown, hat⟩ := h.own
  refine ⟨xs, hown, fun i T hT => ?_⟩
  obtain ⟨h0, v, hv, he⟩ := hat i T hT
  exact ⟨h0, v, hv, he.re fun b hb h => h.imp (hz b hb) id⟩
theorem FrsI.call (h : FrsI w base Z A n c E) (hb : Below w.heap.size w w') : FrsI w' base Z A n c E := h.off (X := fun _ => False) (Off.of _ hb) (fun _ h => h.elim)
/-- The element at a place. -/
theorem FrsI.at (h : FrsI w base Z A n c E) {i : Nat} (hi : i < n) : ∃ g q B m d, A = some ⟨g, 0, none⟩ ∧ E[i]? = some q ∧ w.cell? ⟨g, i * 2, none⟩ = some (.int .u16 (q.1 : Int)) ∧ w.cell? ⟨g, i * 2 + 1, none⟩ = some (.slice B m d) ∧ m ≤ d ∧ Rd .u8 256 w w.heap.size B m q.2 ∧ base ≤ g ∧ g < w.heap.size := by
  have hl := h.len
  obtain ⟨xs, hown, hat⟩ := h.own
  obtain ⟨g, cap, e, hg1, hg2⟩ := hown.form (by omega)
  injection e with e1 _ e2
  subst e1
  obtain ⟨h0, v, hv, B, m, d, rfl, hmd, hr, hB⟩ := hat i (E[i]'(by omega)) (List.getElem?_eq_getElem (by omega))
  have hown' : w.ownsRow base 39 2 (.slice (some ⟨g, 0, none⟩) n cap) n xs := e2 ▸ hown
  refine ⟨g, _, B, m, d, rfl, List.getElem?_eq_getElem (by omega), ?_, ?_, hmd, hr, hg1, hg2⟩
  · rw [World.ownsRow.cellAt hown' (i * 2) (by omega)]
    exact h0
  · rw [World.ownsRow.cellAt hown' (i * 2 + 1) (by omega)]
    exact hv
end
/-- append(kinds, k). -/
theorem wpList_kind {w : World} {ops : Array Oper} {rest : List Oper} {o : Oper} {a : Act} {Q : Exit → Act → World → Prop} (hgd : o.guard = none) (s x : Operand)
    (ho : o.op = .call { callee := .builtin .append, args := #[s, x], argTypes := #[24, 24] })
    {base n c k g0 : Nat} {A : Option Addr} {L : List Nat} (hs : a.eval s = .slice A n c) (h : Own .u8 256 5 w base A n c L) (hx : a.eval x = .slice (some ⟨g0, 0, none⟩) 1 1) (hg0 : w.cell? ⟨g0, 0, none⟩ = some (.int .u8 (k : Int))) (hk : k < 256) (hn : n ≤ 1048576) (hbase : base ≤ w.heap.size)
    (hK : ∀ A2 c2 w', Own .u8 256 5 w' base A2 (n + 1) c2 (L ++ [k]) → Below base w w' → Off (Bof A) w w' → (∀ i, Bof A2 i → Bof A i ∨ w.heap.size ≤ i) → wpList Try.prog ops Q rest (a.put o.dst (.slice A2 (n + 1) c2)) w') :
    wpList Try.prog ops Q (o :: rest) a w := by
  refine wpList_plain hgd fun KK hK' => ?_
  obtain ⟨i0, hi, hz0, hz1, hz2⟩ := info_parts info5
  have hnews : ∀ j u, (vs .u8 [k])[j]? = some u → w.cell? ((⟨g0, 0, none⟩ : Addr).add j) = some u := fun j u hu => by
    have hj : j = 0 := by
      have := (List.getElem?_eq_some_iff.1 hu).1
      simp [vs] at this
      omega
    subst hj
    simp [vs] at hu
    subst hu
    rw [Addr.add_lit]
    exact hg0
  have hlim : ∀ u ∈ vs .u8 [k], Nb .u8 256 u := nb_vs (fun x hx => by simp at hx; omega)
  obtain ⟨g, cap, w', hr, h2, h3, h4, h5⟩ := run_append_lies (P := Try.prog) w 24 o.type base 5 i0 (.int .u8 0) 1 1 Try.underlying24 hi hz0 hz1 hz2 rfl (by omega) (.slice A n c) n (vs .u8 L) h.2.1 ⟨g0, 0, none⟩ 1 1 (vs .u8 [k]) (by simp [vs]) hnews (vs_one _ _) (by omega) (by unfold maxLen; omega) (by omega) hbase _ rfl
  have h6 := typ_append (P := Try.prog) (Q := Nb .u8 256) 24 o.type 5 i0 (.int .u8 0) 1 Try.underlying24 hi hz0 hz1 hz2 rfl ⟨0, by omega, rfl⟩ base (.slice A n c) n (vs .u8 L) h.2.1 h.2.2 ⟨g0, 0, none⟩ 1 1 (vs .u8 [k]) (by simp [vs]) hnews (vs_one _ _) hlim (by unfold maxLen; omega) (by omega) hr
  rw [← vs_append] at h2
  unfold Oper.wp execOp
  simp only [ho, resolve, invoke, builtin, Sem.run_bind, Sem.run_pure, Result.andThen_ok, List.map_toArray, List.map_cons, List.map_nil, hs, hx, hr]
  have hown := h.2.1
  refine hK' _ _ (hK _ cap w' ⟨fun y hy => (List.mem_append.1 hy).elim (h.1 y) (fun hy => by simp at hy; omega), h2, h6⟩ (below_grown h h3 hbase) ⟨h3.os, h3.tape, h3.output, h3.size, fun i hi hX => h3.block i hi fun e => hX ?_⟩ fun i ⟨o, e⟩ => ?_)
  · cases A with
    | none => cases e
    | some a =>
      rcases hown.2 with ⟨e1, _⟩ | ⟨g1, _, _, e1, _⟩
      · cases e1
      · injection e1 with e1 _ _
        injection e1 with e1
        subst e1
        have e : g1 = i := by simpa [Value.ownBlock] using e.symm
        exact ⟨0, by rw [e]⟩
  · injection e with e
    injection e with e _ _
    subst e
    rcases h4 with h3 | h3
    · cases A with
      | none => cases h3
      | some a =>
        rcases hown.2 with ⟨e1, _⟩ | ⟨g1, _, _, e1, _⟩
        · cases e1
        · injection e1 with e1 _ _
          injection e1 with e1
          subst e1
          have e : g1 = g := by simpa [Value.ownBlock] using h3
          exact .inl ⟨0, by rw [e]⟩
    · exact .inr (by omega)
/-- append(frames, f). -/
theorem wpList_frs {w : World} {ops : Array Oper} {rest : List Oper} {o : Oper} {a : Act} {Q : Exit → Act → World → Prop} (hgd : o.guard = none) (s x : Operand)
    (ho : o.op = .call { callee := .builtin .append, args := #[s, x], argTypes := #[48, 48] })
    {base n c m d g0 ch : Nat} {A B : Option Addr} {E : List (Nat × List Nat)} {T : List Nat} {Z : Nat → Prop} (hs : a.eval s = .slice A n c) (h : FrsI w base Z A n c E) (hx : a.eval x = .slice (some ⟨g0, 0, none⟩) 1 1) (hg0 : w.cell? ⟨g0, 0, none⟩ = some (.int .u16 (ch : Int))) (hg1 : w.cell? ⟨g0, 1, none⟩ = some (.slice B m d))
    (hr : Rd .u8 256 w w.heap.size B m T) (hmd : m ≤ d) (hB : ∀ b, Bof B b → base ≤ b ∧ b < w.heap.size ∧ ¬ (Z b ∨ Bof A b)) (hn : n ≤ 1048576) (hbase : base ≤ w.heap.size)
    (hK : ∀ A2 c2 w', FrsI w' base Z A2 (n + 1) c2 (E ++ [(ch, T)]) → Below base w w' → Off (Bof A) w w' → (∀ i, Bof A2 i → Bof A i ∨ w.heap.size ≤ i) → wpList Try.prog ops Q rest (a.put o.dst (.slice A2 (n + 1) c2)) w') :
    wpList Try.prog ops Q (o :: rest) a w := by
  obtain ⟨i0, hi, hz0, hz1, hz2⟩ := info_parts info39
  have hlen := h.len
  obtain ⟨xs, hown, hat⟩ := h.own
  have hxl : xs.length = n * 2 := by have := hown.1; omega
  refine wpList_append_lies w hgd s x 48 ho base 39 i0 _ 2 32 Try.underlying48 hi hz0 hz1 hz2 rfl (by omega) (.slice A n c) n xs hs hown ⟨g0, 0, none⟩ 1 1 [.int .u16 (ch : Int), .slice B m d] hx rfl (fun j u hu => ?_) (fun u hu => ?_) (by omega) (by unfold maxLen; omega) (by omega) hbase _ rfl fun g cap w' h1 h2 h3 h4 => ?_
  · have hj : j = 0 ∨ j = 1 := by
      have := (List.getElem?_eq_some_iff.1 hu).1
      simp at this
      omega
    rw [Addr.add_lit]
    rcases hj with rfl | rfl
    · simp at hu
      subst hu
      exact hg0
    · simp at hu
      subst hu
      exact hg1
  · simp at hu
    rcases hu with rfl | rfl <;> rfl
  · have hoff : Off (Bof A) w w' := ⟨h2.os, h2.tape, h2.output, h2.size, fun i hi hX => h2.block i hi fun e => hX (by
      cases A with
      | none => cases e
      | some a =>
        rcases hown.2 with ⟨e1, _⟩ | ⟨g1, _, _, e1, _⟩
        · cases e1
        · injection e1 with e1 _ _
          injection e1 with e1
          subst e1
          have e : g1 = i := by simpa [Value.ownBlock] using e.symm
          exact ⟨0, by rw [e]⟩)⟩
    have hbel : Below base w w' := hoff.below hbase fun i hi ⟨o, e⟩ => by
      have := hown.lt i (by rw [e]; rfl)
      omega
    have hin : ∀ i, Bof (some ⟨g, 0, none⟩) i → Bof A i ∨ w.heap.size ≤ i := fun i ⟨o, e⟩ => by
      injection e with e
      injection e with e _ _
      subst e
      rcases h3 with h3 | h3
      · cases A with
        | none => cases h3
        | some a =>
          rcases hown.2 with ⟨e1, _⟩ | ⟨g1, _, _, e1, _⟩
          · cases e1
          · injection e1 with e1 _ _
            injection e1 with e1
            subst e1
            have e : g1 = g := by simpa [Value.ownBlock] using h3
            exact .inl ⟨0, by rw [e]⟩
      · exact .inr (by omega)
    refine hK _ cap w' ⟨by simp [hlen], xs ++ [.int .u16 (ch : Int), .slice B m d], h1, fun i T' hT => ?_⟩ hbel hoff hin
    have lift : ∀ v T, EltZ w base v (fun b => Z b ∨ Bof A b) T → EltZ w' base v (fun b => Z b ∨ Bof (some ⟨g, 0, none⟩) b) T := fun v T he => by
      have h1 : EltZ w base v (fun b => Z b ∨ Bof A b ∨ w.heap.size ≤ b) T := he.re fun b hb h => by
        rcases h with h | h | h
        · exact .inl h
        · exact .inr h
        · omega
      have h2 := h1.off hoff fun i hi => Or.inr (Or.inr (Or.inl hi))
      obtain ⟨B', m', d', e, hmd', hr', hB'⟩ := h2
      exact ⟨B', m', d', e, hmd', hr', fun b hb => ⟨(hB' b hb).1, (hB' b hb).2.1, fun h => (hB' b hb).2.2 (h.imp id fun h => hin b h)⟩⟩
    by_cases hi : i < E.length
    · rw [List.getElem?_append_left hi] at hT
      obtain ⟨h0, v, hv, he⟩ := hat i T' hT
      exact ⟨by rw [List.getElem?_append_left (by omega)]; exact h0, v, by rw [List.getElem?_append_left (by omega)]; exact hv, lift v T'.2 he⟩
    · have hi2 : i = E.length := by
        have := (List.getElem?_eq_some_iff.1 hT).1
        simp at this
        omega
      subst hi2
      simp at hT
      subst hT
      refine ⟨?_, .slice B m d, ?_, lift _ _ ⟨B, m, d, rfl, hmd, hr, hB⟩⟩
      · rw [List.getElem?_append_right (by omega), show E.length * 2 - xs.length = 0 by omega]; rfl
      · rw [List.getElem?_append_right (by omega), show E.length * 2 + 1 - xs.length = 1 by omega]; rfl
/-- What is told of bytes is no more than these. -/
theorem evs_len (m : Nat) : ∀ (k : Nat) (went : Bool) (b : List Nat), b.length ≤ k → (evs m went b).length ≤ b.length + 1 := by
  intro k
  induction k with
  | zero =>
    intro went b hb
    rcases kind_cases ⟨m, b, false, went⟩ with h | h | h | h
    · rw [evs_none h]; simp
    · have := (kind_header h).2.2.1; have : 8 ≤ b.length := this; omega
    · have := erF_ok (kind_frame h).2.2; have h1 : 8 ≤ nF b := this.1; have h2 : nF b ≤ b.length := this.2.2.1; omega
    · rw [evs_bad h]; simp
  | succ k ih =>
    intro went b hb
    rcases kind_cases ⟨m, b, false, went⟩ with h | h | h | h
    · rw [evs_none h]; simp
    · have h8 : 8 ≤ b.length := (kind_header h).2.2.1
      rw [evs_header h]
      have := ih true (b.drop 8) (by rw [List.length_drop]; omega)
      rw [List.length_drop] at this
      simp
      omega
    · have he := erF_ok (kind_frame h).2.2
      have h1 : 8 ≤ nF b := he.1
      have h2 : nF b ≤ b.length := he.2.2.1
      rw [evs_frame h]
      have := ih went (b.drop (nF b)) (by rw [List.length_drop]; omega)
      rw [List.length_drop] at this
      simp
      omega
    · rw [evs_bad h]; simp
theorem Rel.len {b : List Nat} {E : List Ev} {s : St} {at_ : Nat} (h : Rel b E s at_) : E.length ≤ b.length + 1 := by
  have h1 := h.2 (b.drop at_)
  rw [List.take_append_drop] at h1
  have h2 := evs_len s.most b.length false b (Nat.le_refl _)
  rw [h1, List.length_append] at h2
  omega
end Go.Proofs.Ytdjncacknmejoaa.It
