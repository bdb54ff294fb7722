/-
  What bytes tell, as plain mathematics: codes, constructors, data, values. No Go in it.
-/
import Derived.Test.YtikjnbognjicdaaDoorOctL
import Derived.Test.YtikjnbognjicdaaDoorVal
namespace Go.Proofs.YtikjnbognjicdaaDoor.Dec
open Go.Proofs.YtikjnbognjicdaaDoor.Val V Go.Proofs.YtikjnbognjicdaaDoor.Utf

/-- The kind of a code that is the only one of its kind; 0: it is none. -/
def kof2 (c : Nat) : Nat :=
  if c = 80 then 3 else if c = 96 then 4 else if c = 81 then 7 else if c = 97 then 8 else if c = 114 then 11 else if c = 130 then 12 else if c = 115 then 13
  else if c = 131 then 14 else if c = 152 then 15 else if c = 116 then 16 else if c = 132 then 17 else if c = 148 then 18 else 0
/-- The kind of a code; 0: it is none. -/
def kof (c : Nat) : Nat :=
  if c = 64 then 1 else if c = 65 then 2 else if c = 66 then 2 else if c = 86 then 2 else if c = 67 then 5 else if c = 82 then 5 else if c = 112 then 5
  else if c = 68 then 6 else if c = 83 then 6 else if c = 128 then 6 else if c = 84 then 9 else if c = 113 then 9 else if c = 85 then 10 else if c = 129 then 10
  else if c = 160 then 19 else if c = 176 then 19 else if c = 161 then 20 else if c = 177 then 20 else if c = 163 then 21 else if c = 179 then 21
  else if c = 69 then 22 else if c = 192 then 22 else if c = 208 then 22 else if c = 193 then 23 else if c = 209 then 23 else if c = 224 then 24 else if c = 240 then 24
  else kof2 c
/-- How many bytes tell the size of a code's data; 0: none. -/
def sw (c : Nat) : Nat := if c / 16 = 10 ∨ c / 16 = 12 ∨ c / 16 = 14 then 1 else if c / 16 = 11 ∨ c / 16 = 13 ∨ c / 16 = 15 then 4 else 0
/-- How many bytes a code's data have that tell no size. -/
def lg (c : Nat) : Nat := if c / 16 = 5 then 1 else if c / 16 = 6 then 2 else if c / 16 = 7 then 4 else if c / 16 = 8 then 8 else if c / 16 = 9 then 16 else 0
theorem ite_le {p : Prop} [Decidable p] {a b M : Nat} (ha : a ≤ M) (hb : b ≤ M) : (if p then a else b) ≤ M := by split <;> assumption
theorem kof_le (c : Nat) : kof c ≤ 24 := by
  unfold kof kof2
  repeat' apply ite_le
  all_goals decide
theorem sw_le (c : Nat) : sw c ≤ 4 := by unfold sw; (repeat' split) <;> omega
theorem lg_le (c : Nat) : lg c ≤ 16 := by unfold lg; (repeat' split) <;> omega

/-- The number that bytes are, the highest first. -/
def nb (l : List Nat) : Nat := l.foldl (fun x o => x * 256 + o) 0
theorem nb_snoc (l : List Nat) (c : Nat) : nb (l ++ [c]) = nb l * 256 + c := by simp [nb]
theorem nb_take (l : List Nat) (k c : Nat) (h : l[k]? = some c) : nb (l.take (k + 1)) = nb (l.take k) * 256 + c := by
  rw [List.take_add_one, h]
  exact nb_snoc _ _
theorem nb_fold (l : List Nat) : ∀ x : Nat, (∀ y ∈ l, y < 256) → l.foldl (fun x o => x * 256 + o) x < (x + 1) * 256 ^ l.length := by
  induction l with
  | nil => intro x _; simp
  | cons c l ih =>
    intro x h
    have h1 := ih (x * 256 + c) fun y hy => h y (by simp [hy])
    have h2 := h c (by simp)
    have h3 : (x * 256 + c + 1) * 256 ^ l.length ≤ ((x + 1) * 256) * 256 ^ l.length := Nat.mul_le_mul_right _ (by omega)
    simp only [List.foldl_cons, List.length_cons, Nat.pow_succ]
    calc _ < _ := h1
      _ ≤ _ := h3
      _ = _ := by rw [Nat.mul_assoc, Nat.mul_comm 256]
theorem nb_lt (l : List Nat) (h : ∀ x ∈ l, x < 256) : nb l < 256 ^ l.length := by
  have := nb_fold l 0 h
  simpa [nb] using this
/-- What octet.Tell answers. -/
def tn (l : List Nat) : Nat := if l.length ≤ 8 then nb l else 0
theorem tn_lt (l : List Nat) (h : ∀ x ∈ l, x < 256) : tn l < 18446744073709551616 := by
  unfold tn
  split
  · have h1 := nb_lt l h
    have h2 : 256 ^ l.length ≤ 256 ^ 8 := Nat.pow_le_pow_right (by omega) (by omega)
    omega
  · omega
/-- A number of so many bytes, as one of 64 bits. -/
def sgw (X k : Nat) : Nat := if 1 ≤ k ∧ k ≤ 7 then (if X % 256 ^ k < 256 ^ k / 2 then X % 256 ^ k else X % 256 ^ k + (18446744073709551616 - 256 ^ k)) else X

/-- A value without kids that a code's data tell. -/
def plainV (c : Nat) (d : List Nat) : V :=
  if kof c = 1 then .mk 1 0 ⟨#[]⟩ []
  else if kof c = 2 then .mk 2 (if c = 65 then 1 else tn d) ⟨#[]⟩ []
  else if kof c = 7 ∨ kof c = 8 ∨ kof c = 9 ∨ kof c = 10 ∨ kof c = 14 then .mk (kof c) (sgw (tn d) d.length) ⟨#[]⟩ []
  else if 15 ≤ kof c ∧ kof c ≤ 21 then .mk (kof c) 0 (sb d) []
  else .mk (kof c) (tn d) ⟨#[]⟩ []
/-- The data of a code, with which bytes begin, and what stands behind them. -/
def dataD (c : Nat) (l : List Nat) : Option (List Nat × List Nat) :=
  if sw c = 0 then (if lg c ≤ l.length then some (l.take (lg c), l.drop (lg c)) else none)
  else if sw c ≤ l.length then
    (if tn (l.take (sw c)) ≤ (l.drop (sw c)).length then some ((l.drop (sw c)).take (tn (l.take (sw c))), (l.drop (sw c)).drop (tn (l.take (sw c)))) else none)
  else none
/-- What a value is called, with which bytes begin; 'true': bytes are wanting. -/
def nameD : List Nat → Except Bool (V × List Nat)
  | [] => .error true
  | c :: l => if kof c = 6 ∨ kof c = 21 then (match dataD c l with
    | none => .error true
    | some (d, r) => .ok (plainV c d, r)) else .error false
/-- A constructor. -/
def headN : Nat → List Nat → Except Bool (List V × Nat × List Nat)
  | 0, _ => .error true
  | _, [] => .error true
  | N + 1, c :: l => if c = 0 then (match nameD l with
      | .error s => .error s
      | .ok (v, r) => match headN N r with
        | .error s => .error s
        | .ok (ns, c', r') => .ok (v :: ns, c', r'))
    else if kof c = 0 then .error false else .ok ([], c, l)
def headD (l : List Nat) : Except Bool (List V × Nat × List Nat) := headN (l.length + 1) l
/-- A value that is called so, the outermost first. -/
def calledV : List V → V → V
  | [], v => v
  | x :: r, v => .mk 25 0 ⟨#[]⟩ [x, calledV r v]

/-- So many values, one behind the other; with how many parts there are. -/
def loopN (step : Nat → List Nat → Option (V × Nat × List Nat)) : Nat → Nat → List Nat → Option (List V × Nat × List Nat)
  | 0, it, l => some ([], it, l)
  | n + 1, it, l => match step it l with
    | none => none
    | some (v, it', r) => match loopN step n it' r with
      | none => none
      | some (vs, it'', r') => some (v :: vs, it'', r')
/-- A value within. -/
def stepV (tl : Nat → List V → Nat → List Nat → Option (V × Nat)) (it : Nat) (l : List Nat) : Option (V × Nat × List Nat) :=
  match headD l with
  | .error _ => none
  | .ok (ns, c, r) => match dataD c r with
    | none => none
    | some (d, r') => match tl it (ns.take 16) c d with
      | none => none
      | some (v, it') => some (v, it', r')
/-- A value of an array. -/
def stepA (tl : Nat → List V → Nat → List Nat → Option (V × Nat)) (ns : List V) (c : Nat) (it : Nat) (l : List Nat) : Option (V × Nat × List Nat) :=
  match dataD c l with
  | none => none
  | some (d, r') => match tl it ns c d with
    | none => none
    | some (v, it') => some (v, it', r')
/-- What the data of a list, a map or an array tell. -/
def kidsD (tl : Nat → List V → Nat → List Nat → Option (V × Nat)) (c it : Nat) (d : List Nat) : Option (List V × Nat) :=
  if d.length < sw c then none
  else if 1024 < tn (d.take (sw c)) then none
  else if kof c = 24 then (match headD (d.drop (sw c)) with
    | .error _ => none
    | .ok (ns, c', r) => match loopN (stepA tl (ns.take 16) c') (tn (d.take (sw c))) it r with
      | some (vs, it', []) => some (vs, it')
      | _ => none)
  else (match loopN (stepV tl) (tn (d.take (sw c))) it (d.drop (sw c)) with
      | some (vs, it', []) => some (vs, it')
      | _ => none)
/-- What is told by a constructor and data; so deep at most. -/
def toldN : Nat → Nat → List V → Nat → List Nat → Option (V × Nat)
  | 0, _, _, _, _ => none
  | F + 1, it, ns, c, d =>
    if 1024 < it + 1 + 2 * ns.length then none
    else if kof c < 22 then some (calledV ns (plainV c d), it + 1 + 2 * ns.length)
    else match kidsD (toldN F) c (it + 1 + 2 * ns.length) d with
      | none => none
      | some (vs, it') => some (calledV ns (.mk (kof c) 0 ⟨#[]⟩ vs), it')

theorem headN_lt : ∀ (N : Nat) (l : List Nat) (ns : List V) (c : Nat) (r : List Nat), headN N l = .ok (ns, c, r) → r.length < l.length ∧ c ≠ 0 ∧ kof c ≠ 0
  | 0, _, _, _, _, h => by simp [headN] at h
  | _ + 1, [], _, _, _, h => by simp [headN] at h
  | N + 1, c :: l, ns, c', r, h => by
    rw [headN] at h
    by_cases hc : c = 0
    · rw [if_pos hc] at h
      cases hn : nameD l with
      | error s => rw [hn] at h; cases h
      | ok p =>
        obtain ⟨v, r1⟩ := p
        rw [hn] at h
        have hl : r1.length ≤ l.length := by
          cases l with
          | nil => simp [nameD] at hn
          | cons c1 l1 =>
            simp only [nameD] at hn
            split at hn
            · cases hd : dataD c1 l1 with
              | none => rw [hd] at hn; cases hn
              | some q =>
                rw [hd] at hn
                obtain ⟨d, q⟩ := q
                simp only [Except.ok.injEq, Prod.mk.injEq] at hn
                obtain ⟨_, rfl⟩ := hn
                unfold dataD at hd
                (repeat' split at hd) <;> first | (cases hd; done) | (injection hd with hd; injection hd with _ hd; subst hd; simp only [List.length_drop, List.length_cons]; omega)
            · cases hn
        simp only at h
        cases h2 : headN N r1 with
        | error s => rw [h2] at h; cases h
        | ok p =>
          obtain ⟨ns2, c2, r2⟩ := p
          rw [h2] at h
          simp only [Except.ok.injEq, Prod.mk.injEq] at h
          obtain ⟨_, rfl, rfl⟩ := h
          have := headN_lt N r1 _ _ _ h2
          simp only [List.length_cons]
          exact ⟨by omega, this.2⟩
    · rw [if_neg hc] at h
      split at h
      · cases h
      · simp only [Except.ok.injEq, Prod.mk.injEq] at h
        obtain ⟨_, rfl, rfl⟩ := h
        exact ⟨by simp, hc, by assumption⟩
end Go.Proofs.YtikjnbognjicdaaDoor.Dec
