/-
  Characters and their bytes, as plain numbers: 'en' (the bytes of a character), 'dec' (the character with which bytes begin), texts. No program, no condition.
-/
import Derived.WalkKit
namespace Go.Proofs.Ytppcfkcnaaflgaa.Utf

def isC (c : Nat) : Bool := decide (c < 55296) || (decide (57343 < c) && decide (c ≤ 1114111))
theorem isC_iff {c : Nat} : isC c = true ↔ (c < 55296 ∨ (57343 < c ∧ c ≤ 1114111)) := by simp [isC]
theorem isC_lt {c : Nat} (h : isC c = true) : c ≤ 1114111 := by have := isC_iff.1 h; omega

/-- How many further bytes. -/
def fu (c : Nat) : Nat := if c ≤ 127 then 0 else if c ≤ 2047 then 1 else if c ≤ 65535 then 2 else 3

/-- The bytes of a character. -/
def en (c : Nat) : List Nat :=
  if c < 128 then [c] else if c < 2048 then [192 + c / 64, 128 + c % 64]
  else if c < 65536 then [224 + c / 4096, 128 + c / 64 % 64, 128 + c % 64]
  else [240 + c / 262144, 128 + c / 4096 % 64, 128 + c / 64 % 64, 128 + c % 64]

/-- A first byte: how many follow, and the bits within it. -/
def ld (o : Nat) : Option (Nat × Nat) :=
  if o < 128 then some (0, o) else if o < 192 then none else if o < 224 then some (1, o - 192)
  else if o < 240 then some (2, o - 224) else if o < 248 then some (3, o - 240) else none

def cont (x : Nat) : Bool := decide (128 ≤ x) && decide (x < 192)

/-- n further bytes behind the bits c. -/
def gon : Nat → Nat → List Nat → Option Nat
  | 0, c, _ => some c
  | _ + 1, _, [] => none
  | n + 1, c, x :: r => if cont x then gon n (c * 64 + (x - 128)) r else none

def fits (n : Nat) (c : Nat) : Bool := isC c && (fu c == n)

/-- The character with which bytes begin, and how many it has. -/
def dec : List Nat → Option (Nat × Nat)
  | [] => none
  | o :: r => match ld o with
    | none => none
    | some (n, c) => match gon n c r with
      | none => none
      | some d => if fits n d then some (d, n + 1) else none

theorem en_length (c : Nat) : (en c).length = fu c + 1 := by
  by_cases h1 : c < 128
  · simp [en, fu, h1, show c ≤ 127 by omega]
  by_cases h2 : c < 2048
  · simp [en, fu, h1, h2, show ¬ c ≤ 127 by omega, show c ≤ 2047 by omega]
  by_cases h3 : c < 65536
  · simp [en, fu, h1, h2, h3, show ¬ c ≤ 127 by omega, show ¬ c ≤ 2047 by omega, show c ≤ 65535 by omega]
  · simp [en, fu, h1, h2, h3, show ¬ c ≤ 127 by omega, show ¬ c ≤ 2047 by omega, show ¬ c ≤ 65535 by omega]

theorem fu_le (c : Nat) : fu c ≤ 3 := by unfold fu; split <;> (try split) <;> (try split) <;> omega

theorem en_byte {c : Nat} (h : c ≤ 1114111) : ∀ x ∈ en c, x < 256 := by
  intro x hx
  unfold en at hx
  split at hx
  · simp at hx; omega
  · split at hx
    · simp at hx; omega
    · split at hx
      · simp at hx; omega
      · simp at hx; omega

theorem dec_en {c : Nat} (h : isC c = true) (r : List Nat) : dec (en c ++ r) = some (c, fu c + 1) := by
  have hl := isC_lt h
  by_cases h1 : c < 128
  · have e : en c = [c] := by unfold en; rw [if_pos h1]
    have f : fu c = 0 := by unfold fu; rw [if_pos (by omega)]
    simp [e, f, dec, ld, h1, gon, fits, h]
  by_cases h2 : c < 2048
  · have e : en c = [192 + c / 64, 128 + c % 64] := by unfold en; rw [if_neg h1, if_pos h2]
    have f : fu c = 1 := by unfold fu; rw [if_neg (by omega), if_pos (by omega)]
    have l : ld (192 + c / 64) = some (1, c / 64) := by unfold ld; rw [if_neg (by omega), if_neg (by omega), if_pos (by omega)]; simp
    have k1 : cont (128 + c % 64) = true := by simp [cont]; omega
    have g : c / 64 * 64 + (128 + c % 64 - 128) = c := by omega
    simp only [e, dec, l, gon, k1, g, fits, List.cons_append]
    simp [h, f]
  by_cases h3 : c < 65536
  · have e : en c = [224 + c / 4096, 128 + c / 64 % 64, 128 + c % 64] := by unfold en; rw [if_neg h1, if_neg h2, if_pos h3]
    have f : fu c = 2 := by unfold fu; rw [if_neg (by omega), if_neg (by omega), if_pos (by omega)]
    have l : ld (224 + c / 4096) = some (2, c / 4096) := by unfold ld; rw [if_neg (by omega), if_neg (by omega), if_neg (by omega), if_pos (by omega)]; simp
    have k1 : cont (128 + c % 64) = true := by simp [cont]; omega
    have k2 : cont (128 + c / 64 % 64) = true := by simp [cont]; omega
    have g : (c / 4096 * 64 + (128 + c / 64 % 64 - 128)) * 64 + (128 + c % 64 - 128) = c := by omega
    simp only [e, dec, l, gon, k1, k2, g, fits, List.cons_append]
    simp [h, f]
  · have e : en c = [240 + c / 262144, 128 + c / 4096 % 64, 128 + c / 64 % 64, 128 + c % 64] := by unfold en; rw [if_neg h1, if_neg h2, if_neg h3]
    have f : fu c = 3 := by unfold fu; rw [if_neg (by omega), if_neg (by omega), if_neg (by omega)]
    have l : ld (240 + c / 262144) = some (3, c / 262144) := by unfold ld; rw [if_neg (by omega), if_neg (by omega), if_neg (by omega), if_neg (by omega), if_pos (by omega)]; simp
    have k1 : cont (128 + c % 64) = true := by simp [cont]; omega
    have k2 : cont (128 + c / 64 % 64) = true := by simp [cont]; omega
    have k3 : cont (128 + c / 4096 % 64) = true := by simp [cont]; omega
    have g : ((c / 262144 * 64 + (128 + c / 4096 % 64 - 128)) * 64 + (128 + c / 64 % 64 - 128)) * 64 + (128 + c % 64 - 128) = c := by omega
    simp only [e, dec, l, gon, k1, k2, k3, g, fits, List.cons_append]
    simp [h, f]

theorem gon_some {n c d : Nat} {r : List Nat} (h : gon (n + 1) c r = some d) : ∃ x r', r = x :: r' ∧ 128 ≤ x ∧ x < 192 ∧ gon n (c * 64 + (x - 128)) r' = some d := by
  cases r with
  | nil => simp [gon] at h
  | cons x r =>
    by_cases k : cont x = true
    · simp only [gon, k, if_true] at h
      simp only [cont, Bool.and_eq_true, decide_eq_true_eq] at k
      exact ⟨x, r, rfl, k.1, k.2, h⟩
    · simp [gon, k] at h

theorem dec_inv {b : List Nat} {c m : Nat} (h : dec b = some (c, m)) : isC c = true ∧ m = fu c + 1 ∧ ∃ r, b = en c ++ r := by
  cases b with
  | nil => simp [dec] at h
  | cons o r =>
    unfold dec at h
    cases hl : ld o with
    | none => simp [hl] at h
    | some p =>
      obtain ⟨n, c0⟩ := p
      simp only [hl] at h
      cases hg : gon n c0 r with
      | none => simp [hg] at h
      | some d =>
        simp only [hg] at h
        by_cases hf : fits n d = true
        · simp only [hf, if_true, Option.some.injEq, Prod.mk.injEq] at h
          obtain ⟨rfl, rfl⟩ := h
          simp only [fits, Bool.and_eq_true, beq_iff_eq] at hf
          obtain ⟨hc, rfl⟩ := hf
          refine ⟨hc, rfl, ?_⟩
          unfold ld at hl
          split at hl
          · simp only [Option.some.injEq, Prod.mk.injEq] at hl
            obtain ⟨hn, rfl⟩ := hl
            rw [← hn] at hg
            simp only [gon, Option.some.injEq] at hg
            subst hg
            exact ⟨r, by unfold en; rw [if_pos (by omega)]; rfl⟩
          split at hl
          · cases hl
          split at hl
          · simp only [Option.some.injEq, Prod.mk.injEq] at hl
            obtain ⟨hn, rfl⟩ := hl
            rw [← hn] at hg
            obtain ⟨x1, r1, rfl, a1, b1, g1⟩ := gon_some hg
            simp only [gon, Option.some.injEq] at g1
            subst g1
            have h1 : ¬ (o - 192) * 64 + (x1 - 128) ≤ 127 := fun hh => by unfold fu at hn; rw [if_pos hh] at hn; omega
            refine ⟨r1, ?_⟩
            unfold en
            rw [if_neg (by omega), if_pos (by omega)]
            simp only [List.cons_append, List.nil_append, List.cons.injEq, and_true]
            omega
          split at hl
          · simp only [Option.some.injEq, Prod.mk.injEq] at hl
            obtain ⟨hn, rfl⟩ := hl
            rw [← hn] at hg
            obtain ⟨x1, r1, rfl, a1, b1, g1⟩ := gon_some hg
            obtain ⟨x2, r2, rfl, a2, b2, g2⟩ := gon_some g1
            simp only [gon, Option.some.injEq] at g2
            subst g2
            have h1 : ¬ ((o - 224) * 64 + (x1 - 128)) * 64 + (x2 - 128) ≤ 2047 := fun hh => by
              unfold fu at hn; split at hn
              · omega
              · omega
            refine ⟨r2, ?_⟩
            unfold en
            rw [if_neg (by omega), if_neg (by omega), if_pos (by omega)]
            simp only [List.cons_append, List.nil_append, List.cons.injEq, and_true]
            omega
          split at hl
          · simp only [Option.some.injEq, Prod.mk.injEq] at hl
            obtain ⟨hn, rfl⟩ := hl
            rw [← hn] at hg
            obtain ⟨x1, r1, rfl, a1, b1, g1⟩ := gon_some hg
            obtain ⟨x2, r2, rfl, a2, b2, g2⟩ := gon_some g1
            obtain ⟨x3, r3, rfl, a3, b3, g3⟩ := gon_some g2
            simp only [gon, Option.some.injEq] at g3
            subst g3
            have h1 : ¬ (((o - 240) * 64 + (x1 - 128)) * 64 + (x2 - 128)) * 64 + (x3 - 128) ≤ 65535 := fun hh => by
              unfold fu at hn; split at hn
              · omega
              · split at hn
                · omega
                · omega
            refine ⟨r3, ?_⟩
            unfold en
            rw [if_neg (by omega), if_neg (by omega), if_neg (by omega)]
            simp only [List.cons_append, List.nil_append, List.cons.injEq, and_true]
            omega
          · cases hl
        · simp [hf] at h

/-- The text of characters. -/
def txt (l : List Nat) : List Nat := l.flatMap en
def AllC (l : List Nat) : Prop := ∀ c ∈ l, isC c = true
/-- b is the text of the characters l. -/
def IsT (b l : List Nat) : Prop := AllC l ∧ b = txt l

theorem txt_nil : txt [] = [] := rfl
theorem txt_cons (c : Nat) (l : List Nat) : txt (c :: l) = en c ++ txt l := by simp [txt]
theorem txt_append (l m : List Nat) : txt (l ++ m) = txt l ++ txt m := by simp [txt]
theorem en_ne (c : Nat) : en c ≠ [] := by
  intro h
  have := en_length c
  rw [h] at this
  simp at this

/-- A text's beginning is that of its characters. -/
theorem txt_cut : ∀ {d l : List Nat} {r : List Nat}, AllC d → AllC l → txt d ++ r = txt l → ∃ m, l = d ++ m ∧ r = txt m
  | [], l, r, _, _, h => ⟨l, rfl, h⟩
  | c :: d, [], r, _, _, h => by
    rw [txt_cons, txt_nil] at h
    have := congrArg List.length h
    simp [en_length] at this
  | c :: d, e :: l, r, hd, hl, h => by
    rw [txt_cons, txt_cons, List.append_assoc] at h
    have h1 := dec_en (hd c (by simp)) (txt d ++ r)
    have h2 := dec_en (hl e (by simp)) (txt l)
    rw [h, h2] at h1
    simp only [Option.some.injEq, Prod.mk.injEq] at h1
    obtain ⟨rfl, _⟩ := h1
    obtain ⟨m, rfl, rfl⟩ := txt_cut (fun x hx => hd x (by simp [hx])) (fun x hx => hl x (by simp [hx])) (List.append_cancel_left h)
    exact ⟨m, rfl, rfl⟩

theorem txt_inj {l m : List Nat} (hl : AllC l) (hm : AllC m) (h : txt l = txt m) : l = m := by
  obtain ⟨k, rfl, hk⟩ := txt_cut (d := l) (l := m) (r := []) hl hm (by simpa using h)
  cases k with
  | nil => simp
  | cons c k =>
    rw [txt_cons] at hk
    have := congrArg List.length hk
    simp [en_length] at this
    omega

/-- Where bytes do not begin with a character there is no text. -/
theorem no_text {d r : List Nat} (hd : AllC d) (hr : r ≠ []) (h : dec r = none) : ∀ l, ¬ IsT (txt d ++ r) l := by
  rintro l ⟨hl, e⟩
  obtain ⟨m, rfl, rfl⟩ := txt_cut hd hl e
  cases m with
  | nil => exact hr rfl
  | cons c m =>
    rw [txt_cons, dec_en (hl c (by simp))] at h
    cases h

theorem AllC.append {l m : List Nat} (hl : AllC l) (hm : AllC m) : AllC (l ++ m) := fun c hc => by
  rcases List.mem_append.1 hc with h | h
  · exact hl c h
  · exact hm c h
theorem AllC.left {l m : List Nat} (h : AllC (l ++ m)) : AllC l := fun c hc => h c (List.mem_append_left _ hc)
theorem AllC.right {l m : List Nat} (h : AllC (l ++ m)) : AllC m := fun c hc => h c (List.mem_append_right _ hc)
theorem AllC.one {c : Nat} (h : isC c = true) : AllC [c] := fun x hx => by simp at hx; rwa [hx]
theorem allC_nil : AllC [] := fun _ h => by cases h

theorem txt_byte {l : List Nat} (h : AllC l) : ∀ x ∈ txt l, x < 256 := by
  intro x hx
  obtain ⟨c, hc, hx⟩ := List.mem_flatMap.1 hx
  exact en_byte (isC_lt (h c hc)) x hx

theorem txt_len (l : List Nat) : l.length ≤ (txt l).length ∧ (txt l).length ≤ 4 * l.length := by
  induction l with
  | nil => simp [txt]
  | cons c l ih =>
    rw [txt_cons, List.length_append, en_length, List.length_cons]
    have := fu_le c
    omega

end Go.Proofs.Ytppcfkcnaaflgaa.Utf
