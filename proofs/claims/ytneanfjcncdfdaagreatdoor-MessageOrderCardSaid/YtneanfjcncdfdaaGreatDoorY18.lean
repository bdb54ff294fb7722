/-
  Contracts of functions and plain mathematics, text by text, each with its conditions ahead of it:
  Outcomes as values, as plain mathematics: what Put, Get, PutCond, GetCond tell, that what is put is got as it was, and that what is got may be put. No Go in it.
  Outcomes as values, as plain mathematics: what is put may be a value, and is got as it was; by its name as by its code; with a field more not at all. No Go in it.
-/
import Derived.Test.YtneanfjcncdfdaaGreatDoorY17

section
namespace Go.Proofs.YtneanfjcncdfdaaGreatDoor.Oc
set_option maxRecDepth 100000
open Utf Val Fl V
structure O where
  k : Nat
  a : Nat
  b : Nat
  c : ByteArray
/-- May a text be a condition? -/
def cOk (c : ByteArray) : Bool := asc (Val.nb c)
/-- May an outcome be? -/
def mayO (o : O) : Bool :=
  decide (o.k ≤ 5) && cOk o.c && (decide (o.c.size = 0) || decide (o.k = 3)) &&
    (if o.k = 1 then decide (o.a < 4294967296) else if o.k = 5 then decide (o.a ≤ 1) && decide (o.b ≤ 1) else decide (o.a = 0) && decide (o.b = 0))
/-- What the five are called. -/
def oname : Nat → ByteArray
  | 1 => ⟨#[97, 109, 113, 112, 58, 114, 101, 99, 101, 105, 118, 101, 100, 58, 108, 105, 115, 116]⟩
  | 2 => ⟨#[97, 109, 113, 112, 58, 97, 99, 99, 101, 112, 116, 101, 100, 58, 108, 105, 115, 116]⟩
  | 3 => ⟨#[97, 109, 113, 112, 58, 114, 101, 106, 101, 99, 116, 101, 100, 58, 108, 105, 115, 116]⟩
  | 4 => ⟨#[97, 109, 113, 112, 58, 114, 101, 108, 101, 97, 115, 101, 100, 58, 108, 105, 115, 116]⟩
  | 5 => ⟨#[97, 109, 113, 112, 58, 109, 111, 100, 105, 102, 105, 101, 100, 58, 108, 105, 115, 116]⟩
  | _ => ⟨#[]⟩
def ename : ByteArray := ⟨#[97, 109, 113, 112, 58, 101, 114, 114, 111, 114, 58, 108, 105, 115, 116]⟩
/-- An error of a condition. -/
def errV (c : ByteArray) : V := if c.size = 0 then nullV else .mk 25 0 ⟨#[]⟩ (putL 29 [.mk 21 0 c []])
def flagV (n : Nat) : V := if n = 0 then nullV else .mk 2 1 ⟨#[]⟩ []
/-- The fields of an outcome. -/
def tellO (o : O) : List V :=
  if o.k = 1 then [.mk 5 o.a ⟨#[]⟩ [], .mk 6 o.b ⟨#[]⟩ []] else if o.k = 3 then [errV o.c] else if o.k = 5 then [flagV o.a, flagV o.b] else []
def putO (o : O) : V := if o.k = 0 then nullV else .mk 25 0 ⟨#[]⟩ (putL (34 + o.k) (trim (tellO o)))
/-- What an error's fields tell: its condition, and whether something is wrong. -/
def erR (ls : List V) : ByteArray × Bool :=
  ((oneR ls 0 21 true false ⟨#[]⟩ V.text).1, (valR ls 2 [23] (oneR ls 1 20 false (oneR ls 0 21 true false ⟨#[]⟩ V.text).2 ⟨#[]⟩ V.text).2).2)
/-- What a value tells as an error. -/
noncomputable def condR (v : V) : Option ByteArray :=
  if v.kind = 1 then some ⟨#[]⟩ else match newR v 29 ename with
    | none => none
    | some ls => if doneN ls (erR ls).2 3 = 0 then some (erR ls).1 else none
def mostN (k : Nat) : Int := if k = 1 then 2 else if k = 3 then 1 else if k = 5 then 3 else 0
/-- What an outcome's fields tell, and whether something is wrong. -/
noncomputable def rdR (k : Nat) (ls : List V) : O × Bool :=
  if k = 1 then (⟨1, (oneR ls 0 5 true false 0 V.num).1, (oneR ls 1 6 true (oneR ls 0 5 true false 0 V.num).2 0 V.num).1, ⟨#[]⟩⟩, (oneR ls 1 6 true (oneR ls 0 5 true false 0 V.num).2 0 V.num).2)
  else if k = 3 then (match condR (valR ls 0 [] false).1 with
    | some c => (⟨3, 0, 0, c⟩, (valR ls 0 [] false).2)
    | none => (⟨3, 0, 0, ⟨#[]⟩⟩, true))
  else if k = 5 then (⟨5, (oneR ls 0 2 false (valR ls 2 [23] false).2 0 V.num).1, (oneR ls 1 2 false (oneR ls 0 2 false (valR ls 2 [23] false).2 0 V.num).2 0 V.num).1, ⟨#[]⟩⟩, (oneR ls 1 2 false (oneR ls 0 2 false (valR ls 2 [23] false).2 0 V.num).2 0 V.num).2)
  else (⟨k, 0, 0, ⟨#[]⟩⟩, false)
noncomputable def readO (k : Nat) (ls : List V) : Option O := if doneN ls (rdR k ls).2 (mostN k) = 0 then some (rdR k ls).1 else none
noncomputable def firstR (v : V) : List Nat → Option (Nat × List V)
  | [] => none
  | k :: r => match newR v (34 + k) (oname k) with
    | some ls => some (k, ls)
    | none => firstR v r
/-- What a value tells as an outcome. -/
noncomputable def getR (v : V) : Option O :=
  if v.kind = 1 then some ⟨0, 0, 0, ⟨#[]⟩⟩ else match firstR v [1, 2, 3, 4, 5] with
    | none => none
    | some (k, ls) => readO k ls
theorem mayO_1 (a b : Nat) : mayO ⟨1, a, b, ⟨#[]⟩⟩ = decide (a < 4294967296) := rfl
theorem mayO_5 (a b : Nat) : mayO ⟨5, a, b, ⟨#[]⟩⟩ = (decide (a ≤ 1) && decide (b ≤ 1)) := rfl
theorem done_zero {ls : List V} {sp : Bool} {n : Int} : doneN ls sp n = 0 ↔ sp = false ∧ (ls.length : Int) ≤ n := by
  unfold doneN
  by_cases h : sp = true ∨ n < (ls.length : Int)
  · rw [if_pos h]
    constructor
    · intro h; cases h
    · rintro ⟨rfl, h2⟩
      rcases h with h | h
      · cases h
      · omega
  · rw [if_neg h]
    simp only [not_or, Bool.not_eq_true] at h
    exact ⟨fun _ => ⟨h.1, by omega⟩, fun _ => rfl⟩
theorem called_code (m code : Nat) (nm : ByteArray) : calledB (.mk 6 m ⟨#[]⟩ []) code nm = decide (m = code) := by
  unfold calledB
  rw [V.same_no (b := .mk 21 0 nm []) (by intro h; injection h with h; omega), Bool.or_false]
  by_cases h : m = code
  · subst h; rw [V.same_self]; simp
  · rw [V.same_no (by intro e; injection e with _ e; exact h e), decide_eq_false h]
theorem newR_list {d : V} {n n' : Nat} {t t' : ByteArray} {ls : List V} {code : Nat} {nm : ByteArray} (hok : okB (.mk 25 n t [d, .mk 22 n' t' ls]) = true) : newR (.mk 25 n t [d, .mk 22 n' t' ls]) code nm = if calledB d code nm = true then some ls else none := by
  rw [newR_pair hok rfl]
  by_cases h : calledB d code nm = true
  · rw [if_pos ⟨h, rfl⟩, if_pos h]; rfl
  · rw [if_neg h, if_neg fun e => h e.1]
theorem newR_some {v : V} {code : Nat} {nm : ByteArray} {ls : List V} (h : newR v code nm = some ls) : ∃ n t d n' t', v = .mk 25 n t [d, .mk 22 n' t' ls] ∧ okB v = true ∧ calledB d code nm = true := by
  unfold newR at h
  by_cases hc : okB v = true ∧ v.kind = 25
  · rw [if_pos hc] at h
    obtain ⟨k, n, t, ks⟩ := v
    obtain ⟨hok, hk⟩ := hc
    have hk : k = 25 := hk
    subst hk
    match ks, h, hok with
    | [d, .mk kb n' t' us], h, hok =>
      simp only [kids] at h
      by_cases hb : calledB d code nm = true ∧ (V.mk kb n' t' us).kind = 22
      · rw [if_pos hb] at h
        obtain ⟨hb1, hb2⟩ := hb
        have hb2 : kb = 22 := hb2
        subst hb2
        injection h with h
        subst h
        exact ⟨n, t, d, n', t', rfl, hok, hb1⟩
      · rw [if_neg hb] at h; cases h
  · rw [if_neg hc] at h; cases h
theorem may_of_ok {v : V} (h : okB v = true) : mayB v = true := by
  unfold okB at h
  simp only [Bool.and_eq_true] at h
  exact h.2
theorem newR_may {v : V} {code : Nat} {nm : ByteArray} {ls : List V} (h : newR v code nm = some ls) : mayL ls = true := by
  obtain ⟨n, t, d, n', t', rfl, hok, _⟩ := newR_some h
  have hm := may_kids (may_of_ok hok)
  simp only [mayL, Bool.and_eq_true] at hm
  exact may_kids hm.2.1
theorem ask_mem {ls : List V} {i : Int} {v : V} (h : Fl.ask ls i = some v) : v ∈ ls := by
  obtain ⟨j, _, _, h, _⟩ := ask_some h
  exact List.mem_of_getElem? h
theorem ask_may {ls : List V} {i : Int} {v : V} (hm : mayL ls = true) (h : Fl.ask ls i = some v) : mayB v = true := mayL_mem hm v (ask_mem h)
theorem may_alone {k n : Nat} {t : ByteArray} {ks : List V} (h : mayB (.mk k n t ks) = true) : aloneOk k n t ks.length = true := by
  simp only [mayB, Bool.and_eq_true] at h
  exact h.1.2
theorem may_bool {n : Nat} {t : ByteArray} {ks : List V} (h : mayB (.mk 2 n t ks) = true) : n ≤ 1 := by
  have := may_alone h
  simp [aloneOk, numB] at this
  exact this.2
theorem may_uint {n : Nat} {t : ByteArray} {ks : List V} (h : mayB (.mk 5 n t ks) = true) : n < 4294967296 := by
  have := may_alone h
  simp [aloneOk, numB] at this
  exact this.2
theorem may_sym {n : Nat} {t : ByteArray} {ks : List V} (h : mayB (.mk 21 n t ks) = true) : cOk t = true := by
  have := may_alone h
  simp [aloneOk, textB] at this
  exact this.2
/-- A number that is asked, and must be there. -/
theorem one_must {α : Type} {ls : List V} {i : Int} {kind : Nat} {sp : Bool} {z : α} {f : V → α} (h : (oneR ls i kind true sp z f).2 = false) : sp = false ∧ ∃ v, Fl.ask ls i = some v ∧ v.kind = kind ∧ (oneR ls i kind true sp z f).1 = f v := by
  cases ha : Fl.ask ls i with
  | none => rw [oneR_none ha, Bool.or_true] at h; cases h
  | some v =>
    by_cases hk : v.kind = kind
    · rw [oneR_yes ha hk] at h ⊢
      exact ⟨h, v, rfl, hk, rfl⟩
    · rw [oneR_no ha hk] at h; cases h
theorem one_may {α : Type} {ls : List V} {i : Int} {kind : Nat} {sp : Bool} {z : α} {f : V → α} (h : (oneR ls i kind false sp z f).2 = false) : sp = false ∧ ((oneR ls i kind false sp z f).1 = z ∨ ∃ v, Fl.ask ls i = some v ∧ v.kind = kind ∧ (oneR ls i kind false sp z f).1 = f v) := by
  cases ha : Fl.ask ls i with
  | none => rw [oneR_none ha, Bool.or_false] at h; rw [oneR_none ha]; exact ⟨h, .inl rfl⟩
  | some v =>
    by_cases hk : v.kind = kind
    · rw [oneR_yes ha hk] at h ⊢
      exact ⟨h, .inr ⟨v, rfl, hk, rfl⟩⟩
    · rw [oneR_no ha hk] at h; cases h
theorem val_sp {ls : List V} {i : Int} {L : List Nat} {sp : Bool} (h : (valR ls i L sp).2 = false) : sp = false := by
  cases ha : Fl.ask ls i with
  | none => rw [valR_none ha] at h; exact h
  | some v =>
    cases hk : fitsB L v.kind with
    | true => rw [valR_yes ha hk] at h; exact h
    | false => rw [valR_no ha hk] at h; cases h
/-- What is got as a condition may be one. -/
theorem cond_ok {v : V} {c : ByteArray} (h : condR v = some c) : cOk c = true ∧ c.size ≤ bulk v := by
  unfold condR at h
  by_cases hk : v.kind = 1
  · rw [if_pos hk] at h
    injection h with h
    subst h
    exact ⟨rfl, by simp [ByteArray.size]⟩
  · rw [if_neg hk] at h
    cases hn : newR v 29 ename with
    | none => rw [hn] at h; cases h
    | some ls =>
      rw [hn] at h
      simp only at h
      by_cases hd : doneN ls (erR ls).2 3 = 0
      · rw [if_pos hd] at h
        injection h with h
        have h1 := (one_may (val_sp (done_zero.1 hd).1)).1
        obtain ⟨_, ⟨k, n, t, ks⟩, ha, hk', hc⟩ := one_must h1
        have hk' : k = 21 := hk'
        subst hk'
        have hc : (erR ls).1 = t := hc
        rw [hc] at h
        subst h
        refine ⟨may_sym (ask_may (newR_may hn) ha), ?_⟩
        have hb := ask_bulk ha
        obtain ⟨n, t, d, n', t', rfl, _, _⟩ := newR_some hn
        simp only [bulk, bulkL] at hb ⊢
        omega
      · rw [if_neg hd] at h; cases h
mutual
def n64 : V → Prop
  | .mk k n _ ks => k < 256 ∧ n < 18446744073709551616 ∧ n64L ks
def n64L : List V → Prop
  | [] => True
  | v :: vs => n64 v ∧ n64L vs
end
theorem n64L_mem {l : List V} (h : n64L l) : ∀ v ∈ l, n64 v := by
  induction l with
  | nil => intro v hv; cases hv
  | cons x l ih =>
    intro v hv
    rcases List.mem_cons.1 hv with rfl | hv
    · exact h.1
    · exact ih h.2 v hv
theorem n64_num {v : V} (h : n64 v) : v.num < 18446744073709551616 := by cases v; exact h.2.1
theorem first_some {v : V} {l : List Nat} {k : Nat} {ls : List V} (h : firstR v l = some (k, ls)) : k ∈ l ∧ newR v (34 + k) (oname k) = some ls := by
  induction l with
  | nil => cases h
  | cons x l ih =>
    unfold firstR at h
    cases hn : newR v (34 + x) (oname x) with
    | some us =>
      rw [hn] at h
      simp only [Option.some.injEq, Prod.mk.injEq] at h
      obtain ⟨rfl, rfl⟩ := h
      exact ⟨by simp, hn⟩
    | none =>
      rw [hn] at h
      have := ih h
      exact ⟨List.mem_cons_of_mem _ this.1, this.2⟩
/-- What is got as an outcome may be one. -/
theorem get_may {v : V} {o : O} (h : getR v = some o) : mayO o = true ∧ o.c.size ≤ bulk v ∧ (n64 v → o.a < 18446744073709551616 ∧ o.b < 18446744073709551616) := by
  unfold getR at h
  by_cases hk : v.kind = 1
  · rw [if_pos hk] at h
    injection h with h
    subst h
    exact ⟨rfl, by simp [ByteArray.size], fun _ => ⟨by simp, by simp⟩⟩
  · rw [if_neg hk] at h
    cases hf : firstR v [1, 2, 3, 4, 5] with
    | none => rw [hf] at h; cases h
    | some p =>
      obtain ⟨k, ls⟩ := p
      rw [hf] at h
      have h : readO k ls = some o := h
      obtain ⟨hkm, hn⟩ := first_some hf
      have hm := newR_may hn
      have hbl : bulkL ls ≤ bulk v := by
        obtain ⟨n, t, d, n', t', rfl, _, _⟩ := newR_some hn
        simp only [bulk, bulkL]
        omega
      have h64 : n64 v → n64L ls := by
        obtain ⟨n, t, d, n', t', rfl, _, _⟩ := newR_some hn
        intro h
        exact h.2.2.2.1.2.2
      unfold readO at h
      by_cases hd : doneN ls (rdR k ls).2 (mostN k) = 0
      · rw [if_pos hd] at h
        injection h with h
        have hs := (done_zero.1 hd).1
        subst h
        simp only [List.mem_cons, List.not_mem_nil, or_false] at hkm
        rcases hkm with rfl | rfl | rfl | rfl | rfl
        · have hs : (oneR ls 1 6 true (oneR ls 0 5 true false 0 V.num).2 0 V.num).2 = false := hs
          obtain ⟨hs1, v1, ha1, hk1, hv1⟩ := one_must hs
          obtain ⟨_, v0, ha0, hk0, hv0⟩ := one_must hs1
          have hr : (rdR 1 ls).1 = ⟨1, v0.num, v1.num, ⟨#[]⟩⟩ := by
            show O.mk 1 _ _ _ = _
            rw [hv0, hv1]
          rw [hr]
          have hm0 := ask_may hm ha0
          refine ⟨?_, by simp [ByteArray.size], fun hv => ⟨n64_num (n64L_mem (h64 hv) _ (ask_mem ha0)), n64_num (n64L_mem (h64 hv) _ (ask_mem ha1))⟩⟩
          obtain ⟨k0, n0, t0, ks0⟩ := v0
          have hk0 : k0 = 5 := hk0
          subst hk0
          have := may_uint hm0
          exact (mayO_1 _ _).trans (decide_eq_true this)
        · exact ⟨rfl, by show (0 : Nat) ≤ _; omega, fun _ => ⟨show (0 : Nat) < _ by omega, show (0 : Nat) < _ by omega⟩⟩
        · cases hc : condR (valR ls 0 [] false).1 with
          | none =>
            exfalso
            have : (rdR 3 ls).2 = true := by show (match condR _ with | some c => _ | none => _ : O × Bool).2 = true; rw [hc]
            rw [this] at hs; cases hs
          | some c =>
            have hr : (rdR 3 ls).1 = ⟨3, 0, 0, c⟩ := by show (match condR _ with | some c => _ | none => _ : O × Bool).1 = _; rw [hc]
            rw [hr]
            obtain ⟨h1, h2⟩ := cond_ok hc
            refine ⟨by simp [mayO, h1], ?_, fun _ => ⟨by simp, by simp⟩⟩
            have : bulk (valR ls 0 [] false).1 ≤ bulkL ls + 1 := by
              cases ha : Fl.ask ls 0 with
              | none => rw [valR_none ha]; simp [nullV, bulk, bulkL, ByteArray.size]
              | some u => rw [valR_yes ha rfl]; have := ask_bulk ha; show bulk u ≤ _; omega
            have hb2 : bulkL ls + 1 ≤ bulk v := by
              obtain ⟨n, t, d, n', t', rfl, _, _⟩ := newR_some hn
              simp only [bulk, bulkL]
              omega
            show c.size ≤ _
            omega
        · exact ⟨rfl, by show (0 : Nat) ≤ _; omega, fun _ => ⟨show (0 : Nat) < _ by omega, show (0 : Nat) < _ by omega⟩⟩
        · have hs : (oneR ls 1 2 false (oneR ls 0 2 false (valR ls 2 [23] false).2 0 V.num).2 0 V.num).2 = false := hs
          obtain ⟨hs1, hv1⟩ := one_may hs
          obtain ⟨_, hv0⟩ := one_may hs1
          obtain ⟨x, hx⟩ : ∃ x, (oneR ls 0 2 false (valR ls 2 [23] false).2 0 V.num).1 = x := ⟨_, rfl⟩
          obtain ⟨y, hy⟩ : ∃ y, (oneR ls 1 2 false (oneR ls 0 2 false (valR ls 2 [23] false).2 0 V.num).2 0 V.num).1 = y := ⟨_, rfl⟩
          have hr : (rdR 5 ls).1 = ⟨5, x, y, ⟨#[]⟩⟩ := by
            show O.mk 5 _ _ _ = _
            rw [hx, hy]
          rw [hr]
          have hX : x ≤ 1 := by
            rcases hv0 with h | ⟨⟨k0, n0, t0, ks0⟩, ha, hk0, hv⟩
            · omega
            · have hk0 : k0 = 2 := hk0
              subst hk0
              have := may_bool (ask_may hm ha)
              have hv : _ = n0 := hv
              omega
          have hY : y ≤ 1 := by
            rcases hv1 with h | ⟨⟨k0, n0, t0, ks0⟩, ha, hk0, hv⟩
            · omega
            · have hk0 : k0 = 2 := hk0
              subst hk0
              have := may_bool (ask_may hm ha)
              have hv : _ = n0 := hv
              omega
          refine ⟨(mayO_5 _ _).trans (by rw [decide_eq_true hX, decide_eq_true hY]; rfl), by simp [ByteArray.size], fun _ => ⟨by simp; omega, by simp; omega⟩⟩
      · rw [if_neg hd] at h; cases h
end Go.Proofs.YtneanfjcncdfdaaGreatDoor.Oc
end
section
namespace Go.Proofs.YtneanfjcncdfdaaGreatDoor.Oc
set_option maxRecDepth 100000
open Utf Val Fl V
theorem empty_of {c : ByteArray} (h : c.size = 0) : c = ⟨#[]⟩ := by
  cases c with
  | mk d =>
    have : d = #[] := Array.eq_empty_of_size_eq_zero h
    rw [this]
theorem desc_ne {n : Nat} {t : ByteArray} {ks : List V} : ¬ (V.mk 25 n t ks).kind = 1 := by show ¬ (25 = 1); omega
theorem trim_one {x : V} (h : x.kind ≠ 1) : trim [x] = [x] := by
  have : nulAt [x] 0 = false := by simp [nulAt, h]
  simp [trim, cutN, this]
theorem trim_two {x y : V} (h : y.kind ≠ 1) : trim [x, y] = [x, y] := by
  have : nulAt [x, y] 1 = false := by simp [nulAt, h]
  simp [trim, cutN, this]
theorem err_kind {c : ByteArray} (h : c.size ≠ 0) : errV c = .mk 25 0 ⟨#[]⟩ (putL 29 [.mk 21 0 c []]) := if_neg h
theorem err_null {c : ByteArray} (h : c.size = 0) : errV c = nullV := if_pos h
theorem cok_text {c : ByteArray} (h : cOk c = true) : textB 21 c = true := by
  unfold textB
  simp only [show ¬ (21 = 15 ∨ 21 = 18) by omega, show ¬ (21 = 16) by omega, show ¬ (21 = 17) by omega, show ¬ (21 = 20) by omega, if_false, if_true]
  exact h
theorem may_list {ks : List V} (h : mayL ks = true) : mayB (.mk 22 0 ⟨#[]⟩ ks) = true := by
  have : aloneOk 22 0 ⟨#[]⟩ ks.length = true := by simp [aloneOk, emp0]
  simp only [mayB, h, this, kidsOk]; rfl
theorem may_pair {d y : V} (hd : mayB d = true) (hk : nameB d.kind = true) (hy : mayB y = true) : mayB (.mk 25 0 ⟨#[]⟩ [d, y]) = true := by
  simp [mayB, mayL, hd, hy, aloneOk, emp0, kidsOk, hk]
theorem may_ulong (n : Nat) : mayB (.mk 6 n ⟨#[]⟩ []) = true := by
  simp [mayB, mayL, aloneOk, emp0, numB, kidsOk]
theorem may_symb {c : ByteArray} (h : cOk c = true) : mayB (.mk 21 0 c []) = true := by
  have h1 : aloneOk 21 0 c 0 = true := by
    unfold aloneOk
    rw [if_neg (by omega), if_neg (by omega), if_pos (by omega), cok_text h]; rfl
  simp [mayB, mayL, h1, kidsOk]
theorem may_null : mayB nullV = true := by simp [nullV, mayB, mayL, aloneOk, emp0, kidsOk]
theorem may_true : mayB (.mk 2 1 ⟨#[]⟩ []) = true := by simp [mayB, mayL, aloneOk, emp0, numB, kidsOk]
theorem may_u32 {n : Nat} (h : n < 4294967296) : mayB (.mk 5 n ⟨#[]⟩ []) = true := by simp [mayB, mayL, aloneOk, emp0, numB, kidsOk, h]
theorem may_err {c : ByteArray} (h : cOk c = true) : mayB (errV c) = true := by
  by_cases hc : c.size = 0
  · rw [err_null hc]; exact may_null
  · rw [err_kind hc]
    exact may_pair (may_ulong 29) rfl (may_list (by simp [mayL, may_symb h]))
theorem may_flag (n : Nat) : mayB (flagV n) = true := by
  unfold flagV
  by_cases h : n = 0
  · rw [if_pos h]; exact may_null
  · rw [if_neg h]; exact may_true
theorem size_err (c : ByteArray) : items (errV c) ≤ 5 ∧ depth (errV c) ≤ 3 := by
  by_cases hc : c.size = 0
  · rw [err_null hc]; simp [nullV, items, itemsL, depth, depthL]
  · rw [err_kind hc]; simp [putL, items, itemsL, depth, depthL]
theorem size_flag (n : Nat) : items (flagV n) = 1 ∧ depth (flagV n) = 1 := by
  unfold flagV
  by_cases h : n = 0
  · rw [if_pos h]; simp [nullV, items, itemsL, depth, depthL]
  · rw [if_neg h]; simp [items, itemsL, depth, depthL]
/-- An outcome's fields may be, and are few. -/
theorem tell_ok {o : O} (h : mayO o = true) : mayL (tellO o) = true ∧ itemsL (tellO o) ≤ 5 ∧ depthL (tellO o) ≤ 3 := by
  unfold mayO at h
  simp only [Bool.and_eq_true] at h
  obtain ⟨⟨⟨h1, h2⟩, h3⟩, h4⟩ := h
  unfold tellO
  by_cases e1 : o.k = 1
  · rw [if_pos e1] at h4 ⊢
    have h4 := of_decide_eq_true h4
    simp [mayL, may_u32 h4, may_ulong, items, itemsL, depth, depthL]
  · rw [if_neg e1]
    by_cases e3 : o.k = 3
    · rw [if_pos e3]
      have := size_err o.c
      simp [mayL, may_err h2, itemsL, depthL, this]
    · rw [if_neg e3]
      by_cases e5 : o.k = 5
      · rw [if_pos e5]
        have := size_flag o.a
        have := size_flag o.b
        simp [mayL, may_flag, itemsL, depthL, size_flag]
      · rw [if_neg e5]
        simp [mayL, itemsL, depthL]
theorem trim_sub (ls : List V) : ∃ j, trim ls = ls.take j := ⟨_, rfl⟩
theorem mayL_tk {ls : List V} (h : mayL ls = true) (j : Nat) : mayL (ls.take j) = true := by
  have e := mayL_append (ls.take j) (ls.drop j)
  rw [List.take_append_drop, h] at e
  cases hj : mayL (ls.take j) with
  | true => rfl
  | false => rw [hj] at e; simp at e
theorem fields_ok {d : V} {ls : List V} (hd : mayB d = true) (hk : nameB d.kind = true) (hi : items d = 1) (hdp : depth d = 1) (h : mayL ls = true) (h1 : itemsL ls ≤ 1000) (h2 : depthL ls ≤ 10) : okB (.mk 25 0 ⟨#[]⟩ [d, .mk 22 0 ⟨#[]⟩ ls]) = true := by
  have hm := may_pair hd hk (may_list h)
  unfold okB
  rw [hm, decide_eq_true (by simp [items, itemsL, hi]; omega), decide_eq_true (by simp [depth, depthL, hdp]; omega)]; rfl
theorem trim_ok {o : O} (h : mayO o = true) : mayL (trim (tellO o)) = true ∧ itemsL (trim (tellO o)) ≤ 5 ∧ depthL (trim (tellO o)) ≤ 3 := by
  obtain ⟨h1, h2, h3⟩ := tell_ok h
  obtain ⟨j, e⟩ := trim_sub (tellO o)
  rw [e]
  exact ⟨mayL_tk h1 j, Nat.le_trans (itemsL_take_le _ _) h2, Nat.le_trans (depthL_take_le _ _) h3⟩
/-- What is put may be. -/
theorem put_ok {o : O} (h : mayO o = true) : okB (putO o) = true := by
  unfold putO
  by_cases h0 : o.k = 0
  · rw [if_pos h0]; simp [nullV, okB, items, itemsL, depth, depthL, mayB, mayL, aloneOk, emp0, kidsOk]
  · rw [if_neg h0]
    obtain ⟨h1, h2, h3⟩ := trim_ok h
    exact fields_ok (may_ulong _) rfl (by simp [items, itemsL]) (by simp [depth, depthL]) h1 (by omega) (by omega)
theorem cond_err {c : ByteArray} (h : cOk c = true) : condR (errV c) = some c := by
  by_cases hc : c.size = 0
  · rw [err_null hc, empty_of hc]; rfl
  · rw [err_kind hc]
    have hok : okB (.mk 25 0 ⟨#[]⟩ (putL 29 [.mk 21 0 c []])) = true := fields_ok (may_ulong _) rfl (by simp [items, itemsL]) (by simp [depth, depthL]) (by simp [mayL, may_symb h]) (by simp [items, itemsL]) (by simp [depth, depthL])
    have hn : newR (.mk 25 0 ⟨#[]⟩ (putL 29 [.mk 21 0 c []])) 29 ename = some [.mk 21 0 c []] := by
      unfold putL at hok ⊢
      rw [newR_list hok, called_code, decide_eq_true rfl, if_pos rfl]
    unfold condR
    rw [if_neg desc_ne, hn]
    exact if_pos rfl
theorem name_ne {i j : Nat} (hi : i ∈ [1, 2, 3, 4, 5]) (hj : j ∈ [1, 2, 3, 4, 5]) : decide (oname i = oname j) = decide (i = j) := by
  simp only [List.mem_cons, List.not_mem_nil, or_false] at hi hj
  rcases hi with rfl | rfl | rfl | rfl | rfl <;> rcases hj with rfl | rfl | rfl | rfl | rfl <;> decide
/-- The first one of the five by which a value is called. -/
theorem first_is {v : V} {k : Nat} {ls : List V} : ∀ {l : List Nat}, (∀ j ∈ l, newR v (34 + j) (oname j) = if k = j then some ls else none) → k ∈ l → firstR v l = some (k, ls)
  | x :: l, h, hk => by
    unfold firstR
    rw [h x (by simp)]
    by_cases e : k = x
    · subst e; rw [if_pos rfl]
    · rw [if_neg e]
      exact first_is (fun j hj => h j (by simp [hj])) ((List.mem_cons.1 hk).resolve_left e)
theorem get_fields {d : V} {k : Nat} {ls : List V} (hk : k ∈ [1, 2, 3, 4, 5]) (hok : okB (.mk 25 0 ⟨#[]⟩ [d, .mk 22 0 ⟨#[]⟩ ls]) = true) (hd : ∀ j ∈ [1, 2, 3, 4, 5], calledB d (34 + j) (oname j) = decide (k = j)) : getR (.mk 25 0 ⟨#[]⟩ [d, .mk 22 0 ⟨#[]⟩ ls]) = readO k ls := by
  unfold getR
  rw [if_neg desc_ne, first_is (k := k) (ls := ls) (fun j hj => ?_) hk]
  rw [newR_list hok, hd j hj]
  by_cases e : k = j
  · rw [decide_eq_true e, if_pos rfl, if_pos e]
  · rw [decide_eq_false e, if_neg Bool.false_ne_true, if_neg e]
theorem called_five {k : Nat} : ∀ j ∈ [1, 2, 3, 4, 5], calledB (.mk 6 (34 + k) ⟨#[]⟩ []) (34 + j) (oname j) = decide (k = j) := by
  intro j _
  rw [called_code]
  by_cases e : k = j
  · rw [decide_eq_true e, decide_eq_true (by omega)]
  · rw [decide_eq_false e, decide_eq_false (by omega)]
theorem may_five {o : O} (h : mayO o = true) (h0 : o.k ≠ 0) : o.k ∈ [1, 2, 3, 4, 5] := by
  unfold mayO at h
  simp only [Bool.and_eq_true] at h
  have := of_decide_eq_true h.1.1.1
  simp only [List.mem_cons, List.not_mem_nil, or_false]
  omega
/-- What is told of an outcome is read as it was. -/
theorem read_tell {o : O} (h : mayO o = true) (h0 : o.k ≠ 0) : readO o.k (trim (tellO o)) = some o := by
  have h5 := may_five h h0
  obtain ⟨k, a, b, c⟩ := o
  unfold mayO at h
  simp only [Bool.and_eq_true] at h h5
  obtain ⟨⟨⟨h1, h2⟩, h3⟩, h4⟩ := h
  simp only [List.mem_cons, List.not_mem_nil, or_false] at h5
  rcases h5 with rfl | rfl | rfl | rfl | rfl
  · have hc : c = ⟨#[]⟩ := empty_of (by simpa using h3)
    subst hc
    rw [show tellO ⟨1, a, b, ⟨#[]⟩⟩ = [.mk 5 a ⟨#[]⟩ [], .mk 6 b ⟨#[]⟩ []] from rfl, trim_two (by simp [kind])]
    exact if_pos rfl
  · have hc : c = ⟨#[]⟩ := empty_of (by simpa using h3)
    simp at h4
    obtain ⟨rfl, rfl⟩ := h4
    subst hc
    exact if_pos rfl
  · simp at h4
    obtain ⟨rfl, rfl⟩ := h4
    have hcd := cond_err h2
    rw [show tellO ⟨3, 0, 0, c⟩ = [errV c] from rfl]
    by_cases hc : c.size = 0
    · rw [err_null hc, empty_of hc]
      rfl
    · have hk : (errV c).kind ≠ 1 := by rw [err_kind hc]; simp [kind]
      rw [trim_one hk]
      have hv : valR [errV c] 0 [] false = (errV c, false) := by
        rw [err_kind hc]; rfl
      have hr : rdR 3 [errV c] = (⟨3, 0, 0, c⟩, false) := by
        show (match condR (valR [errV c] 0 [] false).1 with | some c => _ | none => _ : O × Bool) = _
        rw [hv, hcd]
      unfold readO
      rw [hr]
      exact if_pos rfl
  · have hc : c = ⟨#[]⟩ := empty_of (by simpa using h3)
    simp at h4
    obtain ⟨rfl, rfl⟩ := h4
    subst hc
    exact if_pos rfl
  · have hc : c = ⟨#[]⟩ := empty_of (by simpa using h3)
    subst hc
    simp at h4
    obtain ⟨ha, hb⟩ := h4
    have ha' : a = 0 ∨ a = 1 := by omega
    have hb' : b = 0 ∨ b = 1 := by omega
    rcases ha' with rfl | rfl <;> rcases hb' with rfl | rfl <;> rfl
/-- What is put is got as it was. -/
theorem get_put {o : O} (h : mayO o = true) : getR (putO o) = some o := by
  by_cases h0 : o.k = 0
  · have e : putO o = nullV := if_pos h0
    rw [e]
    obtain ⟨k, a, b, c⟩ := o
    have h0 : k = 0 := h0
    subst h0
    unfold mayO at h
    simp [Bool.and_eq_true] at h
    obtain ⟨⟨_, h3⟩, rfl, rfl⟩ := h
    have hc : c = ⟨#[]⟩ := by first | exact h3 | exact empty_of h3
    rw [hc]
    rfl
  · have hp := put_ok h
    have e : putO o = .mk 25 0 ⟨#[]⟩ [.mk 6 (34 + o.k) ⟨#[]⟩ [], .mk 22 0 ⟨#[]⟩ (trim (tellO o))] := if_neg h0
    rw [e] at hp ⊢
    rw [get_fields (may_five h h0) hp called_five]
    exact read_tell h h0
end Go.Proofs.YtneanfjcncdfdaaGreatDoor.Oc
end
