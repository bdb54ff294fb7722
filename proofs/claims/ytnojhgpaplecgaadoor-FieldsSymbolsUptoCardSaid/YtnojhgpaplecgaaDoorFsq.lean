/-
  Plain mathematics of the statement FieldsSymbols: what is asked of an array of symbols, of these, and of a value behind them; rows of values in memory; an argument of many texts, opened. No condition.
-/
import Derived.Test.YtnojhgpaplecgaaDoorOpa
import Derived.Test.YtnojhgpaplecgaaDoorFwo
import Derived.Test.YtnojhgpaplecgaaDoorCells
import Derived.Deep.Strs
namespace Go.Proofs.YtnojhgpaplecgaaDoor.Fl
set_option maxRecDepth 100000
open Go.ChangeShapes Go.WideShapes Go.ChangeAt Go.RowKit Go.Proofs.YtnojhgpaplecgaaDoor.Utf Go.Proofs.YtnojhgpaplecgaaDoor.Val V

/-- Symbols of texts; an array of them, they, and a value. -/
def syV (ts : List ByteArray) : List V := ts.map fun t => .mk 21 0 t []
def allV (ts : List ByteArray) (v : V) : List V := .mk 24 0 ⟨#[]⟩ (syV ts) :: (syV ts ++ [v])
theorem syV_len (ts : List ByteArray) : (syV ts).length = ts.length := by simp [syV]
theorem allV_len (ts : List ByteArray) (v : V) : (allV ts v).length = ts.length + 2 := by simp [allV, syV]
theorem allSym_sy (ts : List ByteArray) : allSym (syV ts) = true := by
  unfold allSym syV
  rw [List.all_eq_true]
  intro u hu
  obtain ⟨t, _, rfl⟩ := List.mem_map.1 hu
  rfl
theorem texts_sy (ts : List ByteArray) : texts (syV ts) = ts := by
  unfold texts syV
  rw [List.map_map]
  exact List.map_id' ts
theorem all_at0 (ts : List ByteArray) (v : V) : (allV ts v)[0]? = some (.mk 24 0 ⟨#[]⟩ (syV ts)) := rfl
theorem all_at1 {ts : List ByteArray} {v : V} {j : Nat} {t : ByteArray} (h : ts[j]? = some t) : (allV ts v)[1 + j]? = some (.mk 21 0 t []) := by
  have hj := (List.getElem?_eq_some_iff.1 h).1
  rw [Nat.add_comm]
  show (syV ts ++ [v])[j]? = _
  rw [List.getElem?_append_left (by rw [syV_len]; exact hj)]
  simp [syV, h]
theorem all_atv (ts : List ByteArray) (v : V) : (allV ts v)[ts.length + 1]? = some v := by
  show (syV ts ++ [v])[ts.length]? = _
  rw [List.getElem?_append_right (by rw [syV_len]; omega), syV_len]
  simp
/-- What is asked of a list whose nulls at the end are gone is what is asked of it. -/
theorem sym_trim (ls : List V) (i : Int) (sp : Bool) (h : ask (trim ls) i = ask ls i) : symR (trim ls) i sp = symR ls i sp := by unfold symR; rw [h]
theorem sym0 (ts : List ByteArray) (v : V) (sp : Bool) : symR (allV ts v) 0 sp = (ts, sp) := by
  show symR (allV ts v) ((0 : Nat) : Int) sp = _
  rw [symR_yes (v := .mk 24 0 ⟨#[]⟩ (syV ts)) (ask_there (j := 0) (all_at0 ts v) (by decide)) (by show allSym (syV ts) = true; exact allSym_sy ts)]
  show (texts (syV ts), sp) = _
  rw [texts_sy]
theorem sym1 {ts : List ByteArray} {v : V} {j : Nat} {t : ByteArray} (h : ts[j]? = some t) (sp : Bool) : symR (allV ts v) ((1 + j : Nat) : Int) sp = ([t], sp) :=
  symR_yes (v := .mk 21 0 t []) (ask_there (all_at1 h) (by decide)) rfl
theorem sym_far (ts : List ByteArray) (v : V) (sp : Bool) : symR (allV ts v) ((ts.length + 2 : Nat) : Int) sp = ([], sp) := symR_none (ask_far (by rw [allV_len]; omega))
theorem sym_neg (ts : List ByteArray) (v : V) (sp : Bool) : symR (allV ts v) (-1) sp = ([], sp) := symR_none (ask_neg (by decide))
/-- What the law says of a value: is it nothing, or one symbol, or an array of them? -/
def firstB : List V → Bool
  | [] => true
  | x :: _ => decide (x.kind = 21)
def fineB (v : V) : Bool := decide (v.kind = 1) || decide (v.kind = 21) || (decide (v.kind = 24) && firstB v.kids)
theorem alike_kind {x y : V} (h : alikeB x y = true) : x.kind = y.kind := by
  cases x with
  | mk k n t ks =>
    unfold alikeB at h
    simp only [Bool.and_eq_true, decide_eq_true_eq] at h
    exact h.1
theorem fine_sym {v : V} (h : mayB v = true) (hk : ¬ v.kind = 1) : allSym (symOf v) = fineB v := by
  obtain ⟨k, n, t, ks⟩ := v
  have hk1 : decide (k = 1) = false := decide_eq_false hk
  show allSym (if k = 24 then ks else [.mk k n t ks]) = (decide (k = 1) || decide (k = 21) || (decide (k = 24) && firstB ks))
  rw [hk1, Bool.false_or]
  by_cases h24 : k = 24
  · subst h24
    rw [if_pos rfl]
    have hko : kidsOk 24 ks = true := by
      simp only [mayB, Bool.and_eq_true] at h
      exact h.2
    rw [kidsOk_24] at hko
    cases ks with
    | nil => rfl
    | cons x r =>
      have hal : ∀ y ∈ r, x.kind = y.kind := fun y hy => alike_kind (List.all_eq_true.1 hko y hy)
      show allSym (x :: r) = (decide (24 = 21) || (decide (24 = 24) && decide (x.kind = 21)))
      rw [show decide (24 = 21) = false from by decide, show decide (24 = 24) = true from by decide, Bool.false_or, Bool.true_and]
      unfold allSym
      rw [List.all_cons]
      by_cases hx : x.kind = 21
      · rw [decide_eq_true hx, Bool.true_and, List.all_eq_true]
        intro y hy
        exact decide_eq_true (by rw [← hal y hy]; exact hx)
      · rw [decide_eq_false hx, Bool.false_and]
  · rw [if_neg h24, decide_eq_false h24, Bool.false_and, Bool.or_false]
    show (decide (k = 21) && true) = _
    rw [Bool.and_true]
/-- How it stands with the fields behind the last question. -/
theorem sym_last {ts : List ByteArray} {v : V} (h : mayB v = true) : (symR (allV ts v) ((ts.length + 1 : Nat) : Int) false).2 = !fineB v := by
  by_cases hk : v.kind = 1
  · obtain ⟨k, n, t, ks⟩ := v
    have hk' : k = 1 := hk
    subst hk'
    rw [symR_none (ask_null (all_atv ts _))]
    rfl
  · have ha : ask (allV ts v) ((ts.length + 1 : Nat) : Int) = some v := by
      obtain ⟨k, n, t, ks⟩ := v
      exact ask_there (all_atv ts _) hk
    rw [← fine_sym h hk]
    cases hs : allSym (symOf v) with
    | true => rw [symR_yes ha hs]; rfl
    | false => rw [symR_no ha hs]; rfl

/-- A row's cells, as they stand; what they lead to lies in blocks of P. -/
def CellsF (w : World) (P : Nat → Prop) : List V → List Value → Prop
  | [], xs => xs = []
  | .mk k n t ks :: vs, xs => ∃ A l c ys, xs = .int .u8 (k : Int) :: .int .u64 (n : Int) :: .string t :: .slice A l c :: ys ∧ k < 256 ∧ n < 18446744073709551616 ∧ Go.Proofs.YtnojhgpaplecgaaDoor.Val.Kids false w P ks A l c ∧ CellsF w P vs ys
theorem CellsF.len {w : World} {P : Nat → Prop} : ∀ {vs : List V} {xs : List Value}, CellsF w P vs xs → xs.length = vs.length * 4
  | [], _, h => by rw [show _ = [] from h]; rfl
  | .mk _ _ _ _ :: vs, _, ⟨A, l, c, ys, e, _, _, _, h⟩ => by
    subst e
    have := h.len
    simp only [List.length_cons]
    omega
theorem CellsF.keep {w w' : World} {P : Nat → Prop} (hk : ∀ i, P i → w'.heap[i]? = w.heap[i]?) : ∀ {vs : List V} {xs : List Value}, CellsF w P vs xs → CellsF w' P vs xs
  | [], _, h => h
  | .mk _ _ _ _ :: _, _, ⟨A, l, c, ys, e, h1, h2, h3, h⟩ => ⟨A, l, c, ys, e, h1, h2, h3.keep hk, h.keep hk⟩
theorem CellsF.mono {w : World} {P P' : Nat → Prop} (hk : ∀ i, P i → P' i) : ∀ {vs : List V} {xs : List Value}, CellsF w P vs xs → CellsF w P' vs xs
  | [], _, h => h
  | .mk _ _ _ _ :: _, _, ⟨A, l, c, ys, e, h1, h2, h3, h⟩ => ⟨A, l, c, ys, e, h1, h2, h3.mono hk, h.mono hk⟩
theorem CellsF.append {w : World} {P : Nat → Prop} {vs' : List V} {xs' : List Value} (h' : CellsF w P vs' xs') : ∀ {vs : List V} {xs : List Value}, CellsF w P vs xs → CellsF w P (vs ++ vs') (xs ++ xs')
  | [], xs, h => by rw [show xs = [] from h]; exact h'
  | .mk _ _ _ _ :: _, _, ⟨A, l, c, ys, e, h1, h2, h3, h⟩ => by
    subst e
    exact ⟨A, l, c, ys ++ xs', rfl, h1, h2, h3, CellsF.append h' h⟩
theorem CellsF.one {w : World} {P : Nat → Prop} {k n : Nat} {t : ByteArray} {ks : List V} {A : Option Addr} {l c : Nat} (hk : k < 256) (hn : n < 18446744073709551616) (hK : Go.Proofs.YtnojhgpaplecgaaDoor.Val.Kids false w P ks A l c) : CellsF w P [.mk k n t ks] [.int .u8 (k : Int), .int .u64 (n : Int), .string t, .slice A l c] := ⟨A, l, c, [], rfl, hk, hn, hK, rfl⟩
/-- Symbols in a row lead to nothing. -/
theorem CellsF.sy {w w' : World} {P P' : Nat → Prop} : ∀ {ts : List ByteArray} {xs : List Value}, CellsOf w P (syV ts) xs → CellsF w' P' (syV ts) xs
  | [], _, h => h
  | _ :: ts, _, ⟨A, l, c, ys, e, h1, h2, h3, h⟩ => by
    obtain rfl : l = 0 := h3.len
    exact ⟨A, 0, c, ys, e, h1, h2, Kids.none_ _ _ _ _ _, CellsF.sy (ts := ts) h⟩
theorem cells_one {w : World} {P : Nat → Prop} : ∀ {vs : List V} {xs : List Value}, CellsOf w P vs xs → ∀ u ∈ xs, u.oneCell' = true
  | [], xs, h, u, hu => by rw [show xs = [] from h] at hu; cases hu
  | .mk _ _ _ _ :: _, _, ⟨A, l, c, ys, e, _, _, _, h⟩, u, hu => by
    subst e
    simp only [List.mem_cons] at hu
    rcases hu with rfl | rfl | rfl | rfl | hu
    · rfl
    · rfl
    · rfl
    · rfl
    · exact cells_one h u hu
theorem CellsF.row {w : World} {P : Nat → Prop} {b : Nat} : ∀ {vs : List V} {xs : List Value} {o : Nat}, (∀ j u, xs[j]? = some u → w.cell? ⟨b, o + j, none⟩ = some u) → CellsF w P vs xs → RowL false w P vs b o
  | [], _, _, _, _ => trivial
  | .mk _ _ _ _ :: vs, _, o, hc, ⟨A, l, c, ys, e, h1, h2, h3, h⟩ => by
    subst e
    refine ⟨repV_iff.2 ⟨A, l, c, by simpa using hc 0 _ rfl, hc 1 _ rfl, hc 2 _ rfl, hc 3 _ rfl, h1, h2, h3⟩, CellsF.row (o := o + 4) (fun j u hu => ?_) h⟩
    have := hc (j + 4) u (by simpa using hu)
    rwa [show o + (j + 4) = o + 4 + j by omega] at this
/-- A call's own row of values, read. -/
theorem CellsF.kd {B : Nat} {w : World} {P : Nat → Prop} {A : Option Addr} {n c : Nat} {vs : List V} {xs : List Value} (hown : w.ownsRow B 25 4 (.slice A n c) n xs) (h : CellsF w P vs xs) (hP : ∀ i, P i → i < w.heap.size) (h0 : 0 < n) : Kd w vs A n c := by
  have hl := h.len
  have hx : xs.length = n * 4 := hown.1
  have hcap : n ≤ c := by
    rcases hown.2 with ⟨_, h⟩ | ⟨g, cap, cur, hv, _, _, hc, _⟩
    · omega
    · injection hv with _ _ e3
      omega
  refine ⟨by omega, hcap, fun h0 => ?_⟩
  obtain ⟨g, cap, e, hg, hg2⟩ := World.ownsRow.form hown h0
  injection e with e1 e2 e3
  subst e1
  refine ⟨g, 0, rfl, hg2, fun h => (by cases h), CellsF.row (fun j u hu => ?_) (h.mono hP)⟩
  have := World.ownsRow.cells hown (g := g) rfl j u hu
  rw [show (⟨g, 0, none⟩ : Addr).add j = ⟨g, j, none⟩ from by cases j <;> simp [Addr.add]] at this
  rwa [Nat.zero_add]

theorem cutN_abv (ls : List V) (j : Nat) : ∀ n, cutN ls n ≤ j → j < n → nulAt ls j = true
  | 0, _, h => by omega
  | n + 1, h, hj => by
    unfold cutN at h
    by_cases hn : nulAt ls n = true
    · rw [if_pos hn] at h
      by_cases e : j = n
      · subst e; exact hn
      · exact cutN_abv ls j n h (by omega)
    · rw [if_neg hn] at h; omega
theorem ask_trm (ls : List V) (i : Int) : ask (trim ls) i = ask ls i := by
  by_cases h0 : i < 0
  · rw [ask_neg h0, ask_neg h0]
  · obtain ⟨j, rfl⟩ : ∃ j : Nat, i = (j : Int) := ⟨i.toNat, by omega⟩
    unfold ask trim
    rw [if_pos (by omega), if_pos (by omega), Int.toNat_natCast]
    by_cases hj : j < cutN ls ls.length
    · rw [List.getElem?_take_of_lt hj]
    · rw [List.getElem?_take_eq_none (by omega)]
      by_cases hl : j < ls.length
      · have hn := cutN_abv ls j ls.length (by omega) hl
        unfold nulAt at hn
        rw [List.getElem?_eq_getElem hl] at hn ⊢
        simp only [decide_eq_true_eq] at hn
        simp [Option.filter, hn]
      · rw [List.getElem?_eq_none (by omega)]
theorem symR_trm (ls : List V) (i : Int) (sp : Bool) : symR (trim ls) i sp = symR ls i sp := by unfold symR; rw [ask_trm]
theorem done_trm (ls : List V) (sp : Bool) : doneN (trim ls) sp (ls.length : Int) = if sp = true then 6 else 0 := by
  unfold doneN
  have : (trim ls).length ≤ ls.length := by unfold trim; rw [List.length_take]; omega
  cases sp with
  | true => rw [if_pos (.inl rfl), if_pos rfl]
  | false => rw [if_neg (by simp; omega), if_neg Bool.false_ne_true]
/-- An argument of texts. -/
theorem open_texts {H : Type} {enc : TypeId × Value → H} {W : World} {r : Reach} {b0 : Nat} {v : Value} {d : DataW H} {p : List MemPlace} (hval : Value.okWide Tryd.prog W r b0 38 v) (h : DataW.Trod enc Tryd.prog W 0 (fun _ => true) true 38 v d p) (hlt : ∀ x ∈ p, x.block < W.heap.size) :
    ∃ ts A l c, v = .slice A l c ∧ l ≤ c ∧ SrR W A l ts ∧ bulkL (syV ts) ≤ Rows.uptoBulk d := by
  obtain ⟨a0, len0, cap0, rfl⟩ := okWide_slice Tryd.underlying38 hval
  obtain ⟨fuel, hf⟩ := h
  rcases Go.Deep.open_strs Tryd.underlying38 under9 (by kernel_rfl) hf with ⟨hcs, _⟩ | ⟨a, len, cap, m, Sx, hcs, _, hl, _, hm, hd, hx⟩
  · simp only [Value.cells, List.cons.injEq, Value.slice.injEq, and_true] at hcs
    obtain ⟨rfl, rfl, rfl⟩ := hcs
    exact ⟨[], none, 0, 0, rfl, Nat.le_refl _, ⟨rfl, fun j hj => by omega⟩, Nat.zero_le _⟩
  simp only [Value.cells, List.cons.injEq, Value.slice.injEq, and_true] at hcs
  obtain ⟨rfl, rfl, rfl⟩ := hcs
  simp only [if_true] at hm
  injection hd with hd hp
  refine ⟨(List.range len0).map Sx, some a, len0, cap0, rfl, hl, ⟨by simp, fun j hj => ?_⟩, ?_⟩
  · obtain ⟨b, o, spot⟩ := a
    have hspot : spot = none := by simpa [Addr.add] using World.cell?_spot (hx 0 (by omega)).1
    subst hspot
    have := (hx j (by omega)).1
    rw [add_plain] at this
    exact ⟨b, o, Sx j, rfl, hlt (.cell b o) (by rw [hp]; exact MemPlace.mem_row.2 ⟨0, by omega, by simp⟩), by simp [hj], this⟩
  · subst hd
    have := bulk_pairs (H := H) (ks := syV ((List.range len0).map Sx)) (es := (List.range len0).map fun i => .lit (.string (Sx i).data.toList)) (by simp [syV]) fun i u hu => by
      simp only [syV, List.map_map, List.getElem?_map] at hu
      obtain ⟨q, hq, rfl⟩ := Option.map_eq_some_iff.1 hu
      refine ⟨.lit (.string (Sx q).data.toList), by simp [hq], ?_⟩
      have e : (Sx q).data.toList.length = (Sx q).size := Array.length_toList
      simp only [Function.comp, bulk, bulkL, Rows.uptoBulk]
      omega
    simp only [Rows.uptoBulk]
    omega
end Go.Proofs.YtnojhgpaplecgaaDoor.Fl
