/-
  Contracts of the program's ask at its four types, given what the function that it is given does. Memory that was there stays, but for the block of the fields. No other condition.
-/
import Derived.Test.YtohmnbefokhjpaaDoorFld
namespace Go.Proofs.YtohmnbefokhjpaaDoor.Fl
set_option maxRecDepth 100000
open Go.RowKit Go.Proofs.YtohmnbefokhjpaaDoor.Utf Go.Proofs.YtohmnbefokhjpaaDoor.Val V

/-- What a teller answers: something, and whether it could. -/
def GivesP (Q : Value → World → Prop) (b : Bool) (w : World) (e : Ending) (w' : World) : Prop := ∃ r, e = .returned (.tuple #[r, .bool b]) ∧ Q r w' ∧ Below w.heap.size w w'
/-- An answer, and how it stands with the fields behind it. -/
def GivesF (T : TypeId) (X : Nat → Prop) (g : Nat) (ls : List V) (A : Option Addr) (l c : Nat) (Q : Value → World → Prop) (sp' : Bool) (w : World) (e : Ending) (w' : World) : Prop :=
  ∃ r, e = .returned r ∧ Q r w' ∧ Off (fun i => i = g) w w' ∧ Fld T X w' g ls A l c sp'
theorem GivesF.mono {T : TypeId} {X : Nat → Prop} {g : Nat} {ls : List V} {A : Option Addr} {l c : Nat} {Q Q' : Value → World → Prop} {sp : Bool} {w w' : World} {e : Ending} (h : GivesF T X g ls A l c Q sp w e w') (hq : ∀ r, Q r w' → Q' r w') : GivesF T X g ls A l c Q' sp w e w' := by
  obtain ⟨r, h1, h2, h3⟩ := h
  exact ⟨r, h1, hq r h2, h3⟩
section
variable {X : Nat → Prop} {w : World} {g : Nat} {ls : List V} {A : Option Addr} {l c : Nat} {sp : Bool}

theorem askU_none (h : Fld 63 X w g ls A l c sp) (i : Int) (must : Bool) (z : Nat) (hq : ask ls i = none) (kb : Nat):
    Calls Tryd.prog 44 #[.pointer (some ⟨g, 0, none⟩), .int .i64 i, .bool must, .int .u64 (z : Int), .func (.func 45) #[] #[.pointer (some ⟨kb, 0, none⟩)]] w (GivesF 63 X g ls A l c (fun r _ => r = .int .u64 (z : Int)) (sp || must) w) := by
  have HH := has_any h i
  rw [hq] at HH
  have HF := Lib.hid h
  have HG := Lib.hid HH
  clear hq h HH
  cases must with
  | false =>
    rw [Bool.or_false]
    go_enter Tryd.func44, Tryd.ntmps44
    go_wp2_with (go_at_call 53; refine HG.out.mono ?_; rintro e w1 ⟨rfl, hb1⟩)
    go_ret
    exact ⟨_, rfl, rfl, Off.of _ hb1, HF.out.call hb1⟩
  | true =>
    rw [Bool.or_true]
    go_enter Tryd.func44, Tryd.ntmps44
    go_wp2_with (first
      | (go_at_call 53; refine HG.out.mono ?_; rintro e w1 ⟨rfl, hb1⟩; have H1 := Lib.hid (HF.out.call hb1))
      | (go_at_call 39; refine (spoil_any H1.out).mono ?_; rintro e w2 ⟨⟨v, rfl⟩, rfl⟩))
    go_ret
    exact ⟨_, rfl, rfl, (Off.of _ hb1).trans (Off.set _ _ _ rfl), H1.out.spoil⟩
theorem askU_yes {Q : Value → World → Prop} {k n : Nat} {t : ByteArray} {ks : List V} (h : Fld 63 X w g ls A l c sp) (i : Int) (must : Bool) (z : Nat) (hq : ask ls i = some (.mk k n t ks)) (kb : Nat)
    (cl : ∀ A' l' c' w', Below w.heap.size w w' → Kd w' ks A' l' c' → k < 256 → n < 18446744073709551616 → Calls Tryd.prog 45 #[.agg #[.int .u8 (k : Int), .int .u64 (n : Int), .string t, .slice A' l' c'], .pointer (some ⟨kb, 0, none⟩)] w' (GivesP Q true w')) :
    Calls Tryd.prog 44 #[.pointer (some ⟨g, 0, none⟩), .int .i64 i, .bool must, .int .u64 (z : Int), .func (.func 45) #[] #[.pointer (some ⟨kb, 0, none⟩)]] w (GivesF 63 X g ls A l c Q sp w) := by
  obtain ⟨j, rfl, hj, hx, _⟩ := ask_some hq
  have HH := has_any h (j : Int)
  rw [hq] at HH
  have hl := h.fkd.len
  have HF := Lib.hid h
  have HG := Lib.hid HH
  have HC := Lib.hid cl
  have HX := Lib.hid hx
  clear hq h HH cl hx
  go_enter Tryd.func44, Tryd.ntmps44
  go_wp2_with (go_at_call 53; refine HG.out.mono ?_; rintro e w1 ⟨rfl, hb1⟩; have H1 := Lib.hid (HF.out.call hb1); obtain ⟨a0, a1, _⟩ := H1.out.cells; obtain ⟨b, o, k', n', t', ks', A', l', c', rfl, hb, hx', e0, e1, e2, e3, hk, hn, hK⟩ := H1.out.fkd.at_ (i := j) (by omega); have hv := HX.out.symm.trans hx'; injection hv with hv; injection hv with q1 q2 q3 q4; subst q1; subst q2; subst q3; subst q4; have HC1 := Lib.hid (HC.out A' l' c' w1 hb1 hK hk hn); have HB1 := Lib.hid hb1; clear HC HG HX hx' hK hb1 hk hn)
  refine HC1.out.mono ?_
  rintro e w2 ⟨r, rfl, hQ, hb2⟩
  have HQ := Lib.hid hQ
  clear hQ
  go_wp2
  go_ret
  exact ⟨_, rfl, HQ.out, (Off.of _ HB1.out).next hb2, H1.out.call hb2⟩
theorem askU_no {Q : Value → World → Prop} {k n : Nat} {t : ByteArray} {ks : List V} (h : Fld 63 X w g ls A l c sp) (i : Int) (must : Bool) (z : Nat) (hq : ask ls i = some (.mk k n t ks)) (kb : Nat)
    (cl : ∀ A' l' c' w', Below w.heap.size w w' → Kd w' ks A' l' c' → k < 256 → n < 18446744073709551616 → Calls Tryd.prog 45 #[.agg #[.int .u8 (k : Int), .int .u64 (n : Int), .string t, .slice A' l' c'], .pointer (some ⟨kb, 0, none⟩)] w' (GivesP Q false w')) :
    Calls Tryd.prog 44 #[.pointer (some ⟨g, 0, none⟩), .int .i64 i, .bool must, .int .u64 (z : Int), .func (.func 45) #[] #[.pointer (some ⟨kb, 0, none⟩)]] w (GivesF 63 X g ls A l c (fun r _ => r = .int .u64 (z : Int)) true w) := by
  obtain ⟨j, rfl, hj, hx, _⟩ := ask_some hq
  have HH := has_any h (j : Int)
  rw [hq] at HH
  have hl := h.fkd.len
  have HF := Lib.hid h
  have HG := Lib.hid HH
  have HC := Lib.hid cl
  have HX := Lib.hid hx
  clear hq h HH cl hx
  go_enter Tryd.func44, Tryd.ntmps44
  go_wp2_with (go_at_call 53; refine HG.out.mono ?_; rintro e w1 ⟨rfl, hb1⟩; have H1 := Lib.hid (HF.out.call hb1); obtain ⟨a0, a1, _⟩ := H1.out.cells; obtain ⟨b, o, k', n', t', ks', A', l', c', rfl, hb, hx', e0, e1, e2, e3, hk, hn, hK⟩ := H1.out.fkd.at_ (i := j) (by omega); have hv := HX.out.symm.trans hx'; injection hv with hv; injection hv with q1 q2 q3 q4; subst q1; subst q2; subst q3; subst q4; have HC1 := Lib.hid (HC.out A' l' c' w1 hb1 hK hk hn); have HB1 := Lib.hid hb1; clear HC HG HX hx' hK hb1 hk hn)
  refine HC1.out.mono ?_
  rintro e w2 ⟨r, rfl, _, hb2⟩
  have H2 := Lib.hid (H1.out.call hb2)
  clear a0 a1
  go_wp2_with (go_at_call 39; refine (spoil_any H2.out).mono ?_; rintro e w3 ⟨⟨v, rfl⟩, rfl⟩)
  go_ret
  exact ⟨_, rfl, rfl, ((Off.of _ HB1.out).next hb2).trans (Off.set _ _ _ rfl), H2.out.spoil⟩

theorem askS_none (h : Fld 63 X w g ls A l c sp) (i : Int) (must : Bool) (z : ByteArray) (hq : ask ls i = none) (kb : Nat):
    Calls Tryd.prog 54 #[.pointer (some ⟨g, 0, none⟩), .int .i64 i, .bool must, .string z, .func (.func 55) #[] #[.pointer (some ⟨kb, 0, none⟩)]] w (GivesF 63 X g ls A l c (fun r _ => r = .string z) (sp || must) w) := by
  have HH := has_any h i
  rw [hq] at HH
  have HF := Lib.hid h
  have HG := Lib.hid HH
  clear hq h HH
  cases must with
  | false =>
    rw [Bool.or_false]
    go_enter Tryd.func54, Tryd.ntmps54
    go_wp2_with (go_at_call 53; refine HG.out.mono ?_; rintro e w1 ⟨rfl, hb1⟩)
    go_ret
    exact ⟨_, rfl, rfl, Off.of _ hb1, HF.out.call hb1⟩
  | true =>
    rw [Bool.or_true]
    go_enter Tryd.func54, Tryd.ntmps54
    go_wp2_with (first
      | (go_at_call 53; refine HG.out.mono ?_; rintro e w1 ⟨rfl, hb1⟩; have H1 := Lib.hid (HF.out.call hb1))
      | (go_at_call 39; refine (spoil_any H1.out).mono ?_; rintro e w2 ⟨⟨v, rfl⟩, rfl⟩))
    go_ret
    exact ⟨_, rfl, rfl, (Off.of _ hb1).trans (Off.set _ _ _ rfl), H1.out.spoil⟩
theorem askS_yes {Q : Value → World → Prop} {k n : Nat} {t : ByteArray} {ks : List V} (h : Fld 63 X w g ls A l c sp) (i : Int) (must : Bool) (z : ByteArray) (hq : ask ls i = some (.mk k n t ks)) (kb : Nat)
    (cl : ∀ A' l' c' w', Below w.heap.size w w' → Kd w' ks A' l' c' → k < 256 → n < 18446744073709551616 → Calls Tryd.prog 55 #[.agg #[.int .u8 (k : Int), .int .u64 (n : Int), .string t, .slice A' l' c'], .pointer (some ⟨kb, 0, none⟩)] w' (GivesP Q true w')) :
    Calls Tryd.prog 54 #[.pointer (some ⟨g, 0, none⟩), .int .i64 i, .bool must, .string z, .func (.func 55) #[] #[.pointer (some ⟨kb, 0, none⟩)]] w (GivesF 63 X g ls A l c Q sp w) := by
  obtain ⟨j, rfl, hj, hx, _⟩ := ask_some hq
  have HH := has_any h (j : Int)
  rw [hq] at HH
  have hl := h.fkd.len
  have HF := Lib.hid h
  have HG := Lib.hid HH
  have HC := Lib.hid cl
  have HX := Lib.hid hx
  clear hq h HH cl hx
  go_enter Tryd.func54, Tryd.ntmps54
  go_wp2_with (go_at_call 53; refine HG.out.mono ?_; rintro e w1 ⟨rfl, hb1⟩; have H1 := Lib.hid (HF.out.call hb1); obtain ⟨a0, a1, _⟩ := H1.out.cells; obtain ⟨b, o, k', n', t', ks', A', l', c', rfl, hb, hx', e0, e1, e2, e3, hk, hn, hK⟩ := H1.out.fkd.at_ (i := j) (by omega); have hv := HX.out.symm.trans hx'; injection hv with hv; injection hv with q1 q2 q3 q4; subst q1; subst q2; subst q3; subst q4; have HC1 := Lib.hid (HC.out A' l' c' w1 hb1 hK hk hn); have HB1 := Lib.hid hb1; clear HC HG HX hx' hK hb1 hk hn)
  refine HC1.out.mono ?_
  rintro e w2 ⟨r, rfl, hQ, hb2⟩
  have HQ := Lib.hid hQ
  clear hQ
  go_wp2
  go_ret
  exact ⟨_, rfl, HQ.out, (Off.of _ HB1.out).next hb2, H1.out.call hb2⟩
theorem askS_no {Q : Value → World → Prop} {k n : Nat} {t : ByteArray} {ks : List V} (h : Fld 63 X w g ls A l c sp) (i : Int) (must : Bool) (z : ByteArray) (hq : ask ls i = some (.mk k n t ks)) (kb : Nat)
    (cl : ∀ A' l' c' w', Below w.heap.size w w' → Kd w' ks A' l' c' → k < 256 → n < 18446744073709551616 → Calls Tryd.prog 55 #[.agg #[.int .u8 (k : Int), .int .u64 (n : Int), .string t, .slice A' l' c'], .pointer (some ⟨kb, 0, none⟩)] w' (GivesP Q false w')) :
    Calls Tryd.prog 54 #[.pointer (some ⟨g, 0, none⟩), .int .i64 i, .bool must, .string z, .func (.func 55) #[] #[.pointer (some ⟨kb, 0, none⟩)]] w (GivesF 63 X g ls A l c (fun r _ => r = .string z) true w) := by
  obtain ⟨j, rfl, hj, hx, _⟩ := ask_some hq
  have HH := has_any h (j : Int)
  rw [hq] at HH
  have hl := h.fkd.len
  have HF := Lib.hid h
  have HG := Lib.hid HH
  have HC := Lib.hid cl
  have HX := Lib.hid hx
  clear hq h HH cl hx
  go_enter Tryd.func54, Tryd.ntmps54
  go_wp2_with (go_at_call 53; refine HG.out.mono ?_; rintro e w1 ⟨rfl, hb1⟩; have H1 := Lib.hid (HF.out.call hb1); obtain ⟨a0, a1, _⟩ := H1.out.cells; obtain ⟨b, o, k', n', t', ks', A', l', c', rfl, hb, hx', e0, e1, e2, e3, hk, hn, hK⟩ := H1.out.fkd.at_ (i := j) (by omega); have hv := HX.out.symm.trans hx'; injection hv with hv; injection hv with q1 q2 q3 q4; subst q1; subst q2; subst q3; subst q4; have HC1 := Lib.hid (HC.out A' l' c' w1 hb1 hK hk hn); have HB1 := Lib.hid hb1; clear HC HG HX hx' hK hb1 hk hn)
  refine HC1.out.mono ?_
  rintro e w2 ⟨r, rfl, _, hb2⟩
  have H2 := Lib.hid (H1.out.call hb2)
  clear a0 a1
  go_wp2_with (go_at_call 39; refine (spoil_any H2.out).mono ?_; rintro e w3 ⟨⟨v, rfl⟩, rfl⟩)
  go_ret
  exact ⟨_, rfl, rfl, ((Off.of _ HB1.out).next hb2).trans (Off.set _ _ _ rfl), H2.out.spoil⟩

/-- A value that is told, its kids in new memory. -/
def GivesPV (k n : Nat) (t : ByteArray) (ks : List V) (b : Bool) (w : World) (e : Ending) (w' : World) : Prop := ∃ A2 l2 c2, e = .returned (.tuple #[.agg #[.int .u8 (k : Int), .int .u64 (n : Int), .string t, .slice A2 l2 c2], .bool b]) ∧ Nw w.heap.size w' ks A2 l2 c2 ∧ Below w.heap.size w w'
/-- A value that is answered. -/
def QV (B k n : Nat) (t : ByteArray) (ks : List V) (r : Value) (w' : World) : Prop := ∃ A2 l2 c2, r = .agg #[.int .u8 (k : Int), .int .u64 (n : Int), .string t, .slice A2 l2 c2] ∧ Nw B w' ks A2 l2 c2
theorem Off.set4 {X : Nat → Prop} {w w1 : World} (h : Off X w w1) {g : Nat} (hg : w.heap.size ≤ g) (x y z u : Value) : Off X w ((((w1.setCell ⟨g, 0, none⟩ x).setCell ⟨g, 1, none⟩ y).setCell ⟨g, 2, none⟩ z).setCell ⟨g, 3, none⟩ u) :=
  have k : ∀ (v : World) (j : Nat) (q : Value), Off X w v → Off X w (v.setCell ⟨g, j, none⟩ q) := fun v j q hv =>
    ⟨hv.os, hv.tape, hv.output, by simpa using hv.size, fun i hi hx => (Below.heap_setCell v ⟨g, j, none⟩ q i (by simp; omega)).trans (hv.block i hi hx)⟩
  k _ _ _ (k _ _ _ (k _ _ _ (k _ _ _ h)))
/-- How it stands with the fields, at the end. -/
theorem Fld.fin {T : TypeId} {w' : World} {sp' : Bool} (h : Fld T X w g ls A l c sp) (ho : Off (fun i => i = g) w w') (hobj : w'.heap[g]? = some (.cells #[.slice A l c, .bool sp'] T (0, 0))) : Fld T X w' g ls A l c sp' :=
  ⟨hobj, (h.kd.keep fun i hi => ho.block i hi.1 fun e => hi.2 (e ▸ h.mem)).mono fun _ hi => ⟨Nat.lt_of_lt_of_le hi.1 ho.size, hi.2⟩, h.mem⟩
theorem obj_far4 {T : TypeId} {g g0 : Nat} {A : Option Addr} {l c : Nat} {sp : Bool} {w : World} (h : w.heap[g]? = some (.cells #[.slice A l c, .bool sp] T (0, 0))) (hg : g ≠ g0) (x y z u : Value) :
    ((((w.setCell ⟨g0, 0, none⟩ x).setCell ⟨g0, 1, none⟩ y).setCell ⟨g0, 2, none⟩ z).setCell ⟨g0, 3, none⟩ u).heap[g]? = some (.cells #[.slice A l c, .bool sp] T (0, 0)) :=
  have k : ∀ (v : World) (j : Nat) (q : Value), v.heap[g]? = some (.cells #[.slice A l c, .bool sp] T (0, 0)) → (v.setCell ⟨g0, j, none⟩ q).heap[g]? = some (.cells #[.slice A l c, .bool sp] T (0, 0)) := fun v j q hv => (Below.heap_setCell v ⟨g0, j, none⟩ q g hg).trans hv
  k _ _ _ (k _ _ _ (k _ _ _ (k _ _ _ h)))
theorem Box.off {X : Nat → Prop} {w w' : World} {g : Nat} {x0 x1 x2 x3 : Value} (h : Box w g x0 x1 x2 x3) (ho : Off X w w') (hX : ¬ X g) : Box w' g x0 x1 x2 x3 := (ho.block g h.lt hX).trans h

/-- Two boxes of values made one behind the other. -/
theorem boxes2 (w : World) (x0 x1 x2 x3 y0 y1 y2 y3 : Value) : Box ((w.alloc (.cells #[x0, x1, x2, x3] 27)).alloc (.cells #[y0, y1, y2, y3] 27)) w.heap.size x0 x1 x2 x3 ∧ Box ((w.alloc (.cells #[x0, x1, x2, x3] 27)).alloc (.cells #[y0, y1, y2, y3] 27)) (w.heap.size + 1) y0 y1 y2 y3 ∧
    Below w.heap.size w ((w.alloc (.cells #[x0, x1, x2, x3] 27)).alloc (.cells #[y0, y1, y2, y3] 27)) := ⟨(Box.new w _ _ _ _).alloc _, Box.new2 w _ _ _ _ _, two_boxes w _ _⟩

/-- What is kept while a value is asked: the fields, and two boxes. -/
structure SV (X : Nat → Prop) (w wi : World) (g : Nat) (ls : List V) (A : Option Addr) (l c : Nat) (sp : Bool) : Prop where
  fld : Fld 63 X wi g ls A l c sp
  off : Off (fun i => i = g) w wi
  b8 : Box wi w.heap.size (.int .u8 1) (.int .u64 0) (.string ⟨#[]⟩) (.slice none 0 0)
  b10 : Box wi (w.heap.size + 1) (.int .u8 0) (.int .u64 0) (.string ⟨#[]⟩) (.slice none 0 0)
  lt : g < w.heap.size
theorem SV.call {w wi w' : World} {g : Nat} {ls : List V} {A : Option Addr} {l c : Nat} {sp : Bool} (h : SV X w wi g ls A l c sp) (hb : Below wi.heap.size wi w') : SV X w w' g ls A l c sp := ⟨h.fld.call hb, h.off.next hb, h.b8.call hb, h.b10.call hb, h.lt⟩
theorem SV.spoil {w wi : World} {g : Nat} {ls : List V} {A : Option Addr} {l c : Nat} {sp : Bool} (h : SV X w wi g ls A l c sp) : SV X w (wi.setCell ⟨g, 1, none⟩ (.bool true)) g ls A l c true :=
  ⟨h.fld.spoil, h.off.trans (Off.set _ _ _ rfl), h.b8.far (by have := h.lt; simp; omega) _, h.b10.far (by have := h.lt; simp; omega) _, h.lt⟩
theorem SV.all {w wi : World} {g : Nat} {ls : List V} {A : Option Addr} {l c : Nat} {sp : Bool} (h : SV X w wi g ls A l c sp) : wi.cell? ⟨w.heap.size, 0, none⟩ = some (.int .u8 1) ∧ wi.cell? ⟨w.heap.size, 1, none⟩ = some (.int .u64 0) ∧ wi.cell? ⟨w.heap.size, 2, none⟩ = some (.string ⟨#[]⟩) ∧ wi.cell? ⟨w.heap.size, 3, none⟩ = some (.slice none 0 0) ∧
    wi.cell? ⟨w.heap.size + 1, 0, none⟩ = some (.int .u8 0) ∧ wi.cell? ⟨w.heap.size + 1, 1, none⟩ = some (.int .u64 0) ∧ wi.cell? ⟨w.heap.size + 1, 2, none⟩ = some (.string ⟨#[]⟩) ∧ wi.cell? ⟨w.heap.size + 1, 3, none⟩ = some (.slice none 0 0) ∧ ∀ j, wi.frozen? ⟨w.heap.size + 1, j, none⟩ = false := by
  obtain ⟨a0, a1, a2, a3, _⟩ := h.b8.all
  obtain ⟨b0, b1, b2, b3, b4⟩ := h.b10.all
  exact ⟨a0, a1, a2, a3, b0, b1, b2, b3, b4⟩
theorem SV.new (h : Fld 63 X w g ls A l c sp) : SV X w ((w.alloc (.cells #[.int .u8 1, .int .u64 0, .string ⟨#[]⟩, .slice none 0 0] 27)).alloc (.cells #[.int .u8 0, .int .u64 0, .string ⟨#[]⟩, .slice none 0 0] 27)) g ls A l c sp := by
  obtain ⟨b8, b10, hB⟩ := boxes2 w (.int .u8 1) (.int .u64 0) (.string ⟨#[]⟩) (.slice none 0 0) (.int .u8 0) (.int .u64 0) (.string ⟨#[]⟩) (.slice none 0 0)
  exact ⟨h.call hB, Off.of _ hB, b8, b10, h.lt⟩
theorem SV.fin {w wi : World} {g : Nat} {ls : List V} {A : Option Addr} {l c : Nat} {sp sp0 : Bool} {k n : Nat} {t : ByteArray} {ks : List V} {A2 : Option Addr} {l2 c2 : Nat} (h : SV X w wi g ls A l c sp) (h0 : Fld 63 X w g ls A l c sp0) (hN : Nw (w.heap.size + 2) wi ks A2 l2 c2) (x y z u : Value) :
    GivesF 63 X g ls A l c (QV w.heap.size k n t ks) sp w (.returned (.agg #[.int .u8 (k : Int), .int .u64 (n : Int), .string t, .slice A2 l2 c2])) ((((wi.setCell ⟨w.heap.size + 1, 0, none⟩ x).setCell ⟨w.heap.size + 1, 1, none⟩ y).setCell ⟨w.heap.size + 1, 2, none⟩ z).setCell ⟨w.heap.size + 1, 3, none⟩ u) := by
  have ho := Off.set4 h.off (g := w.heap.size + 1) (by omega) x y z u
  exact ⟨_, rfl, ⟨A2, l2, c2, rfl, (hN.far4 (by omega) _ _ _ _).less (by omega)⟩, ho, h0.fin ho (obj_far4 h.fld.obj (by have := h.lt; omega) _ _ _ _)⟩

theorem askV_none (h : Fld 63 X w g ls A l c sp) (i : Int) (must : Bool) (hq : ask ls i = none) (kb : Nat) :
    Calls Tryd.prog 47 #[.pointer (some ⟨g, 0, none⟩), .int .i64 i, .bool must, .agg #[.int .u8 1, .int .u64 0, .string ⟨#[]⟩, .slice none 0 0], .func (.func 48) #[] #[.pointer (some ⟨kb, 0, none⟩)]] w (GivesF 63 X g ls A l c (QV w.heap.size 1 0 ⟨#[]⟩ []) (sp || must) w) := by
  have hS := SV.new h
  have HH := has_any hS.fld i
  rw [hq] at HH
  have HF := Lib.hid h
  have HG := Lib.hid HH
  have HS := Lib.hid hS
  clear hq h HH hS
  cases must with
  | false =>
    rw [Bool.or_false]
    go_enter Tryd.func47, Tryd.ntmps47
    go_wp2_with fail
    refine HG.out.mono ?_
    rintro e w1 ⟨rfl, hb1⟩
    have H1 := Lib.hid (HS.out.call hb1)
    obtain ⟨f0, f1, f2, f3, d0, d1, d2, d3, df⟩ := H1.out.all
    clear hb1
    go_wp2
    refine bodyPost_ret (v := .agg #[.int .u8 1, .int .u64 0, .string ⟨#[]⟩, .slice none 0 0]) (by simp [results, Tryd.results47, go_sem, d0, d1, d2, d3]) rfl ?_
    exact H1.out.fin HF.out (Kids.none_ _ _ _ _ _) _ _ _ _
  | true =>
    rw [Bool.or_true]
    go_enter Tryd.func47, Tryd.ntmps47
    go_wp2_with fail
    refine HG.out.mono ?_
    rintro e w1 ⟨rfl, hb1⟩
    have H1 := Lib.hid (HS.out.call hb1)
    clear hb1
    go_wp2_with fail
    refine (spoil_any H1.out.fld).mono ?_
    rintro e w2 ⟨⟨v, rfl⟩, hw2⟩
    have hS2 := H1.out.spoil
    rw [hw2] at hS2
    have H2 := Lib.hid hS2
    obtain ⟨f0, f1, f2, f3, d0, d1, d2, d3, df⟩ := hS2.all
    clear hw2 hS2
    go_wp2
    refine bodyPost_ret (v := .agg #[.int .u8 1, .int .u64 0, .string ⟨#[]⟩, .slice none 0 0]) (by simp [results, Tryd.results47, go_sem, d0, d1, d2, d3]) rfl ?_
    exact H2.out.fin HF.out (Kids.none_ _ _ _ _ _) _ _ _ _
theorem askV_yes {k n : Nat} {t : ByteArray} {ks : List V} (h : Fld 63 X w g ls A l c sp) (i : Int) (must : Bool) (hq : ask ls i = some (.mk k n t ks)) (kb : Nat)
    (cl : ∀ A' l' c' w', Below w.heap.size w w' → Kd w' ks A' l' c' → k < 256 → n < 18446744073709551616 → Calls Tryd.prog 48 #[.agg #[.int .u8 (k : Int), .int .u64 (n : Int), .string t, .slice A' l' c'], .pointer (some ⟨kb, 0, none⟩)] w' (GivesPV k n t ks true w')) :
    Calls Tryd.prog 47 #[.pointer (some ⟨g, 0, none⟩), .int .i64 i, .bool must, .agg #[.int .u8 1, .int .u64 0, .string ⟨#[]⟩, .slice none 0 0], .func (.func 48) #[] #[.pointer (some ⟨kb, 0, none⟩)]] w (GivesF 63 X g ls A l c (QV w.heap.size k n t ks) sp w) := by
  obtain ⟨j, rfl, hj, hx, _⟩ := ask_some hq
  have hS := SV.new h
  have HH := has_any hS.fld (j : Int)
  rw [hq] at HH
  have hl := h.fkd.len
  have hB := two_boxes w (.cells #[.int .u8 1, .int .u64 0, .string ⟨#[]⟩, .slice none 0 0] 27) (.cells #[.int .u8 0, .int .u64 0, .string ⟨#[]⟩, .slice none 0 0] 27)
  have HF := Lib.hid h
  have HG := Lib.hid HH
  have HS := Lib.hid hS
  have HC := Lib.hid cl
  have HX := Lib.hid hx
  have HB := Lib.hid hB
  clear hq h HH cl hx hS hB
  go_enter Tryd.func47, Tryd.ntmps47
  go_wp2_with fail
  refine HG.out.mono ?_
  rintro e w1 ⟨rfl, hb1⟩
  have H1 := Lib.hid (HS.out.call hb1)
  obtain ⟨a0, a1, _⟩ := H1.out.fld.cells
  obtain ⟨b, o, k', n', t', ks', A', l', c', rfl, hb, hx', e0, e1, e2, e3, hk, hn, hK⟩ := H1.out.fld.fkd.at_ (i := j) (by omega)
  have hv := HX.out.symm.trans hx'
  injection hv with hv
  injection hv with q1 q2 q3 q4
  subst q1; subst q2; subst q3; subst q4
  have HC1 := Lib.hid (HC.out A' l' c' w1 (below_next HB.out hb1) hK hk hn)
  have HSZ := Lib.hid (show w.heap.size + 2 ≤ w1.heap.size by have := hb1.size; simp at this; omega)
  clear HC HG HX hx' hK hb1 hk hn HB
  go_wp2_with fail
  refine HC1.out.mono ?_
  rintro e w2 ⟨A2, l2, c2, rfl, hN2, hb2⟩
  have H2 := Lib.hid (H1.out.call hb2)
  have HN2 := Lib.hid hN2
  clear hN2 hb2 a0 a1 e0 e1 e2 e3 HC1
  have hb3 : Below w2.heap.size w2 (w2.alloc (.cells #[.int .u8 (k : Int), .int .u64 (n : Int), .string t, .slice A2 l2 c2] 27)) := (Below.refl _ _).alloc (Nat.le_refl _) _
  have H3 := Lib.hid (H2.out.call hb3)
  have HN3 := Lib.hid (HN2.out.call hb3)
  obtain ⟨z0, z1, z2, z3, _⟩ := (Box.new w2 (.int .u8 (k : Int)) (.int .u64 (n : Int)) (.string t) (.slice A2 l2 c2)).all
  obtain ⟨f0, f1, f2, f3, d0, d1, d2, d3, df⟩ := H3.out.all
  clear hb3
  go_wp2
  refine bodyPost_ret (v := .agg #[.int .u8 (k : Int), .int .u64 (n : Int), .string t, .slice A2 l2 c2]) (by simp [results, Tryd.results47, go_sem, d0, d1, d2, d3]) rfl ?_
  exact H3.out.fin HF.out (HN3.out.less HSZ.out) _ _ _ _
theorem askV_no {k n : Nat} {t : ByteArray} {ks : List V} (h : Fld 63 X w g ls A l c sp) (i : Int) (must : Bool) (hq : ask ls i = some (.mk k n t ks)) (kb : Nat)
    (cl : ∀ A' l' c' w', Below w.heap.size w w' → Kd w' ks A' l' c' → k < 256 → n < 18446744073709551616 → Calls Tryd.prog 48 #[.agg #[.int .u8 (k : Int), .int .u64 (n : Int), .string t, .slice A' l' c'], .pointer (some ⟨kb, 0, none⟩)] w' (GivesPV k n t ks false w')) :
    Calls Tryd.prog 47 #[.pointer (some ⟨g, 0, none⟩), .int .i64 i, .bool must, .agg #[.int .u8 1, .int .u64 0, .string ⟨#[]⟩, .slice none 0 0], .func (.func 48) #[] #[.pointer (some ⟨kb, 0, none⟩)]] w (GivesF 63 X g ls A l c (QV w.heap.size 1 0 ⟨#[]⟩ []) true w) := by
  obtain ⟨j, rfl, hj, hx, _⟩ := ask_some hq
  have hS := SV.new h
  have HH := has_any hS.fld (j : Int)
  rw [hq] at HH
  have hl := h.fkd.len
  have hB := two_boxes w (.cells #[.int .u8 1, .int .u64 0, .string ⟨#[]⟩, .slice none 0 0] 27) (.cells #[.int .u8 0, .int .u64 0, .string ⟨#[]⟩, .slice none 0 0] 27)
  have HF := Lib.hid h
  have HG := Lib.hid HH
  have HS := Lib.hid hS
  have HC := Lib.hid cl
  have HX := Lib.hid hx
  have HB := Lib.hid hB
  clear hq h HH cl hx hS hB
  go_enter Tryd.func47, Tryd.ntmps47
  go_wp2_with fail
  refine HG.out.mono ?_
  rintro e w1 ⟨rfl, hb1⟩
  have H1 := Lib.hid (HS.out.call hb1)
  obtain ⟨a0, a1, _⟩ := H1.out.fld.cells
  obtain ⟨b, o, k', n', t', ks', A', l', c', rfl, hb, hx', e0, e1, e2, e3, hk, hn, hK⟩ := H1.out.fld.fkd.at_ (i := j) (by omega)
  have hv := HX.out.symm.trans hx'
  injection hv with hv
  injection hv with q1 q2 q3 q4
  subst q1; subst q2; subst q3; subst q4
  have HC1 := Lib.hid (HC.out A' l' c' w1 (below_next HB.out hb1) hK hk hn)
  have HSZ := Lib.hid (show w.heap.size + 2 ≤ w1.heap.size by have := hb1.size; simp at this; omega)
  clear HC HG HX hx' hK hb1 hk hn HB
  go_wp2_with fail
  refine HC1.out.mono ?_
  rintro e w2 ⟨A2, l2, c2, rfl, hN2, hb2⟩
  have H2 := Lib.hid (H1.out.call hb2)
  have HN2 := Lib.hid hN2
  clear hN2 hb2 a0 a1 e0 e1 e2 e3 HC1
  have hb3 : Below w2.heap.size w2 (w2.alloc (.cells #[.int .u8 (k : Int), .int .u64 (n : Int), .string t, .slice A2 l2 c2] 27)) := (Below.refl _ _).alloc (Nat.le_refl _) _
  have H3 := Lib.hid (H2.out.call hb3)
  clear hb3
  go_wp2_with fail
  refine (spoil_any H3.out.fld).mono ?_
  rintro e w4 ⟨⟨v, rfl⟩, hw4⟩
  have hS4 := H3.out.spoil
  rw [hw4] at hS4
  have H4 := Lib.hid hS4
  obtain ⟨f0, f1, f2, f3, d0, d1, d2, d3, df⟩ := hS4.all
  clear hw4 hS4
  go_wp2
  refine bodyPost_ret (v := .agg #[.int .u8 1, .int .u64 0, .string ⟨#[]⟩, .slice none 0 0]) (by simp [results, Tryd.results47, go_sem, d0, d1, d2, d3]) rfl ?_
  exact H4.out.fin HF.out (Kids.none_ _ _ _ _ _) _ _ _ _
end
end Go.Proofs.YtohmnbefokhjpaaDoor.Fl
