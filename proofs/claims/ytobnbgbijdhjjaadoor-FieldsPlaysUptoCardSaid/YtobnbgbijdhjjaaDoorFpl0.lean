/-
  The walk of the statement FieldsPlays: of any value, whatever is asked of its fields, every answer is the document's. Conditions: the table utf.shapes lies as the program's text lays it; values of bulk at most 2^20.
-/
import Derived.Test.YtobnbgbijdhjjaaDoorFdm
import Derived.Test.YtobnbgbijdhjjaaDoorFsa
import Derived.Test.YtobnbgbijdhjjaaDoorOpa
import Derived.Test.YtobnbgbijdhjjaaDoorLrg
import Derived.Deep.RegionHeld3
namespace Go.Proofs.YtobnbgbijdhjjaaDoor.Fl
set_option maxRecDepth 100000
open Go.RowKit Go.Proofs.YtobnbgbijdhjjaaDoor.Utf Go.Proofs.YtobnbgbijdhjjaaDoor.Val V

/- Kids lie in no block that holds no values. -/
mutual
theorem rep_ne {w : World} {P : Nat → Prop} {g : Nat} (hg : ∀ (o : Nat) (x : Int), w.cell? ⟨g, o, none⟩ ≠ some (.int .u8 x)) : ∀ {v : V} {b o : Nat}, RepV false w P v b o → RepV false w (fun i => P i ∧ i ≠ g) v b o
  | .mk _ _ _ ks, _, _, h => by
    obtain ⟨A, l, c, h0, h1, h2, h3, hk, hn, hl, hlc, hr⟩ := h
    refine ⟨A, l, c, h0, h1, h2, h3, hk, hn, hl, hlc, fun h => ?_⟩
    obtain ⟨b', o', e, hP, _, hrow⟩ := hr h
    refine ⟨b', o', e, ⟨hP, ?_⟩, fun h => (by cases h), row_ne hg hrow⟩
    exact row_blk hg (by omega) hrow
theorem row_ne {w : World} {P : Nat → Prop} {g : Nat} (hg : ∀ (o : Nat) (x : Int), w.cell? ⟨g, o, none⟩ ≠ some (.int .u8 x)) : ∀ {ks : List V} {b o : Nat}, RowL false w P ks b o → RowL false w (fun i => P i ∧ i ≠ g) ks b o
  | [], _, _, _ => trivial
  | _ :: _, _, _, h => ⟨rep_ne hg h.1, row_ne hg h.2⟩
theorem row_blk {w : World} {P : Nat → Prop} {g : Nat} (hg : ∀ (o : Nat) (x : Int), w.cell? ⟨g, o, none⟩ ≠ some (.int .u8 x)) : ∀ {ks : List V} {b o : Nat}, 0 < ks.length → RowL false w P ks b o → b ≠ g
  | [], _, _, h, _ => absurd h (by simp)
  | .mk _ _ _ _ :: _, b, o, _, h => by
    obtain ⟨A, l, c, h0, _⟩ := h.1
    intro e
    subst e
    exact hg o _ h0
end
theorem kids_ne {w : World} {P : Nat → Prop} {g : Nat} {ks : List V} {A : Option Addr} {l c : Nat} (hg : ∀ (o : Nat) (x : Int), w.cell? ⟨g, o, none⟩ ≠ some (.int .u8 x)) (h : Go.Proofs.YtobnbgbijdhjjaaDoor.Val.Kids false w P ks A l c) : Go.Proofs.YtobnbgbijdhjjaaDoor.Val.Kids false w (fun i => P i ∧ i ≠ g) ks A l c :=
  ⟨h.1, h.2.1, fun hl => by
    obtain ⟨b', o', e, hP, _, hrow⟩ := h.2.2 hl
    exact ⟨b', o', e, ⟨hP, row_blk hg (by have := h.1; omega) hrow⟩, fun h => (by cases h), row_ne hg hrow⟩⟩
theorem obj_ne {w : World} {g : Nat} {A : Option Addr} {l c : Nat} {sp : Bool} {T : TypeId} (h : w.heap[g]? = some (.cells #[.slice A l c, .bool sp] T (0, 0))) (o : Nat) (x : Int) : w.cell? ⟨g, o, none⟩ ≠ some (.int .u8 x) := by
  intro e
  match o, e with
  | 0, e => rw [cell_of_row w g 0 _ _ _ h] at e; simp at e
  | 1, e => rw [cell_of_row w g 1 _ _ _ h] at e; simp at e
  | o + 2, e => rw [cell_of_row w g (o + 2) _ _ _ h] at e; simp at e
theorem RT.off {B y : Nat} {td : TD} {r : Value} {w w' : World} (h : RT B td r w) (ho : Off (fun i => i = y) w w') (hy : y < B) : RT B td r w' := by
  obtain ⟨k, n, t, ks, A, l, c, As, ns, cs, hv, hk, hn, hr, hN, hS⟩ := h
  refine ⟨k, n, t, ks, A, l, c, As, ns, cs, hv, hk, hn, hr, ?_, ?_⟩
  · exact (Go.Proofs.YtobnbgbijdhjjaaDoor.Val.Kids.keep hN fun i hi => ho.block i hi.2 (by omega)).mono fun i hi => ⟨hi.1, Nat.lt_of_lt_of_le hi.2 ho.size⟩
  · exact hS.keep fun g hg => by have := World.ownsRow.lt hS g hg; exact ho.block g this.2 (by omega)
theorem does_small (ls : List V) (q : AQ) (sp : Bool) : bulk (doesR ls q sp).1.v ≤ bulkL ls + 1 ∧ (doesR ls q sp).1.ts.length ≤ bulkL ls + 1 := by
  have hz : bulk zeroV ≤ bulkL ls + 1 := by show 1 ≤ _; omega
  have hv : bulk (valR ls q.i q.L sp).1 ≤ bulkL ls + 1 := by
    cases ha : ask ls q.i with
    | none => rw [valR_none ha]; show 1 ≤ _; omega
    | some v =>
      cases hk : fitsB q.L v.kind with
      | true => rw [valR_yes ha hk]; have := ask_bulk ha; show bulk v ≤ _; omega
      | false => rw [valR_no ha hk]; show 1 ≤ _; omega
  have hs : (symR ls q.i sp).1.length ≤ bulkL ls + 1 := by
    cases ha : ask ls q.i with
    | none => rw [symR_none ha]; show 0 ≤ _; omega
    | some v =>
      have hb := ask_bulk ha
      have hl : (symOf v).length ≤ bulkL ls + 1 := by
        unfold symOf
        by_cases h : v.kind = 24
        · rw [if_pos h]
          have h1 := length_bulk v.kids
          have h2 := kids_bulk v
          omega
        · rw [if_neg h]; show 1 ≤ _; omega
      cases hk : allSym (symOf v) with
      | true => rw [symR_yes ha hk]; show (texts (symOf v)).length ≤ _; unfold texts; rw [List.length_map]; exact hl
      | false => rw [symR_no ha hk]; show 0 ≤ _; omega
  unfold doesR
  (repeat' split) <;> first | exact ⟨hz, Nat.zero_le _⟩ | exact ⟨hv, Nat.zero_le _⟩ | exact ⟨hz, hs⟩
theorem same7_rt {B B' : Nat} {td : TD} {r r' : Value} {w : World} (h : RT B td r w) (h' : RT B' td r' w) (hb : bulk td.v ≤ 1073741824) (hl : td.ts.length ≤ 1099511627776) : Calls Tryd.prog 14 #[r, r'] w (GivesB true w) := by
  obtain ⟨k, n, t, ks, A, l, c, As, ns, cs, hv, hk, hn, rfl, hN, hS⟩ := h
  obtain ⟨k', n', t', ks', A', l', c', As', ns', cs', hv', _, _, rfl, hN', hS'⟩ := h'
  rw [hv] at hv' hb
  injection hv' with q1 q2 q3 q4
  subst q1; subst q2; subst q3; subst q4
  obtain rfl : ns' = ns := by rw [hS.len, hS'.len]
  exact same7_eq td.n td.s k n t ks A A' l l' c c' As As' ns' cs cs' td.ts td.is td.e w (by simp only [bulk] at hb; omega) (by rw [hS'.len]; exact hl) hk hn hN.kd hN'.kd hS.srr hS'.srr
/-- What is kept while questions are asked of both. -/
structure SL (w wi : World) (g gr : Nat) (ls : List V) (Af : Option Addr) (lf cf : Nat) (Ar : Option Addr) (lr cr : Nat) (spf spr : Bool) (k n : Nat) (t : ByteArray) (ks : List V) (A : Option Addr) (l c : Nat) (g9 : Nat) (A9 : Option Addr) (l9 c9 g0 : Nat) : Prop where
  f : Fld 75 (fun i => i = g ∨ i = gr) wi g ls Af lf cf spf
  r : Fld 48 (fun i => i = g ∨ i = gr) wi gr ls Ar lr cr spr
  b4 : Box wi w.heap.size (.int .u8 (k : Int)) (.int .u64 (n : Int)) (.string t) (.slice A l c)
  b9 : Box wi g9 (.int .u8 (k : Int)) (.int .u64 (n : Int)) (.string t) (.slice A9 l9 c9)
  kd : Go.Proofs.YtobnbgbijdhjjaaDoor.Val.Kids false wi (fun i => i < g0) ks A l c
  kd9 : Go.Proofs.YtobnbgbijdhjjaaDoor.Val.Kids false wi (fun i => i < g0) ks A9 l9 c9
  low : Below w.heap.size w wi
  o1 : w.heap.size < g0
  o2 : g9 < g0
  o3 : g0 ≤ g
  o4 : g < gr
section
variable {w wi w' : World} {g gr : Nat} {ls : List V} {Af : Option Addr} {lf cf : Nat} {Ar : Option Addr} {lr cr : Nat} {spf spr sp' : Bool} {k n : Nat} {t : ByteArray} {ks : List V} {A : Option Addr} {l c : Nat} {g9 : Nat} {A9 : Option Addr} {l9 c9 g0 : Nat}
theorem SL.call (h : SL w wi g gr ls Af lf cf Ar lr cr spf spr k n t ks A l c g9 A9 l9 c9 g0) (hb : Below wi.heap.size wi w') : SL w w' g gr ls Af lf cf Ar lr cr spf spr k n t ks A l c g9 A9 l9 c9 g0 :=
  have hg := h.f.lt
  have h3 := h.o3
  ⟨h.f.call hb, h.r.call hb, h.b4.call hb, h.b9.call hb, h.kd.keep fun i hi => hb.block i (by omega), h.kd9.keep fun i hi => hb.block i (by omega), below_next h.low hb, h.o1, h.o2, h.o3, h.o4⟩
theorem SL.stepf (h : SL w wi g gr ls Af lf cf Ar lr cr spf spr k n t ks A l c g9 A9 l9 c9 g0) (ho : Off (fun i => i = g) wi w') (hF : Fld 75 (fun i => i = g ∨ i = gr) w' g ls Af lf cf sp') : SL w w' g gr ls Af lf cf Ar lr cr sp' spr k n t ks A l c g9 A9 l9 c9 g0 :=
  have hg := h.f.lt
  have h1 := h.o1
  have h2 := h.o2
  have h3 := h.o3
  have h4 := h.o4
  ⟨hF, h.r.off ho (fun i e => .inl e) (by omega), Box.off h.b4 ho (by omega), Box.off h.b9 ho (by omega), h.kd.keep fun i hi => ho.block i (by omega) (by omega), h.kd9.keep fun i hi => ho.block i (by omega) (by omega), h.low.trans (ho.below h.low.size fun i hi e => by omega), h1, h2, h3, h4⟩
theorem SL.stepr (h : SL w wi g gr ls Af lf cf Ar lr cr spf spr k n t ks A l c g9 A9 l9 c9 g0) (ho : Off (fun i => i = gr) wi w') (hF : Fld 48 (fun i => i = g ∨ i = gr) w' gr ls Ar lr cr sp') : SL w w' g gr ls Af lf cf Ar lr cr spf sp' k n t ks A l c g9 A9 l9 c9 g0 :=
  have hg := h.f.lt
  have h1 := h.o1
  have h2 := h.o2
  have h3 := h.o3
  have h4 := h.o4
  ⟨h.f.off ho (fun i e => .inr e) (by omega), hF, Box.off h.b4 ho (by omega), Box.off h.b9 ho (by omega), h.kd.keep fun i hi => ho.block i (by omega) (by omega), h.kd9.keep fun i hi => ho.block i (by omega) (by omega), h.low.trans (ho.below h.low.size fun i hi e => by omega), h1, h2, h3, h4⟩
theorem SL.kdn (h : SL w wi g gr ls Af lf cf Ar lr cr spf spr k n t ks A l c g9 A9 l9 c9 g0) : Kd wi ks A l c := h.kd.mono fun i hi => by have := h.o3; have := h.f.lt; omega
theorem SL.kdn9 (h : SL w wi g gr ls Af lf cf Ar lr cr spf spr k n t ks A l c g9 A9 l9 c9 g0) : Kd wi ks A9 l9 c9 := h.kd9.mono fun i hi => by have := h.o3; have := h.f.lt; omega
end
theorem newR_some' {v : V} {code : Nat} {nm : ByteArray} {ls : List V} (h : newR v code nm = some ls) : ∃ n t d n' t', v = .mk 25 n t [d, .mk 22 n' t' ls] ∧ okB v = true ∧ calledB d code nm = true := by
  unfold newR at h
  by_cases hc : okB v = true ∧ v.kind = 25
  · rw [if_pos hc] at h
    obtain ⟨k, n, t, ks⟩ := v
    obtain ⟨hok, hk⟩ := hc
    have hk : k = 25 := hk
    subst hk
    match ks, h, hok with
    | [d, .mk kb n' t' us], h, hok =>
      simp only [kids] at h
      by_cases hb : calledB d code nm = true ∧ (V.mk kb n' t' us).kind = 22
      · rw [if_pos hb] at h
        obtain ⟨hb1, hb2⟩ := hb
        have hb2 : kb = 22 := hb2
        subst hb2
        injection h with h
        subst h
        exact ⟨n, t, d, n', t', rfl, hok, hb1⟩
      · rw [if_neg hb] at h; cases h
  · rw [if_neg hc] at h; cases h
theorem newR_may' {v : V} {code : Nat} {nm : ByteArray} {ls : List V} (h : newR v code nm = some ls) : mayL ls = true := by
  obtain ⟨n, t, d, n', t', rfl, hok, _⟩ := newR_some' h
  have hm : mayB (.mk 25 n t [d, .mk 22 n' t' ls]) = true := by
    unfold okB at hok
    simp only [Bool.and_eq_true] at hok
    exact hok.2
  have hm2 := may_kids hm
  simp only [mayL, Bool.and_eq_true] at hm2
  exact may_kids hm2.2.1
theorem Fld.weaken {T : TypeId} {X X' : Nat → Prop} {w : World} {g : Nat} {ls : List V} {A : Option Addr} {l c : Nat} {sp : Bool} (h : Fld T X w g ls A l c sp) (hX : ∀ i, X' i → X i) (hm : X' g) : Fld T X' w g ls A l c sp :=
  ⟨h.obj, h.kd.mono fun i hi => ⟨hi.1, fun hx => hi.2 (hX i hx)⟩, hm⟩
theorem fplays_same {k n : Nat} {t : ByteArray} {ks : List V} {A A' : Option Addr} {l l' c c' : Nat} {w : World} (hN : bulkL ks ≤ 1073741824) (hk : k < 256) (hn : n < 18446744073709551616) (h : Kd w ks A l c) (h' : Kd w ks A' l' c') :
    Calls Tryd.prog 19 #[.agg #[.int .u8 (k : Int), .int .u64 (n : Int), .string t, .slice A l c], .agg #[.int .u8 (k : Int), .int .u64 (n : Int), .string t, .slice A' l' c']] w (GivesB true w) := xsame_eq hN hk hn h h'
end Go.Proofs.YtobnbgbijdhjjaaDoor.Fl
