/-
  Contracts of the document's GetCond and Get. Memory that was there stays. Conditions: values of bulk at most 2^20.
  Contract of the document's Get. Memory that was there stays. Conditions: values of bulk at most 2^20.
-/
import Derived.Test.YtobnbgbijdhjjaaDoorFxv
import Derived.Test.YtobnbgbijdhjjaaDoorOch
import Derived.Deep.RegionWith
import Derived.Laws.Concat
namespace Go.Proofs.YtobnbgbijdhjjaaDoor.Oc
set_option maxRecDepth 100000
open Go.RowKit Go.Proofs.YtobnbgbijdhjjaaDoor.Utf Go.Proofs.YtobnbgbijdhjjaaDoor.Val Go.Proofs.YtobnbgbijdhjjaaDoor.Fl V

theorem xnew29 (k n : Nat) (t : ByteArray) (ks : List V) (A : Option Addr) (l c : Nat) (w : World) (hN : bulk (.mk k n t ks) ≤ 1048576) (hn : n < 18446744073709551616) (hK : Kd w ks A l c) :
    Calls Tryd.prog 13 #[.agg #[.int .u8 (k : Int), .int .u64 (n : Int), .string t, .slice A l c], .int .u64 29, .string ⟨#[97, 109, 113, 112, 58, 101, 114, 114, 111, 114, 58, 108, 105, 115, 116]⟩] w (GivesNewX (newR (.mk k n t ks) 29 ename) w) := xnew_any k n t ks A l c 29 ename w hN hn hK
section
variable {X : Nat → Prop} {w : World} {g : Nat} {ls : List V} {A : Option Addr} {l c : Nat} {sp : Bool}
theorem xer_t0 (h : Fld 48 X w g ls A l c false) : Calls Tryd.prog 48 #[.pointer (some ⟨g, 0, none⟩), .int .i64 0, .int .u8 21, .bool true] w (GivesF 48 X g ls A l c (fun r _ => r = .string (oneR ls 0 21 true false ⟨#[]⟩ V.text).1) (oneR ls 0 21 true false ⟨#[]⟩ V.text).2 w) := xftext_any h 0 21 true _ rfl
theorem xer_t1 (h : Fld 48 X w g ls A l c sp) : Calls Tryd.prog 48 #[.pointer (some ⟨g, 0, none⟩), .int .i64 1, .int .u8 20, .bool false] w (GivesF 48 X g ls A l c (fun r _ => r = .string (oneR ls 1 20 false sp ⟨#[]⟩ V.text).1) (oneR ls 1 20 false sp ⟨#[]⟩ V.text).2 w) := xftext_any h 1 20 false _ rfl
theorem xask_map (h : Fld 48 X w g ls A l c sp) {KA : Option Addr} {kc : Nat} (hK : Kinds w KA 1 [23]) (hN : bulkL ls ≤ 1073741824) : Calls Tryd.prog 49 #[.pointer (some ⟨g, 0, none⟩), .int .i64 2, .slice KA 1 kc] w (GivesF 48 X g ls A l c (fun r _ => ∃ x0 x1 x2 x3, r = .agg #[x0, x1, x2, x3]) (valR ls 2 [23] sp).2 w) := by
  obtain ⟨k, n, t, ks, sp', hq⟩ : ∃ k n t ks sp', valR ls 2 [23] sp = (.mk k n t ks, sp') := ⟨_, _, _, _, _, Prod.ext (V.eta _) rfl⟩
  rw [hq]
  refine (xfvalue_any h hK 2 hN hq).mono fun e w' hh => hh.mono fun r hr => ?_
  obtain ⟨A2, l2, c2, rfl, _⟩ := hr
  exact ⟨_, _, _, _, rfl⟩
theorem xer_done (h : Fld 48 X w g ls A l c sp) : Calls Tryd.prog 18 #[.pointer (some ⟨g, 0, none⟩), .int .i64 3] w fun e w' => e = .returned (.int .i64 (doneN ls sp 3)) ∧ w = w' := xdone_any h 3
theorem xrd_u0 (h : Fld 48 X w g ls A l c sp) : Calls Tryd.prog 46 #[.pointer (some ⟨g, 0, none⟩), .int .i64 0, .int .u8 5, .bool true, .int .u64 0] w (GivesF 48 X g ls A l c (fun r _ => r = .int .u64 ((oneR ls 0 5 true sp 0 V.num).1 : Int)) (oneR ls 0 5 true sp 0 V.num).2 w) := xnumber_any h 0 5 true 0 _ rfl
theorem xrd_u1 (h : Fld 48 X w g ls A l c sp) : Calls Tryd.prog 46 #[.pointer (some ⟨g, 0, none⟩), .int .i64 1, .int .u8 6, .bool true, .int .u64 0] w (GivesF 48 X g ls A l c (fun r _ => r = .int .u64 ((oneR ls 1 6 true sp 0 V.num).1 : Int)) (oneR ls 1 6 true sp 0 V.num).2 w) := xnumber_any h 1 6 true 0 _ rfl
theorem xrd_b0 (h : Fld 48 X w g ls A l c sp) : Calls Tryd.prog 46 #[.pointer (some ⟨g, 0, none⟩), .int .i64 0, .int .u8 2, .bool false, .int .u64 0] w (GivesF 48 X g ls A l c (fun r _ => r = .int .u64 ((oneR ls 0 2 false sp 0 V.num).1 : Int)) (oneR ls 0 2 false sp 0 V.num).2 w) := xnumber_any h 0 2 false 0 _ rfl
theorem xrd_b1 (h : Fld 48 X w g ls A l c sp) : Calls Tryd.prog 46 #[.pointer (some ⟨g, 0, none⟩), .int .i64 1, .int .u8 2, .bool false, .int .u64 0] w (GivesF 48 X g ls A l c (fun r _ => r = .int .u64 ((oneR ls 1 2 false sp 0 V.num).1 : Int)) (oneR ls 1 2 false sp 0 V.num).2 w) := xnumber_any h 1 2 false 0 _ rfl
end
/-- What is kept of fields that the document made behind world w. -/
structure WX (w wi : World) (g : Nat) (ls : List V) (A : Option Addr) (l c : Nat) (sp : Bool) : Prop where
  fld : Fld 48 (fun i => g ≤ i) wi g ls A l c sp
  low : Below w.heap.size w wi
  ge : w.heap.size ≤ g
section
variable {w wi w' : World} {g : Nat} {ls : List V} {A : Option Addr} {l c : Nat} {sp sp' : Bool}
theorem WX.call (h : WX w wi g ls A l c sp) (hb : Below wi.heap.size wi w') : WX w w' g ls A l c sp := ⟨h.fld.call hb, below_next h.low hb, h.ge⟩
theorem WX.alloc (h : WX w wi g ls A l c sp) (o : Obj) : WX w (wi.alloc o) g ls A l c sp := h.call ((Below.refl _ _).alloc (Nat.le_refl _) _)
theorem WX.next (h : WX w wi g ls A l c sp) (ho : Off (fun i => i = g) wi w') (hF : Fld 48 (fun i => g ≤ i) w' g ls A l c sp') : WX w w' g ls A l c sp' :=
  ⟨hF, h.low.trans (ho.below h.low.size fun i hi e => by have := h.ge; omega), h.ge⟩
end

set_option maxHeartbeats 1000000 in
theorem xgetcond_any (k n : Nat) (t : ByteArray) (ks : List V) (A : Option Addr) (l c : Nat) (w : World) (hN : bulk (.mk k n t ks) ≤ 1048576) (hn : n < 18446744073709551616) (hK : Kd w ks A l c) :
    Calls Tryd.prog 60 #[.agg #[.int .u8 (k : Int), .int .u64 (n : Int), .string t, .slice A l c]] w (GivesSE (condR (.mk k n t ks)) w) := by
  have hb0 : Below w.heap.size w (w.alloc (.cells #[.int .u8 (k : Int), .int .u64 (n : Int), .string t, .slice A l c] 25)) := (Below.refl _ _).alloc (Nat.le_refl _) _
  have HQ := Lib.hid (xnew29 k n t ks A l c _ hN hn (hK.call hb0))
  have HB := Lib.hid hb0
  have HN := Lib.hid hN
  clear hn hK hN hb0
  by_cases h1 : k = 1
  · subst h1
    rw [cond_null (v := .mk 1 n t ks) rfl]
    go_enter Tryd.func60, Tryd.ntmps60
    go_wp2
    refine bodyPost_ret (v := .tuple #[.string ⟨#[]⟩, .int .i64 0]) (by simp [results, Tryd.results60, go_sem]) rfl ?_
    exact ⟨rfl, HB.out⟩
  · have hd : ((k : Int) == 1) = false := by rw [beq_eq_false_iff_ne]; omega
    cases hnw : newR (.mk k n t ks) 29 ename with
    | none =>
      rw [hnw] at HQ
      rw [cond_none (v := .mk k n t ks) h1 hnw]
      clear h1 hnw
      go_enter Tryd.func60, Tryd.ntmps60
      go_wp2_with fail
      refine HQ.out.mono ?_
      rintro e w1 ⟨rfl, hb1⟩
      have HB1 := Lib.hid (below_next HB.out hb1)
      clear hb1
      go_wp2
      refine bodyPost_ret (v := .tuple #[.string ⟨#[]⟩, .int .i64 6]) (by simp [results, Tryd.results60, go_sem]) rfl ?_
      exact ⟨rfl, HB1.out⟩
    | some ls =>
      rw [hnw] at HQ
      have ho := cond_some (v := .mk k n t ks) h1 hnw
      have HL : Hid (bulkL ls ≤ 1073741824) := Lib.hid (by
        have := HN.out
        obtain ⟨n', t', d, n'', t'', e, _, _⟩ := newR_some hnw
        injection e with _ _ _ e
        subst e
        simp only [bulkL, bulk] at this
        omega)
      clear h1 hnw HN
      obtain ⟨s, hs⟩ : ∃ s, (erR ls).1 = s := ⟨_, rfl⟩
      obtain ⟨sp, hsp⟩ : ∃ sp, (erR ls).2 = sp := ⟨_, rfl⟩
      rw [hs, hsp] at ho
      have HO := Lib.hid ho
      clear ho
      have HS := Lib.hid hs
      have HSP := Lib.hid hsp
      clear hs hsp
      go_enter Tryd.func60, Tryd.ntmps60
      go_wp2_with fail
      refine HQ.out.mono ?_
      rintro e w1 ⟨g, A1, l1, c1, rfl, hg, hF, _, hb1⟩
      have H1 := Lib.hid (WX.mk (w := w) hF (below_next HB.out hb1) (Nat.le_trans HB.out.size hg))
      clear hb1 hF hg HQ
      go_wp2_with fail
      refine (xer_t0 H1.out.fld).mono ?_
      rintro e w2 ⟨r2, rfl, hr2, ho2, hF2⟩
      have H2 := Lib.hid (H1.out.next ho2 hF2)
      obtain rfl : r2 = .string s := hr2.trans (by rw [← HS.out]; rfl)
      clear hr2
      clear ho2 hF2 H1
      go_wp2_with fail
      refine (xer_t1 H2.out.fld).mono ?_
      rintro e w3 ⟨r3, rfl, rfl, ho3, hF3⟩
      have H3 := Lib.hid (H2.out.next ho3 hF3)
      clear ho3 hF3 H2
      go_wp2_with fail
      have H4 := Lib.hid (H3.out.alloc (.cells #[.int .u8 23] 5))
      refine (xask_map H4.out.fld (kinds_map _ _ rfl) HL.out).mono ?_
      rintro e w5 ⟨r5, rfl, ⟨x0, x1, x2, x3, rfl⟩, ho5, hF5⟩
      have h5 := H4.out.next ho5 hF5
      have hsp : (valR ls 2 [23] (oneR ls 1 20 false (oneR ls 0 21 true false ⟨#[]⟩ V.text).2 ⟨#[]⟩ V.text).2).2 = sp := HSP.out
      rw [hsp] at h5
      have H5 := Lib.hid h5
      clear ho5 hF5 H4 H3 h5 hsp
      go_wp2_with fail
      refine (xer_done H5.out.fld).mono ?_
      rintro e w6 ⟨rfl, rfl⟩
      by_cases hd0 : doneN ls sp 3 = 0
      · have HO2 : Hid (condR (.mk k n t ks) = some s) := Lib.hid (by rw [HO.out, if_pos hd0])
        rw [hd0]
        clear hd0
        go_wp2
        refine bodyPost_ret (v := .tuple #[.string s, .int .i64 0]) (by simp [results, Tryd.results60, go_sem]) rfl ?_
        rw [HO2.out]
        exact ⟨rfl, H5.out.low⟩
      · have HO2 : Hid (condR (.mk k n t ks) = none) := Lib.hid (by rw [HO.out, if_neg hd0])
        rw [done_not hd0]
        clear hd0
        go_wp2
        refine bodyPost_ret (v := .tuple #[.string ⟨#[]⟩, .int .i64 6]) (by simp [results, Tryd.results60, go_sem]) rfl ?_
        rw [HO2.out]
        exact ⟨rfl, H5.out.low⟩


end Go.Proofs.YtobnbgbijdhjjaaDoor.Oc

namespace Go.Proofs.YtobnbgbijdhjjaaDoor.Oc
set_option maxRecDepth 100000
open Go.RowKit Go.Proofs.YtobnbgbijdhjjaaDoor.Utf Go.Proofs.YtobnbgbijdhjjaaDoor.Val Go.Proofs.YtobnbgbijdhjjaaDoor.Fl V

/-- The middle of a name. -/
def snm : Nat → ByteArray
  | 1 => ⟨#[114, 101, 99, 101, 105, 118, 101, 100]⟩
  | 2 => ⟨#[97, 99, 99, 101, 112, 116, 101, 100]⟩
  | 3 => ⟨#[114, 101, 106, 101, 99, 116, 101, 100]⟩
  | 4 => ⟨#[114, 101, 108, 101, 97, 115, 101, 100]⟩
  | 5 => ⟨#[109, 111, 100, 105, 102, 105, 101, 100]⟩
  | _ => ⟨#[]⟩
theorem name_eq {j : Nat} (hj : j < 5) : (⟨#[97, 109, 113, 112, 58]⟩ ++ snm (j + 1)) ++ ⟨#[58, 108, 105, 115, 116]⟩ = oname (j + 1) := by
  have hj' : j = 0 ∨ j = 1 ∨ j = 2 ∨ j = 3 ∨ j = 4 := by omega
  rcases hj' with rfl | rfl | rfl | rfl | rfl <;> decide
theorem wr64s {x : Int} (h : 0 ≤ x ∧ x < 9223372036854775808) : IntKind.i64.wrap x = x := by
  simp [IntKind.wrap, IntKind.bits, IntKind.signed]
  omega
theorem wru64s {x : Int} (h : 0 ≤ x ∧ x < 18446744073709551616) : IntKind.u64.wrap x = x := by
  simp [IntKind.wrap, IntKind.bits, IntKind.signed]
  omega
theorem xdone_at {X : Nat → Prop} {w : World} {g : Nat} {ls : List V} {A : Option Addr} {l c : Nat} {sp : Bool} (h : Fld 48 X w g ls A l c sp) (n m : Int) (e : n = m) : Calls Tryd.prog 18 #[.pointer (some ⟨g, 0, none⟩), .int .i64 n] w fun e w' => e = .returned (.int .i64 (doneN ls sp m)) ∧ w = w' := e ▸ xdone_any h n
theorem snm_size {j : Nat} (hj : j < 5) : (snm (j + 1)).size ≤ 8 := by
  have hj' : j = 0 ∨ j = 1 ∨ j = 2 ∨ j = 3 ∨ j = 4 := by omega
  rcases hj' with rfl | rfl | rfl | rfl | rfl <;> decide
theorem name_adds {j : Nat} (hj : j < 5) : ∃ y1, (∀ W, (Op.stringOp .add ⟨#[97, 109, 113, 112, 58]⟩ (snm (j + 1))).run Tryd.prog W = .ok (.string y1) W) ∧ ∀ W, (Op.stringOp .add y1 ⟨#[58, 108, 105, 115, 116]⟩).run Tryd.prog W = .ok (.string (oname (j + 1))) W := by
  have hs := snm_size hj
  refine ⟨⟨#[97, 109, 113, 112, 58]⟩ ++ snm (j + 1), fun W => run_string_add_sum W _ _ (by show 5 + (snm (j + 1)).size ≤ _; omega), fun W => ?_⟩
  rw [run_string_add_sum W _ _ (by rw [ByteArray.size_append]; show 5 + (snm (j + 1)).size + 5 ≤ _; omega), name_eq hj]
/-- The five names in memory. -/
def Nm5 (w : World) (g : Nat) : Prop := w.heap[g]? = some (.cells #[.string ⟨#[114, 101, 99, 101, 105, 118, 101, 100]⟩, .string ⟨#[97, 99, 99, 101, 112, 116, 101, 100]⟩, .string ⟨#[114, 101, 106, 101, 99, 116, 101, 100]⟩, .string ⟨#[114, 101, 108, 101, 97, 115, 101, 100]⟩, .string ⟨#[109, 111, 100, 105, 102, 105, 101, 100]⟩] 9 (0, 0))
theorem Nm5.lt {w : World} {g : Nat} (h : Nm5 w g) : g < w.heap.size := (Array.getElem?_eq_some_iff.1 h).1
theorem Nm5.call {w w' : World} {g : Nat} (h : Nm5 w g) (hb : Below w.heap.size w w') : Nm5 w' g := (hb.block g h.lt).trans h
theorem Nm5.at_ {w : World} {g j : Nat} (h : Nm5 w g) (hj : j < 5) : w.cell? ⟨g, j, none⟩ = some (.string (snm (j + 1))) := by
  have hj' : j = 0 ∨ j = 1 ∨ j = 2 ∨ j = 3 ∨ j = 4 := by omega
  rcases hj' with rfl | rfl | rfl | rfl | rfl
  · exact cell_of_row w g 0 _ _ _ h
  · exact cell_of_row w g 1 _ _ _ h
  · exact cell_of_row w g 2 _ _ _ h
  · exact cell_of_row w g 3 _ _ _ h
  · exact cell_of_row w g 4 _ _ _ h
/-- What is kept while an outcome is got: the value's box, the answer's box, the names. -/
structure SY (w wi : World) (k n : Nat) (t : ByteArray) (A : Option Addr) (l c : Nat) (g : Nat) : Prop where
  b1 : Box wi w.heap.size (.int .u8 (k : Int)) (.int .u64 (n : Int)) (.string t) (.slice A l c)
  b2 : BxO wi (w.heap.size + 1) (.int .u8 0) (.int .u64 0) (.int .u64 0) (.string ⟨#[]⟩)
  nm : Nm5 wi g
  low : Below w.heap.size w wi
section
variable {w wi w' : World} {k n : Nat} {t : ByteArray} {A : Option Addr} {l c : Nat} {g : Nat}
theorem SY.call (h : SY w wi k n t A l c g) (hb : Below wi.heap.size wi w') : SY w w' k n t A l c g := ⟨h.b1.call hb, h.b2.call hb, h.nm.call hb, below_next h.low hb⟩
end
/-- What is kept of the fields, the answer's box and the outcome's box. -/
structure SZ (w wi : World) (g : Nat) (ls : List V) (A : Option Addr) (l c : Nat) (sp : Bool) (g8 : Nat) (x0 x1 x2 x3 : Value) : Prop where
  fld : Fld 48 (fun i => g ≤ i) wi g ls A l c sp
  bx : BxO wi g8 x0 x1 x2 x3
  b2 : BxO wi (w.heap.size + 1) (.int .u8 0) (.int .u64 0) (.int .u64 0) (.string ⟨#[]⟩)
  low : Below w.heap.size w wi
  ge : w.heap.size + 1 < g
  gt : g < g8
section
variable {w wi w' : World} {g : Nat} {ls : List V} {A : Option Addr} {l c : Nat} {sp sp' : Bool} {g8 : Nat} {x0 x1 x2 x3 : Value}
theorem SZ.call (h : SZ w wi g ls A l c sp g8 x0 x1 x2 x3) (hb : Below wi.heap.size wi w') : SZ w w' g ls A l c sp g8 x0 x1 x2 x3 := ⟨h.fld.call hb, h.bx.call hb, h.b2.call hb, below_next h.low hb, h.ge, h.gt⟩
theorem SZ.alloc (h : SZ w wi g ls A l c sp g8 x0 x1 x2 x3) (o : Obj) : SZ w (wi.alloc o) g ls A l c sp g8 x0 x1 x2 x3 := h.call ((Below.refl _ _).alloc (Nat.le_refl _) _)
theorem SZ.next (h : SZ w wi g ls A l c sp g8 x0 x1 x2 x3) (ho : Off (fun i => i = g) wi w') (hF : Fld 48 (fun i => g ≤ i) w' g ls A l c sp') : SZ w w' g ls A l c sp' g8 x0 x1 x2 x3 :=
  have h1 := h.ge
  have h2 := h.gt
  ⟨hF, h.bx.off ho (by omega), h.b2.off ho (by omega), h.low.trans (ho.below h.low.size fun i hi e => by omega), h1, h2⟩
theorem SZ.put (h : SZ w wi g ls A l c sp g8 x0 x1 x2 x3) (j : Nat) (y : Value) {y0 y1 y2 y3 : Value} (hb : BxO (wi.setCell ⟨g8, j, none⟩ y) g8 y0 y1 y2 y3) : SZ w (wi.setCell ⟨g8, j, none⟩ y) g ls A l c sp g8 y0 y1 y2 y3 :=
  have h1 := h.ge
  have h2 := h.gt
  have ho : Off (fun i => i = g8) wi (wi.setCell ⟨g8, j, none⟩ y) := Off.set _ _ _ rfl
  ⟨h.fld.off ho (fun i hi => by omega) (by omega), hb, h.b2.off ho (by omega), h.low.trans (ho.below h.low.size fun i hi e => by have := h.b2.lt; have := h.low.size; omega), h1, h2⟩
theorem SZ.put1 (h : SZ w wi g ls A l c sp g8 x0 x1 x2 x3) (y : Value) : SZ w (wi.setCell ⟨g8, 1, none⟩ y) g ls A l c sp g8 x0 y x2 x3 := h.put 1 y (by
  have := h.bx
  unfold BxO at this ⊢
  simp [World.setCell, Array.getElem?_modify, this])
theorem SZ.put2 (h : SZ w wi g ls A l c sp g8 x0 x1 x2 x3) (y : Value) : SZ w (wi.setCell ⟨g8, 2, none⟩ y) g ls A l c sp g8 x0 x1 y x3 := h.put 2 y (by
  have := h.bx
  unfold BxO at this ⊢
  simp [World.setCell, Array.getElem?_modify, this])
theorem SZ.put3 (h : SZ w wi g ls A l c sp g8 x0 x1 x2 x3) (y : Value) : SZ w (wi.setCell ⟨g8, 3, none⟩ y) g ls A l c sp g8 x0 x1 x2 y := h.put 3 y (by
  have := h.bx
  unfold BxO at this ⊢
  simp [World.setCell, Array.getElem?_modify, this])
theorem SZ.setb (h : SZ w wi g ls A l c sp g8 x0 x1 x2 x3) (b : Bool) : SZ w (wi.setCell ⟨g, 1, none⟩ (.bool b)) g ls A l c b g8 x0 x1 x2 x3 := h.next (Off.set _ _ _ rfl) (h.fld.setb b)
end
theorem one_sp {α : Type} (ls : List V) (i : Int) (kind : Nat) (must sp : Bool) (z : α) (f : V → α) : (oneR ls i kind must sp z f).1 = (oneR ls i kind must false z f).1 ∧ (oneR ls i kind must sp z f).2 = (sp || (oneR ls i kind must false z f).2) := by
  cases ha : Fl.ask ls i with
  | none => rw [oneR_none ha, oneR_none ha]; exact ⟨rfl, by simp⟩
  | some v =>
    by_cases hk : v.kind = kind
    · rw [oneR_yes ha hk, oneR_yes ha hk]; exact ⟨rfl, by simp⟩
    · rw [oneR_no ha hk, oneR_no ha hk]; exact ⟨rfl, by simp⟩
theorem val_sp2 (ls : List V) (i : Int) (L : List Nat) (sp : Bool) : (valR ls i L sp).2 = (sp || (valR ls i L false).2) := by
  cases ha : Fl.ask ls i with
  | none => rw [valR_none ha, valR_none ha]; simp
  | some v =>
    cases hk : fitsB L v.kind with
    | true => rw [valR_yes ha hk, valR_yes ha hk]; simp
    | false => rw [valR_no ha hk, valR_no ha hk]; simp
/-- What modified fields tell, in the document's order. -/
theorem rd5_eq (ls : List V) : rdR 5 ls = (⟨5, (oneR ls 0 2 false false 0 V.num).1, (oneR ls 1 2 false (oneR ls 0 2 false false 0 V.num).2 0 V.num).1, ⟨#[]⟩⟩, (valR ls 2 [23] (oneR ls 1 2 false (oneR ls 0 2 false false 0 V.num).2 0 V.num).2).2) := by
  show ((⟨5, (oneR ls 0 2 false (valR ls 2 [23] false).2 0 V.num).1, (oneR ls 1 2 false (oneR ls 0 2 false (valR ls 2 [23] false).2 0 V.num).2 0 V.num).1, ⟨#[]⟩⟩ : O), (oneR ls 1 2 false (oneR ls 0 2 false (valR ls 2 [23] false).2 0 V.num).2 0 V.num).2) = _
  rw [(one_sp ls 0 2 false (valR ls 2 [23] false).2 0 V.num).1, (one_sp ls 0 2 false (valR ls 2 [23] false).2 0 V.num).2, (one_sp ls 1 2 false ((valR ls 2 [23] false).2 || (oneR ls 0 2 false false 0 V.num).2) 0 V.num).1, (one_sp ls 1 2 false ((valR ls 2 [23] false).2 || (oneR ls 0 2 false false 0 V.num).2) 0 V.num).2,
    (one_sp ls 1 2 false (oneR ls 0 2 false false 0 V.num).2 0 V.num).1, (one_sp ls 1 2 false (oneR ls 0 2 false false 0 V.num).2 0 V.num).2, val_sp2 ls 2 [23] ((oneR ls 0 2 false false 0 V.num).2 || (oneR ls 1 2 false false 0 V.num).2)]
  congr 1
  cases (valR ls 2 [23] false).2 <;> cases (oneR ls 0 2 false false 0 V.num).2 <;> cases (oneR ls 1 2 false false 0 V.num).2 <;> rfl

theorem xask_num {X : Nat → Prop} {w : World} {g : Nat} {ls : List V} {A : Option Addr} {l c : Nat} {sp : Bool} (h : Fld 48 X w g ls A l c sp) {i : Int} {v : V} (ha : Fl.ask ls i = some v) : v.num < 18446744073709551616 := by
  obtain ⟨j, _, hj, hx, _⟩ := ask_some ha
  obtain ⟨b, o, k, n, t, ks, A', l', c', _, _, hx', _, _, _, _, _, hn, _⟩ := h.fkd.at_ (i := j) (by rw [h.fkd.len]; exact hj)
  rw [hx] at hx'
  injection hx' with e
  rw [e]; exact hn
theorem xval_num {X : Nat → Prop} {w : World} {g : Nat} {ls : List V} {A : Option Addr} {l c : Nat} {sp sp' sp0 : Bool} {k n : Nat} {t : ByteArray} {ks : List V} (h : Fld 48 X w g ls A l c sp) (hq : valR ls 0 [] sp0 = (.mk k n t ks, sp')) : n < 18446744073709551616 := by
  cases ha : Fl.ask ls 0 with
  | none =>
    rw [valR_none ha] at hq
    injection hq with e1 e2
    injection e1 with q1 q2 q3 q4
    omega
  | some v =>
    rw [valR_yes ha rfl] at hq
    injection hq with e1 e2
    have := xask_num h ha
    rw [e1] at this
    exact this

set_option maxHeartbeats 8000000 in
theorem xoget_any (k n : Nat) (t : ByteArray) (ks : List V) (A : Option Addr) (l c : Nat) (w : World) (hN : bulk (.mk k n t ks) ≤ 1048576) (hn : n < 18446744073709551616) (hK : Kd w ks A l c) :
    Calls Tryd.prog 24 #[.agg #[.int .u8 (k : Int), .int .u64 (n : Int), .string t, .slice A l c]] w (GivesOE (getR (.mk k n t ks)) w) := by
  have hB : Below w.heap.size w ((w.alloc (.cells #[.int .u8 (k : Int), .int .u64 (n : Int), .string t, .slice A l c] 25)).alloc (.cells #[.int .u8 0, .int .u64 0, .int .u64 0, .string ⟨#[]⟩] 52)) := two_boxes w _ _
  have h1 : Box ((w.alloc (.cells #[.int .u8 (k : Int), .int .u64 (n : Int), .string t, .slice A l c] 25)).alloc (.cells #[.int .u8 0, .int .u64 0, .int .u64 0, .string ⟨#[]⟩] 52)) w.heap.size (.int .u8 (k : Int)) (.int .u64 (n : Int)) (.string t) (.slice A l c) := (Box.new w _ _ _ _).alloc _
  have h2 : BxO ((w.alloc (.cells #[.int .u8 (k : Int), .int .u64 (n : Int), .string t, .slice A l c] 25)).alloc (.cells #[.int .u8 0, .int .u64 0, .int .u64 0, .string ⟨#[]⟩] 52)) (w.heap.size + 1) (.int .u8 0) (.int .u64 0) (.int .u64 0) (.string ⟨#[]⟩) := by
    have := BxO.new (w.alloc (.cells #[.int .u8 (k : Int), .int .u64 (n : Int), .string t, .slice A l c] 25)) (.int .u8 0) (.int .u64 0) (.int .u64 0) (.string ⟨#[]⟩)
    rwa [World.size_alloc] at this
  by_cases hk1 : k = 1
  · have HR := Lib.hid (get_null (v := .mk k n t ks) hk1)
    have HB := Lib.hid hB
    subst hk1
    clear hB h1 h2 hK hN hn
    go_enter Tryd.func24, Tryd.ntmps24
    go_wp2
    refine bodyPost_ret (v := .tuple #[.agg #[.int .u8 0, .int .u64 0, .int .u64 0, .string ⟨#[]⟩], .int .i64 0]) (by simp [results, Tryd.results24, go_sem]) rfl ?_
    rw [HR.out]
    exact ⟨rfl, HB.out⟩
  · have hd : ((k : Int) == 1) = false := by rw [beq_eq_false_iff_ne]; omega
    have hsz : ((w.alloc (.cells #[.int .u8 (k : Int), .int .u64 (n : Int), .string t, .slice A l c] 25)).alloc (.cells #[.int .u8 0, .int .u64 0, .int .u64 0, .string ⟨#[]⟩] 52)).heap.size = w.heap.size + 1 + 1 := by simp
    have hnm : Nm5 (((w.alloc (.cells #[.int .u8 (k : Int), .int .u64 (n : Int), .string t, .slice A l c] 25)).alloc (.cells #[.int .u8 0, .int .u64 0, .int .u64 0, .string ⟨#[]⟩] 52)).alloc (.cells #[.string ⟨#[114, 101, 99, 101, 105, 118, 101, 100]⟩, .string ⟨#[97, 99, 99, 101, 112, 116, 101, 100]⟩, .string ⟨#[114, 101, 106, 101, 99, 116, 101, 100]⟩, .string ⟨#[114, 101, 108, 101, 97, 115, 101, 100]⟩, .string ⟨#[109, 111, 100, 105, 102, 105, 101, 100]⟩] 9)) (w.heap.size + 1 + 1) := by
      have := heap_alloc_new ((w.alloc (.cells #[.int .u8 (k : Int), .int .u64 (n : Int), .string t, .slice A l c] 25)).alloc (.cells #[.int .u8 0, .int .u64 0, .int .u64 0, .string ⟨#[]⟩] 52)) (.cells #[.string ⟨#[114, 101, 99, 101, 105, 118, 101, 100]⟩, .string ⟨#[97, 99, 99, 101, 112, 116, 101, 100]⟩, .string ⟨#[114, 101, 106, 101, 99, 116, 101, 100]⟩, .string ⟨#[114, 101, 108, 101, 97, 115, 101, 100]⟩, .string ⟨#[109, 111, 100, 105, 102, 105, 101, 100]⟩] 9)
      rwa [hsz] at this
    have hG : SY w (((w.alloc (.cells #[.int .u8 (k : Int), .int .u64 (n : Int), .string t, .slice A l c] 25)).alloc (.cells #[.int .u8 0, .int .u64 0, .int .u64 0, .string ⟨#[]⟩] 52)).alloc (.cells #[.string ⟨#[114, 101, 99, 101, 105, 118, 101, 100]⟩, .string ⟨#[97, 99, 99, 101, 112, 116, 101, 100]⟩, .string ⟨#[114, 101, 106, 101, 99, 116, 101, 100]⟩, .string ⟨#[114, 101, 108, 101, 97, 115, 101, 100]⟩, .string ⟨#[109, 111, 100, 105, 102, 105, 101, 100]⟩] 9)) k n t A l c (w.heap.size + 1 + 1) :=
      ⟨h1.alloc _, h2.call ((Below.refl _ _).alloc (Nat.le_refl _) _), hnm, hB.alloc (by omega) _⟩
    obtain ⟨W0, hW0⟩ : ∃ W0, (((w.alloc (.cells #[.int .u8 (k : Int), .int .u64 (n : Int), .string t, .slice A l c] 25)).alloc (.cells #[.int .u8 0, .int .u64 0, .int .u64 0, .string ⟨#[]⟩] 52)).alloc (.cells #[.string ⟨#[114, 101, 99, 101, 105, 118, 101, 100]⟩, .string ⟨#[97, 99, 99, 101, 112, 116, 101, 100]⟩, .string ⟨#[114, 101, 106, 101, 99, 116, 101, 100]⟩, .string ⟨#[114, 101, 108, 101, 97, 115, 101, 100]⟩, .string ⟨#[109, 111, 100, 105, 102, 105, 101, 100]⟩] 9)) = W0 := ⟨_, rfl⟩
    have HG := Lib.hid (hW0 ▸ hG)
    have HNK := Lib.hid (show ¬ (V.mk k n t ks).kind = 1 from hk1)
    have HN := Lib.hid hN
    have HNN := Lib.hid hn
    have HK := Lib.hid hK
    clear hB h1 h2 hsz hN hn hK hk1 hnm hG
    go_enter Tryd.func24, Tryd.ntmps24
    go_wp2_with fail
    clear hW0
    go_loopw [5] (fun s wr => ∃ j : Nat, j ≤ 5 ∧ s = .int .i64 j ∧ firstR (.mk k n t ks) [1, 2, 3, 4, 5] = firstR (.mk k n t ks) (([1, 2, 3, 4, 5] : List Nat).drop j) ∧ SY w wr k n t A l c (w.heap.size + 1 + 1)) (fun s _ => 5 - (intOf s).toNat)
    case atStart => exact ⟨0, by omega, rfl, rfl, HG.out⟩
    case round =>
      obtain ⟨j, hj, rfl, hfi, hS⟩ := hrel
      have HFI := Lib.hid hfi
      have HSS := Lib.hid hS
      clear hfi hS HG
      by_cases hlt : j < 5
      · have hcn := HSS.out.nm.at_ hlt
        have hnlt := HSS.out.nm.lt
        obtain ⟨x0, x1, x2, x3, xf⟩ := HSS.out.b1.all
        obtain ⟨y1, had1, had2⟩ := name_adds hlt
        obtain ⟨sm, hsm⟩ : ∃ sm, snm (j + 1) = sm := ⟨_, rfl⟩
        rw [hsm] at hcn had1
        obtain ⟨nm, hnm⟩ : ∃ nm, oname (j + 1) = nm := ⟨_, rfl⟩
        rw [hnm] at had2
        have HNM := Lib.hid hnm
        clear hsm hnm
        obtain ⟨cd, hcd⟩ : ∃ cd, 34 + (j + 1) = cd := ⟨_, rfl⟩
        have hw1 : IntKind.i64.wrap (35 + (j : Int)) = (cd : Int) := by rw [wr64s (by omega)]; omega
        have hw2 : IntKind.u64.wrap (cd : Int) = (cd : Int) := wru64s (by omega)
        have HCD := Lib.hid hcd
        clear hcd
        have HNW := Lib.hid (xnew_any k n t ks A l c cd nm wr.drew HN.out HNN.out (HK.out.call (HSS.out.call (Below.refl _ _).drew).low))
        cases hnw : newR (.mk k n t ks) cd nm with
        | none =>
          rw [hnw] at HNW
          have HM := Lib.hid (first_miss (v := .mk k n t ks) hlt (by rw [HCD.out, HNM.out]; exact hnw))
          clear hnw
          go_upto_region 7 with fail
          go_region_with (first
            | (go_at_call 13; (with_reducible refine HNW.out.mono ?_); rintro e w3 ⟨rfl, hb3⟩; have HS4 := Lib.hid ((HSS.out.call (Below.refl _ _).drew).call hb3); clear hb3)
            | fail)
          all_goals
            go_wp2
            go_roundw
            case rel => exact ⟨j + 1, by omega, by go_num, HFI.out.trans HM.out, HS4.out⟩
            case measure => simp [intOf]; omega
        | some ls =>
          rw [hnw] at HNW
          have HM := Lib.hid (first_hit (v := .mk k n t ks) hlt (by rw [HCD.out, HNM.out]; exact hnw))
          have HR : Hid (getR (.mk k n t ks) = readO (j + 1) ls) := Lib.hid (get_hit HNK.out (HFI.out.trans HM.out))
          have HL : Hid (bulkL ls ≤ 1048575) := Lib.hid (by
            have := HN.out
            obtain ⟨n', t', d, n'', t'', e, _, _⟩ := newR_some hnw
            injection e with _ _ _ e
            subst e
            simp only [bulkL, bulk] at this
            omega)
          clear hnw
          go_upto_region 7 with fail
          go_region_with (first
            | (go_at_call 13; (with_reducible refine HNW.out.mono ?_); rintro e w3 ⟨g3, A3, l3, c3, rfl, hg3, hF3, hgs, hb3⟩; have HS4 := Lib.hid ((HSS.out.call (Below.refl _ _).drew).call hb3); have HF3 := Lib.hid hF3; have HGS := Lib.hid hgs; have HG3 := Lib.hid (show w.heap.size + 1 < g3 by have := HSS.out.b2.lt; have h2 : wr.heap.size ≤ g3 := hg3; omega); clear hb3 hF3 hgs hg3)
            | fail)
          all_goals
            have hj' : j = 0 ∨ j = 1 ∨ j = 2 ∨ j = 3 ∨ j = 4 := by omega
            clear hw1 hw2 had1 had2 hcn hnlt x0 x1 x2 x3 xf HNW HM HFI
            rcases hj' with rfl | rfl | rfl | rfl | rfl
            · have HZ0 : Hid (SZ w (w3.alloc (.cells #[.int .u8 1, .int .u64 0, .int .u64 0, .string ⟨#[]⟩] 52)) g3 ls A3 l3 c3 false w3.heap.size (.int .u8 1) (.int .u64 0) (.int .u64 0) (.string ⟨#[]⟩)) := Lib.hid ⟨HF3.out.call ((Below.refl _ _).alloc (Nat.le_refl _) _), BxO.new _ _ _ _ _, HS4.out.b2.call ((Below.refl _ _).alloc (Nat.le_refl _) _), HS4.out.low.alloc HS4.out.low.size _, HG3.out, by have := HGS.out; omega⟩
              clear HS4 HF3 HGS HG3
              go_wp2_with fail
              refine (xrd_u0 HZ0.out.fld).mono ?_
              rintro e w5 ⟨r5, rfl, rfl, ho, hF⟩
              obtain ⟨na, hna⟩ : ∃ na, (oneR ls 0 5 true false 0 V.num).1 = na := ⟨_, rfl⟩
              rw [hna]
              have hz := HZ0.out.next ho hF
              have HZ1 := Lib.hid (hz.put1 (.int .u64 (na : Int)))
              obtain ⟨y0, y1, y2, y3, yf⟩ := hz.bx.all
              have Hna := Lib.hid hna
              clear ho hF hz HZ0 hna
              go_wp2_with fail
              refine (xrd_u1 HZ1.out.fld).mono ?_
              rintro e w6 ⟨r6, rfl, rfl, ho, hF⟩
              obtain ⟨nb, hnb⟩ : ∃ nb, (oneR ls 1 6 true (oneR ls 0 5 true false 0 V.num).2 0 V.num).1 = nb := ⟨_, rfl⟩
              rw [hnb]
              have hz := HZ1.out.next ho hF
              have HZ2 := Lib.hid (hz.put2 (.int .u64 (nb : Int)))
              obtain ⟨y0, y1, y2, y3, yf⟩ := hz.bx.all
              have Hnb := Lib.hid hnb
              clear ho hF hz HZ1 hnb
              go_wp2_with fail
              refine (xdone_at HZ2.out.fld 2 2 rfl).mono ?_
              rintro e w9 ⟨rfl, hw9⟩
              subst hw9
              have HRO : Hid (getR (.mk k n t ks) = if doneN ls ((oneR ls 1 6 true (oneR ls 0 5 true false 0 V.num).2 0 V.num).2) 2 = 0 then some ⟨1, na, nb, ⟨#[]⟩⟩ else none) := Lib.hid (by rw [HR.out]; unfold readO; rw [show rdR 1 ls = (⟨1, na, nb, ⟨#[]⟩⟩, (oneR ls 1 6 true (oneR ls 0 5 true false 0 V.num).2 0 V.num).2) from by rw [← Hna.out, ← Hnb.out]; rfl]; rfl)
              obtain ⟨q0, q1, q2, q3, qf⟩ := HZ2.out.b2.all
              obtain ⟨p0, p1, p2, p3, pf⟩ := HZ2.out.bx.all
              by_cases hd0 : doneN ls ((oneR ls 1 6 true (oneR ls 0 5 true false 0 V.num).2 0 V.num).2) 2 = 0
              · have HR2 := Lib.hid (HRO.out.trans (if_pos hd0))
                rw [hd0]
                clear hd0 HRO
                go_wp2
                refine bodyPost_ret (v := .tuple #[.agg #[.int .u8 1, .int .u64 (na : Int), .int .u64 (nb : Int), .string ⟨#[]⟩], .int .i64 0]) (by simp [results, Tryd.results24, go_sem, q0, q1, q2, q3]) rfl ?_
                rw [HR2.out]
                exact ⟨rfl, below_set4 HZ2.out.low (by omega) _ _ _ _⟩
              · have HR2 := Lib.hid (HRO.out.trans (if_neg hd0))
                rw [done_not hd0]
                clear hd0 HRO
                go_wp2
                refine bodyPost_ret (v := .tuple #[.agg #[.int .u8 0, .int .u64 0, .int .u64 0, .string ⟨#[]⟩], .int .i64 6]) (by simp [results, Tryd.results24, go_sem, q0, q1, q2, q3]) rfl ?_
                rw [HR2.out]
                exact ⟨rfl, below_set4 HZ2.out.low (by omega) _ _ _ _⟩
            · have HZ0 : Hid (SZ w (w3.alloc (.cells #[.int .u8 2, .int .u64 0, .int .u64 0, .string ⟨#[]⟩] 52)) g3 ls A3 l3 c3 false w3.heap.size (.int .u8 2) (.int .u64 0) (.int .u64 0) (.string ⟨#[]⟩)) := Lib.hid ⟨HF3.out.call ((Below.refl _ _).alloc (Nat.le_refl _) _), BxO.new _ _ _ _ _, HS4.out.b2.call ((Below.refl _ _).alloc (Nat.le_refl _) _), HS4.out.low.alloc HS4.out.low.size _, HG3.out, by have := HGS.out; omega⟩
              clear HS4 HF3 HGS HG3
              go_wp2_with fail
              refine (xdone_at HZ0.out.fld 0 0 rfl).mono ?_
              rintro e w9 ⟨rfl, hw9⟩
              subst hw9
              have HRO : Hid (getR (.mk k n t ks) = if doneN ls (false) 0 = 0 then some ⟨2, 0, 0, ⟨#[]⟩⟩ else none) := Lib.hid (by rw [HR.out]; unfold readO; rw [show rdR 2 ls = (⟨2, 0, 0, ⟨#[]⟩⟩, false) from rfl]; rfl)
              obtain ⟨q0, q1, q2, q3, qf⟩ := HZ0.out.b2.all
              obtain ⟨p0, p1, p2, p3, pf⟩ := HZ0.out.bx.all
              by_cases hd0 : doneN ls (false) 0 = 0
              · have HR2 := Lib.hid (HRO.out.trans (if_pos hd0))
                rw [hd0]
                clear hd0 HRO
                go_wp2
                refine bodyPost_ret (v := .tuple #[.agg #[.int .u8 2, .int .u64 0, .int .u64 0, .string ⟨#[]⟩], .int .i64 0]) (by simp [results, Tryd.results24, go_sem, q0, q1, q2, q3]) rfl ?_
                rw [HR2.out]
                exact ⟨rfl, below_set4 HZ0.out.low (by omega) _ _ _ _⟩
              · have HR2 := Lib.hid (HRO.out.trans (if_neg hd0))
                rw [done_not hd0]
                clear hd0 HRO
                go_wp2
                refine bodyPost_ret (v := .tuple #[.agg #[.int .u8 0, .int .u64 0, .int .u64 0, .string ⟨#[]⟩], .int .i64 6]) (by simp [results, Tryd.results24, go_sem, q0, q1, q2, q3]) rfl ?_
                rw [HR2.out]
                exact ⟨rfl, below_set4 HZ0.out.low (by omega) _ _ _ _⟩
            · have HZ0 : Hid (SZ w (w3.alloc (.cells #[.int .u8 3, .int .u64 0, .int .u64 0, .string ⟨#[]⟩] 52)) g3 ls A3 l3 c3 false w3.heap.size (.int .u8 3) (.int .u64 0) (.int .u64 0) (.string ⟨#[]⟩)) := Lib.hid ⟨HF3.out.call ((Below.refl _ _).alloc (Nat.le_refl _) _), BxO.new _ _ _ _ _, HS4.out.b2.call ((Below.refl _ _).alloc (Nat.le_refl _) _), HS4.out.low.alloc HS4.out.low.size _, HG3.out, by have := HGS.out; omega⟩
              clear HS4 HF3 HGS HG3
              obtain ⟨vk, vn, vt, vks, sp', hq⟩ : ∃ vk vn vt vks sp', valR ls 0 [] false = (.mk vk vn vt vks, sp') := ⟨_, _, _, _, _, Prod.ext (V.eta _) rfl⟩
              have HBK := Lib.hid (show bulk (.mk vk vn vt vks) ≤ 1048576 by have := val_bulk ls false; rw [hq] at this; have h2 := HL.out; have h3 : bulk (.mk vk vn vt vks) ≤ bulkL ls + 1 := this; omega)
              obtain rfl : sp' = false := by have := valR_all ls false; rw [hq] at this; exact this
              have HVN : Hid (vn < 18446744073709551616) := Lib.hid (xval_num HZ0.out.fld hq)
              have HQ := Lib.hid hq
              clear hq
              go_wp2_with fail
              refine (xfvalue_any HZ0.out.fld (kinds_nil _) 0 (by have := HL.out; omega) HQ.out).mono ?_
              rintro e w4 ⟨r4, rfl, ⟨A4, l4, c4, rfl, hN4⟩, ho, hF⟩
              have HZ1 := Lib.hid (HZ0.out.next ho hF)
              have HGC := Lib.hid (xgetcond_any vk vn vt vks A4 l4 c4 w4 HBK.out HVN.out hN4.kd)
              clear ho hF HZ0 hN4
              cases hc : condR (.mk vk vn vt vks) with
              | some s =>
                rw [hc] at HGC
                have HE := Lib.hid (rd3_some (ls := ls) (c := s) (by rw [HQ.out]; exact hc))
                clear hc
                go_wp2_with fail
                refine HGC.out.mono ?_
                rintro e w5 ⟨rfl, hb5⟩
                have hz := HZ1.out.call hb5
                obtain ⟨y0, y1, y2, y3, yf⟩ := hz.bx.all
                have hz2 := hz.put3 (.string s)
                obtain ⟨f0, f1, ff⟩ := hz.fld.cells
                have hg8 := hz.gt
                have hgne : ¬ g3 = w3.heap.size := by omega
                have hgne' : ¬ w3.heap.size = g3 := by omega
                have HZ2 := Lib.hid (hz2.setb false)
                clear hb5 hz hz2 HZ1
                go_wp2_with fail
                refine (xdone_at HZ2.out.fld 1 1 rfl).mono ?_
                rintro e w9 ⟨rfl, hw9⟩
                subst hw9
                have HRO : Hid (getR (.mk k n t ks) = if doneN ls (false) 1 = 0 then some ⟨3, 0, 0, s⟩ else none) := Lib.hid (by rw [HR.out]; unfold readO; rw [show rdR 3 ls = (⟨3, 0, 0, s⟩, false) from HE.out]; rfl)
                obtain ⟨q0, q1, q2, q3, qf⟩ := HZ2.out.b2.all
                obtain ⟨p0, p1, p2, p3, pf⟩ := HZ2.out.bx.all
                by_cases hd0 : doneN ls (false) 1 = 0
                · have HR2 := Lib.hid (HRO.out.trans (if_pos hd0))
                  rw [hd0]
                  clear hd0 HRO
                  go_wp2
                  refine bodyPost_ret (v := .tuple #[.agg #[.int .u8 3, .int .u64 0, .int .u64 0, .string s], .int .i64 0]) (by simp [results, Tryd.results24, go_sem, q0, q1, q2, q3]) rfl ?_
                  rw [HR2.out]
                  exact ⟨rfl, below_set4 HZ2.out.low (by omega) _ _ _ _⟩
                · have HR2 := Lib.hid (HRO.out.trans (if_neg hd0))
                  rw [done_not hd0]
                  clear hd0 HRO
                  go_wp2
                  refine bodyPost_ret (v := .tuple #[.agg #[.int .u8 0, .int .u64 0, .int .u64 0, .string ⟨#[]⟩], .int .i64 6]) (by simp [results, Tryd.results24, go_sem, q0, q1, q2, q3]) rfl ?_
                  rw [HR2.out]
                  exact ⟨rfl, below_set4 HZ2.out.low (by omega) _ _ _ _⟩
              | none =>
                rw [hc] at HGC
                have HE := Lib.hid (rd3_none (ls := ls) (by rw [HQ.out]; exact hc))
                clear hc
                go_wp2_with fail
                refine HGC.out.mono ?_
                rintro e w5 ⟨rfl, hb5⟩
                have hz := HZ1.out.call hb5
                obtain ⟨y0, y1, y2, y3, yf⟩ := hz.bx.all
                have hz2 := hz.put3 (.string ⟨#[]⟩)
                obtain ⟨f0, f1, ff⟩ := hz.fld.cells
                have hg8 := hz.gt
                have hgne : ¬ g3 = w3.heap.size := by omega
                have hgne' : ¬ w3.heap.size = g3 := by omega
                have HZ2 := Lib.hid (hz2.setb true)
                clear hb5 hz hz2 HZ1
                go_wp2_with fail
                refine (xdone_at HZ2.out.fld 1 1 rfl).mono ?_
                rintro e w9 ⟨rfl, hw9⟩
                subst hw9
                have HRO : Hid (getR (.mk k n t ks) = if doneN ls (true) 1 = 0 then some ⟨3, 0, 0, ⟨#[]⟩⟩ else none) := Lib.hid (by rw [HR.out]; unfold readO; rw [show rdR 3 ls = (⟨3, 0, 0, ⟨#[]⟩⟩, true) from HE.out]; rfl)
                obtain ⟨q0, q1, q2, q3, qf⟩ := HZ2.out.b2.all
                obtain ⟨p0, p1, p2, p3, pf⟩ := HZ2.out.bx.all
                by_cases hd0 : doneN ls (true) 1 = 0
                · have HR2 := Lib.hid (HRO.out.trans (if_pos hd0))
                  rw [hd0]
                  clear hd0 HRO
                  go_wp2
                  refine bodyPost_ret (v := .tuple #[.agg #[.int .u8 3, .int .u64 0, .int .u64 0, .string ⟨#[]⟩], .int .i64 0]) (by simp [results, Tryd.results24, go_sem, q0, q1, q2, q3]) rfl ?_
                  rw [HR2.out]
                  exact ⟨rfl, below_set4 HZ2.out.low (by omega) _ _ _ _⟩
                · have HR2 := Lib.hid (HRO.out.trans (if_neg hd0))
                  rw [done_not hd0]
                  clear hd0 HRO
                  go_wp2
                  refine bodyPost_ret (v := .tuple #[.agg #[.int .u8 0, .int .u64 0, .int .u64 0, .string ⟨#[]⟩], .int .i64 6]) (by simp [results, Tryd.results24, go_sem, q0, q1, q2, q3]) rfl ?_
                  rw [HR2.out]
                  exact ⟨rfl, below_set4 HZ2.out.low (by omega) _ _ _ _⟩
            · have HZ0 : Hid (SZ w (w3.alloc (.cells #[.int .u8 4, .int .u64 0, .int .u64 0, .string ⟨#[]⟩] 52)) g3 ls A3 l3 c3 false w3.heap.size (.int .u8 4) (.int .u64 0) (.int .u64 0) (.string ⟨#[]⟩)) := Lib.hid ⟨HF3.out.call ((Below.refl _ _).alloc (Nat.le_refl _) _), BxO.new _ _ _ _ _, HS4.out.b2.call ((Below.refl _ _).alloc (Nat.le_refl _) _), HS4.out.low.alloc HS4.out.low.size _, HG3.out, by have := HGS.out; omega⟩
              clear HS4 HF3 HGS HG3
              go_wp2_with fail
              refine (xdone_at HZ0.out.fld 0 0 rfl).mono ?_
              rintro e w9 ⟨rfl, hw9⟩
              subst hw9
              have HRO : Hid (getR (.mk k n t ks) = if doneN ls (false) 0 = 0 then some ⟨4, 0, 0, ⟨#[]⟩⟩ else none) := Lib.hid (by rw [HR.out]; unfold readO; rw [show rdR 4 ls = (⟨4, 0, 0, ⟨#[]⟩⟩, false) from rfl]; rfl)
              obtain ⟨q0, q1, q2, q3, qf⟩ := HZ0.out.b2.all
              obtain ⟨p0, p1, p2, p3, pf⟩ := HZ0.out.bx.all
              by_cases hd0 : doneN ls (false) 0 = 0
              · have HR2 := Lib.hid (HRO.out.trans (if_pos hd0))
                rw [hd0]
                clear hd0 HRO
                go_wp2
                refine bodyPost_ret (v := .tuple #[.agg #[.int .u8 4, .int .u64 0, .int .u64 0, .string ⟨#[]⟩], .int .i64 0]) (by simp [results, Tryd.results24, go_sem, q0, q1, q2, q3]) rfl ?_
                rw [HR2.out]
                exact ⟨rfl, below_set4 HZ0.out.low (by omega) _ _ _ _⟩
              · have HR2 := Lib.hid (HRO.out.trans (if_neg hd0))
                rw [done_not hd0]
                clear hd0 HRO
                go_wp2
                refine bodyPost_ret (v := .tuple #[.agg #[.int .u8 0, .int .u64 0, .int .u64 0, .string ⟨#[]⟩], .int .i64 6]) (by simp [results, Tryd.results24, go_sem, q0, q1, q2, q3]) rfl ?_
                rw [HR2.out]
                exact ⟨rfl, below_set4 HZ0.out.low (by omega) _ _ _ _⟩
            · have HZ0 : Hid (SZ w (w3.alloc (.cells #[.int .u8 5, .int .u64 0, .int .u64 0, .string ⟨#[]⟩] 52)) g3 ls A3 l3 c3 false w3.heap.size (.int .u8 5) (.int .u64 0) (.int .u64 0) (.string ⟨#[]⟩)) := Lib.hid ⟨HF3.out.call ((Below.refl _ _).alloc (Nat.le_refl _) _), BxO.new _ _ _ _ _, HS4.out.b2.call ((Below.refl _ _).alloc (Nat.le_refl _) _), HS4.out.low.alloc HS4.out.low.size _, HG3.out, by have := HGS.out; omega⟩
              clear HS4 HF3 HGS HG3
              go_wp2_with fail
              refine (xrd_b0 HZ0.out.fld).mono ?_
              rintro e w5 ⟨r5, rfl, rfl, ho, hF⟩
              obtain ⟨na, hna⟩ : ∃ na, (oneR ls 0 2 false false 0 V.num).1 = na := ⟨_, rfl⟩
              rw [hna]
              have hz := HZ0.out.next ho hF
              have HZ1 := Lib.hid (hz.put1 (.int .u64 (na : Int)))
              obtain ⟨y0, y1, y2, y3, yf⟩ := hz.bx.all
              have Hna := Lib.hid hna
              clear ho hF hz HZ0 hna
              go_wp2_with fail
              refine (xrd_b1 HZ1.out.fld).mono ?_
              rintro e w6 ⟨r6, rfl, rfl, ho, hF⟩
              obtain ⟨nb, hnb⟩ : ∃ nb, (oneR ls 1 2 false (oneR ls 0 2 false false 0 V.num).2 0 V.num).1 = nb := ⟨_, rfl⟩
              rw [hnb]
              have hz := HZ1.out.next ho hF
              have HZ2 := Lib.hid (hz.put2 (.int .u64 (nb : Int)))
              obtain ⟨y0, y1, y2, y3, yf⟩ := hz.bx.all
              have Hnb := Lib.hid hnb
              clear ho hF hz HZ1 hnb
              go_wp2_with fail
              have HZ3 := Lib.hid (HZ2.out.alloc (.cells #[.int .u8 23] 5))
              refine (xask_map HZ3.out.fld (kinds_map _ _ (by simp)) (by have := HL.out; omega)).mono ?_
              rintro e w7 ⟨r7, rfl, ⟨z0, z1, z2, z3, rfl⟩, ho, hF⟩
              have HZ4 := Lib.hid (HZ3.out.next ho hF)
              clear ho hF HZ3 HZ2 y0 y1 y2 y3 yf
              go_wp2_with fail
              refine (xdone_at HZ4.out.fld 3 3 rfl).mono ?_
              rintro e w9 ⟨rfl, hw9⟩
              subst hw9
              have HRO : Hid (getR (.mk k n t ks) = if doneN ls ((valR ls 2 [23] (oneR ls 1 2 false (oneR ls 0 2 false false 0 V.num).2 0 V.num).2).2) 3 = 0 then some ⟨5, na, nb, ⟨#[]⟩⟩ else none) := Lib.hid (by rw [HR.out]; unfold readO; rw [show rdR 5 ls = (⟨5, na, nb, ⟨#[]⟩⟩, (valR ls 2 [23] (oneR ls 1 2 false (oneR ls 0 2 false false 0 V.num).2 0 V.num).2).2) from by rw [rd5_eq, ← Hna.out, ← Hnb.out]]; rfl)
              obtain ⟨q0, q1, q2, q3, qf⟩ := HZ4.out.b2.all
              obtain ⟨p0, p1, p2, p3, pf⟩ := HZ4.out.bx.all
              by_cases hd0 : doneN ls ((valR ls 2 [23] (oneR ls 1 2 false (oneR ls 0 2 false false 0 V.num).2 0 V.num).2).2) 3 = 0
              · have HR2 := Lib.hid (HRO.out.trans (if_pos hd0))
                rw [hd0]
                clear hd0 HRO
                go_wp2
                refine bodyPost_ret (v := .tuple #[.agg #[.int .u8 5, .int .u64 (na : Int), .int .u64 (nb : Int), .string ⟨#[]⟩], .int .i64 0]) (by simp [results, Tryd.results24, go_sem, q0, q1, q2, q3]) rfl ?_
                rw [HR2.out]
                exact ⟨rfl, below_set4 HZ4.out.low (by omega) _ _ _ _⟩
              · have HR2 := Lib.hid (HRO.out.trans (if_neg hd0))
                rw [done_not hd0]
                clear hd0 HRO
                go_wp2
                refine bodyPost_ret (v := .tuple #[.agg #[.int .u8 0, .int .u64 0, .int .u64 0, .string ⟨#[]⟩], .int .i64 6]) (by simp [results, Tryd.results24, go_sem, q0, q1, q2, q3]) rfl ?_
                rw [HR2.out]
                exact ⟨rfl, below_set4 HZ4.out.low (by omega) _ _ _ _⟩
      · have HR2 : Hid (getR (.mk k n t ks) = none) := Lib.hid (by
          refine get_miss HNK.out (HFI.out.trans ?_)
          rw [show j = 5 by omega]; rfl)
        obtain ⟨q0, q1, q2, q3, qf⟩ := HSS.out.b2.all
        go_wp2
        refine bodyPost_ret (v := .tuple #[.agg #[.int .u8 0, .int .u64 0, .int .u64 0, .string ⟨#[]⟩], .int .i64 6]) (by simp [results, Tryd.results24, go_sem, q0, q1, q2, q3]) rfl ?_
        rw [HR2.out]
        exact ⟨rfl, below_set4 HSS.out.low (by omega) _ _ _ _⟩
end Go.Proofs.YtobnbgbijdhjjaaDoor.Oc
