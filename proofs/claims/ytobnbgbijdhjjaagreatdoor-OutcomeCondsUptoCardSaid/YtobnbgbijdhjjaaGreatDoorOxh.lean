/-
  Contracts of the document's GetCond and Get. Memory that was there stays. Conditions: values of bulk at most 2^20.
  Contract of the document's Get. Memory that was there stays. Conditions: values of bulk at most 2^20.
-/
import Derived.Test.YtobnbgbijdhjjaaGreatDoorFxv
import Derived.Test.YtobnbgbijdhjjaaGreatDoorOch
import Derived.Deep.RegionWith
import Derived.Laws.Concat
namespace Go.Proofs.YtobnbgbijdhjjaaGreatDoor.Oc
set_option maxRecDepth 100000
open Go.RowKit Go.Proofs.YtobnbgbijdhjjaaGreatDoor.Utf Go.Proofs.YtobnbgbijdhjjaaGreatDoor.Val Go.Proofs.YtobnbgbijdhjjaaGreatDoor.Fl V

theorem xnew29 (k n : Nat) (t : ByteArray) (ks : List V) (A : Option Addr) (l c : Nat) (w : World) (hN : bulk (.mk k n t ks) ≤ 1048576) (hn : n < 18446744073709551616) (hK : Kd w ks A l c) :
    Calls Tryz.prog 27 #[.agg #[.int .u8 (k : Int), .int .u64 (n : Int), .string t, .slice A l c], .int .u64 29, .string ⟨#[97, 109, 113, 112, 58, 101, 114, 114, 111, 114, 58, 108, 105, 115, 116]⟩] w (GivesNewX (newR (.mk k n t ks) 29 ename) w) := xnew_any k n t ks A l c 29 ename w hN hn hK
section
variable {X : Nat → Prop} {w : World} {g : Nat} {ls : List V} {A : Option Addr} {l c : Nat} {sp : Bool}
theorem xer_t0 (h : Fld 78 X w g ls A l c false) : Calls Tryz.prog 28 #[.pointer (some ⟨g, 0, none⟩), .int .i64 0, .int .u8 21, .bool true] w (GivesF 78 X g ls A l c (fun r _ => r = .string (oneR ls 0 21 true false ⟨#[]⟩ V.text).1) (oneR ls 0 21 true false ⟨#[]⟩ V.text).2 w) := xftext_any h 0 21 true _ rfl
theorem xer_t1 (h : Fld 78 X w g ls A l c sp) : Calls Tryz.prog 28 #[.pointer (some ⟨g, 0, none⟩), .int .i64 1, .int .u8 20, .bool false] w (GivesF 78 X g ls A l c (fun r _ => r = .string (oneR ls 1 20 false sp ⟨#[]⟩ V.text).1) (oneR ls 1 20 false sp ⟨#[]⟩ V.text).2 w) := xftext_any h 1 20 false _ rfl
theorem xask_map (h : Fld 78 X w g ls A l c sp) {KA : Option Addr} {kc : Nat} (hK : Kinds w KA 1 [23]) (hN : bulkL ls ≤ 1073741824) : Calls Tryz.prog 29 #[.pointer (some ⟨g, 0, none⟩), .int .i64 2, .slice KA 1 kc] w (GivesF 78 X g ls A l c (fun r _ => ∃ x0 x1 x2 x3, r = .agg #[x0, x1, x2, x3]) (valR ls 2 [23] sp).2 w) := by
  obtain ⟨k, n, t, ks, sp', hq⟩ : ∃ k n t ks sp', valR ls 2 [23] sp = (.mk k n t ks, sp') := ⟨_, _, _, _, _, Prod.ext (V.eta _) rfl⟩
  rw [hq]
  refine (xfvalue_any h hK 2 hN hq).mono fun e w' hh => hh.mono fun r hr => ?_
  obtain ⟨A2, l2, c2, rfl, _⟩ := hr
  exact ⟨_, _, _, _, rfl⟩
theorem xer_done (h : Fld 78 X w g ls A l c sp) : Calls Tryz.prog 30 #[.pointer (some ⟨g, 0, none⟩), .int .i64 3] w fun e w' => e = .returned (.int .i64 (doneN ls sp 3)) ∧ w = w' := xdone_any h 3
end
/-- What is kept of fields that the document made behind world w. -/
structure WX (w wi : World) (g : Nat) (ls : List V) (A : Option Addr) (l c : Nat) (sp : Bool) : Prop where
  fld : Fld 78 (fun i => g ≤ i) wi g ls A l c sp
  low : Below w.heap.size w wi
  ge : w.heap.size ≤ g
section
variable {w wi w' : World} {g : Nat} {ls : List V} {A : Option Addr} {l c : Nat} {sp sp' : Bool}
theorem WX.call (h : WX w wi g ls A l c sp) (hb : Below wi.heap.size wi w') : WX w w' g ls A l c sp := ⟨h.fld.call hb, below_next h.low hb, h.ge⟩
theorem WX.alloc (h : WX w wi g ls A l c sp) (o : Obj) : WX w (wi.alloc o) g ls A l c sp := h.call ((Below.refl _ _).alloc (Nat.le_refl _) _)
theorem WX.next (h : WX w wi g ls A l c sp) (ho : Off (fun i => i = g) wi w') (hF : Fld 78 (fun i => g ≤ i) w' g ls A l c sp') : WX w w' g ls A l c sp' :=
  ⟨hF, h.low.trans (ho.below h.low.size fun i hi e => by have := h.ge; omega), h.ge⟩
end

set_option maxHeartbeats 1000000 in
theorem xgetcond_any (k n : Nat) (t : ByteArray) (ks : List V) (A : Option Addr) (l c : Nat) (w : World) (hN : bulk (.mk k n t ks) ≤ 1048576) (hn : n < 18446744073709551616) (hK : Kd w ks A l c) :
    Calls Tryz.prog 9 #[.agg #[.int .u8 (k : Int), .int .u64 (n : Int), .string t, .slice A l c]] w (GivesSE (condR (.mk k n t ks)) w) := by
  have hb0 : Below w.heap.size w (w.alloc (.cells #[.int .u8 (k : Int), .int .u64 (n : Int), .string t, .slice A l c] 25)) := (Below.refl _ _).alloc (Nat.le_refl _) _
  have HQ := Lib.hid (xnew29 k n t ks A l c _ hN hn (hK.call hb0))
  have HB := Lib.hid hb0
  have HN := Lib.hid hN
  clear hn hK hN hb0
  by_cases h1 : k = 1
  · subst h1
    rw [cond_null (v := .mk 1 n t ks) rfl]
    go_enter Tryz.func9, Tryz.ntmps9
    go_wp2
    refine bodyPost_ret (v := .tuple #[.string ⟨#[]⟩, .int .i64 0]) (by simp [results, Tryz.results9, go_sem]) rfl ?_
    exact ⟨rfl, HB.out⟩
  · have hd : ((k : Int) == 1) = false := by rw [beq_eq_false_iff_ne]; omega
    cases hnw : newR (.mk k n t ks) 29 ename with
    | none =>
      rw [hnw] at HQ
      rw [cond_none (v := .mk k n t ks) h1 hnw]
      clear h1 hnw
      go_enter Tryz.func9, Tryz.ntmps9
      go_wp2_with fail
      refine HQ.out.mono ?_
      rintro e w1 ⟨rfl, hb1⟩
      have HB1 := Lib.hid (below_next HB.out hb1)
      clear hb1
      go_wp2
      refine bodyPost_ret (v := .tuple #[.string ⟨#[]⟩, .int .i64 6]) (by simp [results, Tryz.results9, go_sem]) rfl ?_
      exact ⟨rfl, HB1.out⟩
    | some ls =>
      rw [hnw] at HQ
      have ho := cond_some (v := .mk k n t ks) h1 hnw
      have HL : Hid (bulkL ls ≤ 1073741824) := Lib.hid (by
        have := HN.out
        obtain ⟨n', t', d, n'', t'', e, _, _⟩ := newR_some hnw
        injection e with _ _ _ e
        subst e
        simp only [bulkL, bulk] at this
        omega)
      clear h1 hnw HN
      obtain ⟨s, hs⟩ : ∃ s, (erR ls).1 = s := ⟨_, rfl⟩
      obtain ⟨sp, hsp⟩ : ∃ sp, (erR ls).2 = sp := ⟨_, rfl⟩
      rw [hs, hsp] at ho
      have HO := Lib.hid ho
      clear ho
      have HS := Lib.hid hs
      have HSP := Lib.hid hsp
      clear hs hsp
      go_enter Tryz.func9, Tryz.ntmps9
      go_wp2_with fail
      refine HQ.out.mono ?_
      rintro e w1 ⟨g, A1, l1, c1, rfl, hg, hF, _, hb1⟩
      have H1 := Lib.hid (WX.mk (w := w) hF (below_next HB.out hb1) (Nat.le_trans HB.out.size hg))
      clear hb1 hF hg HQ
      go_wp2_with fail
      refine (xer_t0 H1.out.fld).mono ?_
      rintro e w2 ⟨r2, rfl, hr2, ho2, hF2⟩
      have H2 := Lib.hid (H1.out.next ho2 hF2)
      obtain rfl : r2 = .string s := hr2.trans (by rw [← HS.out]; rfl)
      clear hr2
      clear ho2 hF2 H1
      go_wp2_with fail
      refine (xer_t1 H2.out.fld).mono ?_
      rintro e w3 ⟨r3, rfl, rfl, ho3, hF3⟩
      have H3 := Lib.hid (H2.out.next ho3 hF3)
      clear ho3 hF3 H2
      go_wp2_with fail
      have H4 := Lib.hid (H3.out.alloc (.cells #[.int .u8 23] 5))
      refine (xask_map H4.out.fld (kinds_map _ _ rfl) HL.out).mono ?_
      rintro e w5 ⟨r5, rfl, ⟨x0, x1, x2, x3, rfl⟩, ho5, hF5⟩
      have h5 := H4.out.next ho5 hF5
      have hsp : (valR ls 2 [23] (oneR ls 1 20 false (oneR ls 0 21 true false ⟨#[]⟩ V.text).2 ⟨#[]⟩ V.text).2).2 = sp := HSP.out
      rw [hsp] at h5
      have H5 := Lib.hid h5
      clear ho5 hF5 H4 H3 h5 hsp
      go_wp2_with fail
      refine (xer_done H5.out.fld).mono ?_
      rintro e w6 ⟨rfl, rfl⟩
      by_cases hd0 : doneN ls sp 3 = 0
      · have HO2 : Hid (condR (.mk k n t ks) = some s) := Lib.hid (by rw [HO.out, if_pos hd0])
        rw [hd0]
        clear hd0
        go_wp2
        refine bodyPost_ret (v := .tuple #[.string s, .int .i64 0]) (by simp [results, Tryz.results9, go_sem]) rfl ?_
        rw [HO2.out]
        exact ⟨rfl, H5.out.low⟩
      · have HO2 : Hid (condR (.mk k n t ks) = none) := Lib.hid (by rw [HO.out, if_neg hd0])
        rw [done_not hd0]
        clear hd0
        go_wp2
        refine bodyPost_ret (v := .tuple #[.string ⟨#[]⟩, .int .i64 6]) (by simp [results, Tryz.results9, go_sem]) rfl ?_
        rw [HO2.out]
        exact ⟨rfl, H5.out.low⟩


end Go.Proofs.YtobnbgbijdhjjaaGreatDoor.Oc

namespace Go.Proofs.YtobnbgbijdhjjaaGreatDoor.Oc
set_option maxRecDepth 100000
open Go.RowKit Go.Proofs.YtobnbgbijdhjjaaGreatDoor.Utf Go.Proofs.YtobnbgbijdhjjaaGreatDoor.Val Go.Proofs.YtobnbgbijdhjjaaGreatDoor.Fl V

/-- The middle of a name. -/
def snm : Nat → ByteArray
  | 1 => ⟨#[114, 101, 99, 101, 105, 118, 101, 100]⟩
  | 2 => ⟨#[97, 99, 99, 101, 112, 116, 101, 100]⟩
  | 3 => ⟨#[114, 101, 106, 101, 99, 116, 101, 100]⟩
  | 4 => ⟨#[114, 101, 108, 101, 97, 115, 101, 100]⟩
  | 5 => ⟨#[109, 111, 100, 105, 102, 105, 101, 100]⟩
  | _ => ⟨#[]⟩
theorem name_eq {j : Nat} (hj : j < 5) : (⟨#[97, 109, 113, 112, 58]⟩ ++ snm (j + 1)) ++ ⟨#[58, 108, 105, 115, 116]⟩ = oname (j + 1) := by
  have hj' : j = 0 ∨ j = 1 ∨ j = 2 ∨ j = 3 ∨ j = 4 := by omega
  rcases hj' with rfl | rfl | rfl | rfl | rfl <;> decide
theorem wr64s {x : Int} (h : 0 ≤ x ∧ x < 9223372036854775808) : IntKind.i64.wrap x = x := by
  simp [IntKind.wrap, IntKind.bits, IntKind.signed]
  omega
theorem wru64s {x : Int} (h : 0 ≤ x ∧ x < 18446744073709551616) : IntKind.u64.wrap x = x := by
  simp [IntKind.wrap, IntKind.bits, IntKind.signed]
  omega
theorem xdone_at {X : Nat → Prop} {w : World} {g : Nat} {ls : List V} {A : Option Addr} {l c : Nat} {sp : Bool} (h : Fld 78 X w g ls A l c sp) (n m : Int) (e : n = m) : Calls Tryz.prog 30 #[.pointer (some ⟨g, 0, none⟩), .int .i64 n] w fun e w' => e = .returned (.int .i64 (doneN ls sp m)) ∧ w = w' := e ▸ xdone_any h n
theorem snm_size {j : Nat} (hj : j < 5) : (snm (j + 1)).size ≤ 8 := by
  have hj' : j = 0 ∨ j = 1 ∨ j = 2 ∨ j = 3 ∨ j = 4 := by omega
  rcases hj' with rfl | rfl | rfl | rfl | rfl <;> decide
theorem name_adds {j : Nat} (hj : j < 5) : ∃ y1, (∀ W, (Op.stringOp .add ⟨#[97, 109, 113, 112, 58]⟩ (snm (j + 1))).run Tryz.prog W = .ok (.string y1) W) ∧ ∀ W, (Op.stringOp .add y1 ⟨#[58, 108, 105, 115, 116]⟩).run Tryz.prog W = .ok (.string (oname (j + 1))) W := by
  have hs := snm_size hj
  refine ⟨⟨#[97, 109, 113, 112, 58]⟩ ++ snm (j + 1), fun W => run_string_add_sum W _ _ (by show 5 + (snm (j + 1)).size ≤ _; omega), fun W => ?_⟩
  rw [run_string_add_sum W _ _ (by rw [ByteArray.size_append]; show 5 + (snm (j + 1)).size + 5 ≤ _; omega), name_eq hj]
/-- The five names in memory. -/
def Nm5 (w : World) (g : Nat) : Prop := w.heap[g]? = some (.cells #[.string ⟨#[114, 101, 99, 101, 105, 118, 101, 100]⟩, .string ⟨#[97, 99, 99, 101, 112, 116, 101, 100]⟩, .string ⟨#[114, 101, 106, 101, 99, 116, 101, 100]⟩, .string ⟨#[114, 101, 108, 101, 97, 115, 101, 100]⟩, .string ⟨#[109, 111, 100, 105, 102, 105, 101, 100]⟩] 9 (0, 0))
theorem Nm5.lt {w : World} {g : Nat} (h : Nm5 w g) : g < w.heap.size := (Array.getElem?_eq_some_iff.1 h).1
theorem Nm5.call {w w' : World} {g : Nat} (h : Nm5 w g) (hb : Below w.heap.size w w') : Nm5 w' g := (hb.block g h.lt).trans h
theorem Nm5.at_ {w : World} {g j : Nat} (h : Nm5 w g) (hj : j < 5) : w.cell? ⟨g, j, none⟩ = some (.string (snm (j + 1))) := by
  have hj' : j = 0 ∨ j = 1 ∨ j = 2 ∨ j = 3 ∨ j = 4 := by omega
  rcases hj' with rfl | rfl | rfl | rfl | rfl
  · exact cell_of_row w g 0 _ _ _ h
  · exact cell_of_row w g 1 _ _ _ h
  · exact cell_of_row w g 2 _ _ _ h
  · exact cell_of_row w g 3 _ _ _ h
  · exact cell_of_row w g 4 _ _ _ h
/-- What is kept while an outcome is got: the value's box, the answer's box, the names. -/
structure SY (w wi : World) (k n : Nat) (t : ByteArray) (A : Option Addr) (l c : Nat) (g : Nat) : Prop where
  b1 : Box wi w.heap.size (.int .u8 (k : Int)) (.int .u64 (n : Int)) (.string t) (.slice A l c)
  b2 : BxO wi (w.heap.size + 1) (.int .u8 0) (.int .u64 0) (.int .u64 0) (.string ⟨#[]⟩)
  nm : Nm5 wi g
  low : Below w.heap.size w wi
section
variable {w wi w' : World} {k n : Nat} {t : ByteArray} {A : Option Addr} {l c : Nat} {g : Nat}
theorem SY.call (h : SY w wi k n t A l c g) (hb : Below wi.heap.size wi w') : SY w w' k n t A l c g := ⟨h.b1.call hb, h.b2.call hb, h.nm.call hb, below_next h.low hb⟩
end
/-- What is kept of the fields, the answer's box and the outcome's box. -/
structure SZ (w wi : World) (g : Nat) (ls : List V) (A : Option Addr) (l c : Nat) (sp : Bool) (g8 : Nat) (x0 x1 x2 x3 : Value) : Prop where
  fld : Fld 78 (fun i => g ≤ i) wi g ls A l c sp
  bx : BxO wi g8 x0 x1 x2 x3
  b2 : BxO wi (w.heap.size + 1) (.int .u8 0) (.int .u64 0) (.int .u64 0) (.string ⟨#[]⟩)
  low : Below w.heap.size w wi
  ge : w.heap.size + 1 < g
  gt : g < g8
section
variable {w wi w' : World} {g : Nat} {ls : List V} {A : Option Addr} {l c : Nat} {sp sp' : Bool} {g8 : Nat} {x0 x1 x2 x3 : Value}
theorem SZ.call (h : SZ w wi g ls A l c sp g8 x0 x1 x2 x3) (hb : Below wi.heap.size wi w') : SZ w w' g ls A l c sp g8 x0 x1 x2 x3 := ⟨h.fld.call hb, h.bx.call hb, h.b2.call hb, below_next h.low hb, h.ge, h.gt⟩
theorem SZ.alloc (h : SZ w wi g ls A l c sp g8 x0 x1 x2 x3) (o : Obj) : SZ w (wi.alloc o) g ls A l c sp g8 x0 x1 x2 x3 := h.call ((Below.refl _ _).alloc (Nat.le_refl _) _)
theorem SZ.next (h : SZ w wi g ls A l c sp g8 x0 x1 x2 x3) (ho : Off (fun i => i = g) wi w') (hF : Fld 78 (fun i => g ≤ i) w' g ls A l c sp') : SZ w w' g ls A l c sp' g8 x0 x1 x2 x3 :=
  have h1 := h.ge
  have h2 := h.gt
  ⟨hF, h.bx.off ho (by omega), h.b2.off ho (by omega), h.low.trans (ho.below h.low.size fun i hi e => by omega), h1, h2⟩
theorem SZ.put (h : SZ w wi g ls A l c sp g8 x0 x1 x2 x3) (j : Nat) (y : Value) {y0 y1 y2 y3 : Value} (hb : BxO (wi.setCell ⟨g8, j, none⟩ y) g8 y0 y1 y2 y3) : SZ w (wi.setCell ⟨g8, j, none⟩ y) g ls A l c sp g8 y0 y1 y2 y3 :=
  have h1 := h.ge
  have h2 := h.gt
  have ho : Off (fun i => i = g8) wi (wi.setCell ⟨g8, j, none⟩ y) := Off.set _ _ _ rfl
  ⟨h.fld.off ho (fun i hi => by omega) (by omega), hb, h.b2.off ho (by omega), h.low.trans (ho.below h.low.size fun i hi e => by have := h.b2.lt; have := h.low.size; omega), h1, h2⟩
theorem SZ.put1 (h : SZ w wi g ls A l c sp g8 x0 x1 x2 x3) (y : Value) : SZ w (wi.setCell ⟨g8, 1, none⟩ y) g ls A l c sp g8 x0 y x2 x3 := h.put 1 y (by
  have := h.bx
  unfold BxO at this ⊢
  simp [World.setCell, Array.getElem?_modify, this])
theorem SZ.put2 (h : SZ w wi g ls A l c sp g8 x0 x1 x2 x3) (y : Value) : SZ w (wi.setCell ⟨g8, 2, none⟩ y) g ls A l c sp g8 x0 x1 y x3 := h.put 2 y (by
  have := h.bx
  unfold BxO at this ⊢
  simp [World.setCell, Array.getElem?_modify, this])
theorem SZ.put3 (h : SZ w wi g ls A l c sp g8 x0 x1 x2 x3) (y : Value) : SZ w (wi.setCell ⟨g8, 3, none⟩ y) g ls A l c sp g8 x0 x1 x2 y := h.put 3 y (by
  have := h.bx
  unfold BxO at this ⊢
  simp [World.setCell, Array.getElem?_modify, this])
theorem SZ.setb (h : SZ w wi g ls A l c sp g8 x0 x1 x2 x3) (b : Bool) : SZ w (wi.setCell ⟨g, 1, none⟩ (.bool b)) g ls A l c b g8 x0 x1 x2 x3 := h.next (Off.set _ _ _ rfl) (h.fld.setb b)
end
theorem one_sp {α : Type} (ls : List V) (i : Int) (kind : Nat) (must sp : Bool) (z : α) (f : V → α) : (oneR ls i kind must sp z f).1 = (oneR ls i kind must false z f).1 ∧ (oneR ls i kind must sp z f).2 = (sp || (oneR ls i kind must false z f).2) := by
  cases ha : Fl.ask ls i with
  | none => rw [oneR_none ha, oneR_none ha]; exact ⟨rfl, by simp⟩
  | some v =>
    by_cases hk : v.kind = kind
    · rw [oneR_yes ha hk, oneR_yes ha hk]; exact ⟨rfl, by simp⟩
    · rw [oneR_no ha hk, oneR_no ha hk]; exact ⟨rfl, by simp⟩
theorem val_sp2 (ls : List V) (i : Int) (L : List Nat) (sp : Bool) : (valR ls i L sp).2 = (sp || (valR ls i L false).2) := by
  cases ha : Fl.ask ls i with
  | none => rw [valR_none ha, valR_none ha]; simp
  | some v =>
    cases hk : fitsB L v.kind with
    | true => rw [valR_yes ha hk, valR_yes ha hk]; simp
    | false => rw [valR_no ha hk, valR_no ha hk]; simp
/-- What modified fields tell, in the document's order. -/
theorem rd5_eq (ls : List V) : rdR 5 ls = (⟨5, (oneR ls 0 2 false false 0 V.num).1, (oneR ls 1 2 false (oneR ls 0 2 false false 0 V.num).2 0 V.num).1, ⟨#[]⟩⟩, (valR ls 2 [23] (oneR ls 1 2 false (oneR ls 0 2 false false 0 V.num).2 0 V.num).2).2) := by
  show ((⟨5, (oneR ls 0 2 false (valR ls 2 [23] false).2 0 V.num).1, (oneR ls 1 2 false (oneR ls 0 2 false (valR ls 2 [23] false).2 0 V.num).2 0 V.num).1, ⟨#[]⟩⟩ : O), (oneR ls 1 2 false (oneR ls 0 2 false (valR ls 2 [23] false).2 0 V.num).2 0 V.num).2) = _
  rw [(one_sp ls 0 2 false (valR ls 2 [23] false).2 0 V.num).1, (one_sp ls 0 2 false (valR ls 2 [23] false).2 0 V.num).2, (one_sp ls 1 2 false ((valR ls 2 [23] false).2 || (oneR ls 0 2 false false 0 V.num).2) 0 V.num).1, (one_sp ls 1 2 false ((valR ls 2 [23] false).2 || (oneR ls 0 2 false false 0 V.num).2) 0 V.num).2,
    (one_sp ls 1 2 false (oneR ls 0 2 false false 0 V.num).2 0 V.num).1, (one_sp ls 1 2 false (oneR ls 0 2 false false 0 V.num).2 0 V.num).2, val_sp2 ls 2 [23] ((oneR ls 0 2 false false 0 V.num).2 || (oneR ls 1 2 false false 0 V.num).2)]
  congr 1
  cases (valR ls 2 [23] false).2 <;> cases (oneR ls 0 2 false false 0 V.num).2 <;> cases (oneR ls 1 2 false false 0 V.num).2 <;> rfl

theorem xask_num {X : Nat → Prop} {w : World} {g : Nat} {ls : List V} {A : Option Addr} {l c : Nat} {sp : Bool} (h : Fld 78 X w g ls A l c sp) {i : Int} {v : V} (ha : Fl.ask ls i = some v) : v.num < 18446744073709551616 := by
  obtain ⟨j, _, hj, hx, _⟩ := ask_some ha
  obtain ⟨b, o, k, n, t, ks, A', l', c', _, _, hx', _, _, _, _, _, hn, _⟩ := h.fkd.at_ (i := j) (by rw [h.fkd.len]; exact hj)
  rw [hx] at hx'
  injection hx' with e
  rw [e]; exact hn
theorem xval_num {X : Nat → Prop} {w : World} {g : Nat} {ls : List V} {A : Option Addr} {l c : Nat} {sp sp' sp0 : Bool} {k n : Nat} {t : ByteArray} {ks : List V} (h : Fld 78 X w g ls A l c sp) (hq : valR ls 0 [] sp0 = (.mk k n t ks, sp')) : n < 18446744073709551616 := by
  cases ha : Fl.ask ls 0 with
  | none =>
    rw [valR_none ha] at hq
    injection hq with e1 e2
    injection e1 with q1 q2 q3 q4
    omega
  | some v =>
    rw [valR_yes ha rfl] at hq
    injection hq with e1 e2
    have := xask_num h ha
    rw [e1] at this
    exact this

end Go.Proofs.YtobnbgbijdhjjaaGreatDoor.Oc
