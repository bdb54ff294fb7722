/-
  Contracts of the program's GetCond and of those that read an outcome's fields. Memory that was there stays, but for the block of the fields. Conditions: the table utf.shapes lies as the program's text lays it; values of bulk at most 2^28.
  Contract of the program's theFive: the five kinds of outcomes, and who tells and reads them. Memory that was there stays.
  Contract of the program's outcome.Get. Memory that was there stays. Conditions: the table utf.shapes lies as the program's text lays it; values of bulk at most 2^28.
-/
import Derived.Test.YtohmnbefokhjpaaDoorOcd
import Derived.Laws.EntriesVeiled
import Derived.WalkMore
namespace Go.Proofs.YtohmnbefokhjpaaDoor.Oc
set_option maxRecDepth 100000
open Go.RowKit Go.Proofs.YtohmnbefokhjpaaDoor.Utf Go.Proofs.YtohmnbefokhjpaaDoor.Val Go.Proofs.YtohmnbefokhjpaaDoor.Fl V

/-- A text and an error's number. -/
def GivesSE (o : Option ByteArray) (w : World) (e : Ending) (w' : World) : Prop :=
  match o with
  | none => e = .returned (.tuple #[.string ⟨#[]⟩, .int .i64 6]) ∧ Below w.heap.size w w'
  | some s => e = .returned (.tuple #[.string s, .int .i64 0]) ∧ Below w.heap.size w w'
theorem new29 (k n : Nat) (t : ByteArray) (ks : List V) (A : Option Addr) (l c : Nat) (w : World) (hN : bulkL ks ≤ 536870912) (ht : t.size ≤ 536870912) (hn : n < 18446744073709551616) (hK : Kd w ks A l c) (hTab : Tab w) :
    Calls Tryd.prog 17 #[.agg #[.int .u8 (k : Int), .int .u64 (n : Int), .string t, .slice A l c], .int .u64 29, .string ⟨#[97, 109, 113, 112, 58, 101, 114, 114, 111, 114, 58, 108, 105, 115, 116]⟩] w (GivesNew (newR (.mk k n t ks) 29 ename) w) := new_any k n t ks A l c 29 ename w hN ht hn hK hTab
theorem kinds_map (w : World) (g : Nat) (hg : w.heap.size = g) : Kinds (w.alloc (.cells #[.int .u8 23] 5)) (some ⟨g, 0, none⟩) 1 [23] := by
  subst hg
  refine ⟨⟨rfl, by simp, fun _ => ⟨w.heap.size, 0, rfl, by simp, fun k hk => ?_⟩⟩, by omega⟩
  have : k = 0 := by simpa using hk
  subst this
  simp
theorem kinds_nil (w : World) : Kinds w none 0 [] := ⟨⟨rfl, by simp, fun h => absurd h (by omega)⟩, by omega⟩
section
variable {X : Nat → Prop} {w : World} {g : Nat} {ls : List V} {A : Option Addr} {l c : Nat} {sp : Bool}
theorem er_t0 (h : Fld 63 X w g ls A l c false) : Calls Tryd.prog 46 #[.pointer (some ⟨g, 0, none⟩), .int .i64 0, .int .u8 21, .bool true] w (GivesF 63 X g ls A l c (fun r _ => r = .string (oneR ls 0 21 true false ⟨#[]⟩ V.text).1) (oneR ls 0 21 true false ⟨#[]⟩ V.text).2 w) := ftext_any h 0 21 true _ rfl
theorem er_t1 (h : Fld 63 X w g ls A l c sp) : Calls Tryd.prog 46 #[.pointer (some ⟨g, 0, none⟩), .int .i64 1, .int .u8 20, .bool false] w (GivesF 63 X g ls A l c (fun r _ => r = .string (oneR ls 1 20 false sp ⟨#[]⟩ V.text).1) (oneR ls 1 20 false sp ⟨#[]⟩ V.text).2 w) := ftext_any h 1 20 false _ rfl
/-- An answer of which nothing is asked, and how it stands with the fields then. -/
theorem ask_map (h : Fld 63 X w g ls A l c sp) {KA : Option Addr} {kc : Nat} (hK : Kinds w KA 1 [23]) (hN : bulkL ls ≤ 1073741824) : Calls Tryd.prog 38 #[.pointer (some ⟨g, 0, none⟩), .int .i64 2, .slice KA 1 kc] w (GivesF 63 X g ls A l c (fun r _ => ∃ x0 x1 x2 x3, r = .agg #[x0, x1, x2, x3]) (valR ls 2 [23] sp).2 w) := by
  obtain ⟨k, n, t, ks, sp', hq⟩ : ∃ k n t ks sp', valR ls 2 [23] sp = (.mk k n t ks, sp') := ⟨_, _, _, _, _, Prod.ext (V.eta _) rfl⟩
  rw [hq]
  refine (fvalue_any h hK 2 hN hq).mono fun e w' hh => hh.mono fun r hr => ?_
  obtain ⟨A2, l2, c2, rfl, _⟩ := hr
  exact ⟨_, _, _, _, rfl⟩
theorem er_done (h : Fld 63 X w g ls A l c sp) : Calls Tryd.prog 18 #[.pointer (some ⟨g, 0, none⟩), .int .i64 3] w fun e w' => e = .returned (.int .i64 (doneN ls sp 3)) ∧ w = w' := done_any h 3
end
/-- What is kept of fields that were made behind world w. -/
structure WN (w wi : World) (g : Nat) (ls : List V) (A : Option Addr) (l c : Nat) (sp : Bool) : Prop where
  fld : Fld 63 (fun i => g ≤ i) wi g ls A l c sp
  low : Below w.heap.size w wi
  ge : w.heap.size ≤ g
section
variable {w wi w' : World} {g : Nat} {ls : List V} {A : Option Addr} {l c : Nat} {sp sp' : Bool}
theorem WN.call (h : WN w wi g ls A l c sp) (hb : Below wi.heap.size wi w') : WN w w' g ls A l c sp := ⟨h.fld.call hb, below_next h.low hb, h.ge⟩
theorem WN.alloc (h : WN w wi g ls A l c sp) (o : Obj) : WN w (wi.alloc o) g ls A l c sp := h.call ((Below.refl _ _).alloc (Nat.le_refl _) _)
theorem WN.next (h : WN w wi g ls A l c sp) (ho : Off (fun i => i = g) wi w') (hF : Fld 63 (fun i => g ≤ i) w' g ls A l c sp') : WN w w' g ls A l c sp' :=
  ⟨hF, h.low.trans (ho.below h.low.size fun i hi e => by have := h.ge; omega), h.ge⟩
end
theorem cond_null {v : V} (h : v.kind = 1) : condR v = some ⟨#[]⟩ := if_pos h
theorem cond_none {v : V} (h : ¬ v.kind = 1) (hn : newR v 29 ename = none) : condR v = none := by unfold condR; rw [if_neg h, hn]
theorem cond_some {v : V} {ls : List V} (h : ¬ v.kind = 1) (hn : newR v 29 ename = some ls) : condR v = if doneN ls (erR ls).2 3 = 0 then some (erR ls).1 else none := by unfold condR; rw [if_neg h, hn]

set_option maxHeartbeats 1000000 in
theorem getcond_any (k n : Nat) (t : ByteArray) (ks : List V) (A : Option Addr) (l c : Nat) (w : World) (hN : bulkL ks ≤ 536870912) (ht : t.size ≤ 536870912) (hn : n < 18446744073709551616) (hK : Kd w ks A l c) (hTab : Tab w) :
    Calls Tryd.prog 37 #[.agg #[.int .u8 (k : Int), .int .u64 (n : Int), .string t, .slice A l c]] w (GivesSE (condR (.mk k n t ks)) w) := by
  have hb0 : Below w.heap.size w (w.alloc (.cells #[.int .u8 (k : Int), .int .u64 (n : Int), .string t, .slice A l c] 27)) := (Below.refl _ _).alloc (Nat.le_refl _) _
  have HQ := Lib.hid (new29 k n t ks A l c _ hN ht hn (hK.call hb0) (hTab.call hb0))
  have HB := Lib.hid hb0
  have HN := Lib.hid hN
  clear ht hn hK hTab hN hb0
  by_cases h1 : k = 1
  · subst h1
    rw [cond_null (v := .mk 1 n t ks) rfl]
    go_enter Tryd.func37, Tryd.ntmps37
    go_wp2
    refine bodyPost_ret (v := .tuple #[.string ⟨#[]⟩, .int .i64 0]) (by simp [results, Tryd.results37, go_sem]) rfl ?_
    exact ⟨rfl, HB.out⟩
  · have hd : ((k : Int) == 1) = false := by rw [beq_eq_false_iff_ne]; omega
    cases hnw : newR (.mk k n t ks) 29 ename with
    | none =>
      rw [hnw] at HQ
      rw [cond_none (v := .mk k n t ks) h1 hnw]
      clear h1 hnw
      go_enter Tryd.func37, Tryd.ntmps37
      go_wp2_with fail
      refine HQ.out.mono ?_
      rintro e w1 ⟨rfl, hb1⟩
      have HB1 := Lib.hid (below_next HB.out hb1)
      clear hb1
      go_wp2
      refine bodyPost_ret (v := .tuple #[.string ⟨#[]⟩, .int .i64 6]) (by simp [results, Tryd.results37, go_sem]) rfl ?_
      exact ⟨rfl, HB1.out⟩
    | some ls =>
      rw [hnw] at HQ
      have ho := cond_some (v := .mk k n t ks) h1 hnw
      have HL : Hid (bulkL ls ≤ 1073741824) := Lib.hid (by
        have := HN.out
        obtain ⟨n', t', d, n'', t'', e, _, _⟩ := newR_some hnw
        injection e with _ _ _ e
        subst e
        simp only [bulkL, bulk] at this
        omega)
      clear h1 hnw HN
      obtain ⟨s, hs⟩ : ∃ s, (erR ls).1 = s := ⟨_, rfl⟩
      obtain ⟨sp, hsp⟩ : ∃ sp, (erR ls).2 = sp := ⟨_, rfl⟩
      rw [hs, hsp] at ho
      have HO := Lib.hid ho
      clear ho
      have HS := Lib.hid hs
      have HSP := Lib.hid hsp
      clear hs hsp
      go_enter Tryd.func37, Tryd.ntmps37
      go_wp2_with fail
      refine HQ.out.mono ?_
      rintro e w1 ⟨g, A1, l1, c1, rfl, hg, hF, _, hb1⟩
      have H1 := Lib.hid (WN.mk (w := w) hF (below_next HB.out hb1) (Nat.le_trans HB.out.size hg))
      clear hb1 hF hg HQ
      go_wp2_with fail
      refine (er_t0 H1.out.fld).mono ?_
      rintro e w2 ⟨r2, rfl, hr2, ho2, hF2⟩
      have H2 := Lib.hid (H1.out.next ho2 hF2)
      obtain rfl : r2 = .string s := hr2.trans (by rw [← HS.out]; rfl)
      clear hr2
      clear ho2 hF2 H1
      go_wp2_with fail
      refine (er_t1 H2.out.fld).mono ?_
      rintro e w3 ⟨r3, rfl, rfl, ho3, hF3⟩
      have H3 := Lib.hid (H2.out.next ho3 hF3)
      clear ho3 hF3 H2
      go_wp2_with fail
      have H4 := Lib.hid (H3.out.alloc (.cells #[.int .u8 23] 5))
      refine (ask_map H4.out.fld (kinds_map _ _ rfl) HL.out).mono ?_
      rintro e w5 ⟨r5, rfl, ⟨x0, x1, x2, x3, rfl⟩, ho5, hF5⟩
      have h5 := H4.out.next ho5 hF5
      have hsp : (valR ls 2 [23] (oneR ls 1 20 false (oneR ls 0 21 true false ⟨#[]⟩ V.text).2 ⟨#[]⟩ V.text).2).2 = sp := HSP.out
      rw [hsp] at h5
      have H5 := Lib.hid h5
      clear ho5 hF5 H4 H3 h5 hsp
      go_wp2_with fail
      refine (er_done H5.out.fld).mono ?_
      rintro e w6 ⟨rfl, rfl⟩
      by_cases hd0 : doneN ls sp 3 = 0
      · have HO2 : Hid (condR (.mk k n t ks) = some s) := Lib.hid (by rw [HO.out, if_pos hd0])
        rw [hd0]
        clear hd0
        go_wp2
        refine bodyPost_ret (v := .tuple #[.string s, .int .i64 0]) (by simp [results, Tryd.results37, go_sem]) rfl ?_
        rw [HO2.out]
        exact ⟨rfl, H5.out.low⟩
      · have HO2 : Hid (condR (.mk k n t ks) = none) := Lib.hid (by rw [HO.out, if_neg hd0])
        rw [done_not hd0]
        clear hd0
        go_wp2
        refine bodyPost_ret (v := .tuple #[.string ⟨#[]⟩, .int .i64 6]) (by simp [results, Tryd.results37, go_sem]) rfl ?_
        rw [HO2.out]
        exact ⟨rfl, H5.out.low⟩

/-- What is kept while fields are read: the fields, and the answer's box. -/
structure SO (X : Nat → Prop) (w wi : World) (g : Nat) (ls : List V) (A : Option Addr) (l c : Nat) (sp : Bool) : Prop where
  fld : Fld 63 X wi g ls A l c sp
  off : Off (fun i => i = g) w wi
  bx : BxO wi w.heap.size (.int .u8 0) (.int .u64 0) (.int .u64 0) (.string ⟨#[]⟩)
  lt : g < w.heap.size
section
variable {X : Nat → Prop} {w wi w' : World} {g : Nat} {ls : List V} {A : Option Addr} {l c : Nat} {sp sp' : Bool}
theorem SO.call (h : SO X w wi g ls A l c sp) (hb : Below wi.heap.size wi w') : SO X w w' g ls A l c sp := ⟨h.fld.call hb, h.off.next hb, h.bx.call hb, h.lt⟩
theorem SO.alloc (h : SO X w wi g ls A l c sp) (o : Obj) : SO X w (wi.alloc o) g ls A l c sp := h.call ((Below.refl _ _).alloc (Nat.le_refl _) _)
theorem SO.next (h : SO X w wi g ls A l c sp) (ho : Off (fun i => i = g) wi w') (hF : Fld 63 X w' g ls A l c sp') : SO X w w' g ls A l c sp' :=
  ⟨hF, h.off.trans ho, h.bx.off ho (by have := h.lt; omega), h.lt⟩
theorem SO.new (h : Fld 63 X w g ls A l c sp) : SO X w (w.alloc (.cells #[.int .u8 0, .int .u64 0, .int .u64 0, .string ⟨#[]⟩] 24)) g ls A l c sp :=
  have hb : Below w.heap.size w (w.alloc (.cells #[.int .u8 0, .int .u64 0, .int .u64 0, .string ⟨#[]⟩] 24)) := (Below.refl _ _).alloc (Nat.le_refl _) _
  ⟨h.call hb, Off.of _ hb, BxO.new _ _ _ _ _, h.lt⟩
theorem SO.spoil (h : SO X w wi g ls A l c sp) : SO X w (wi.setCell ⟨g, 1, none⟩ (.bool true)) g ls A l c true :=
  h.next (Off.set _ _ _ rfl) h.fld.spoil
theorem SO.fin (h : SO X w wi g ls A l c sp) (h0 : Fld 63 X w g ls A l c sp') (x y z u : Value) : Off (fun i => i = g) w ((((wi.setCell ⟨w.heap.size, 0, none⟩ x).setCell ⟨w.heap.size, 1, none⟩ y).setCell ⟨w.heap.size, 2, none⟩ z).setCell ⟨w.heap.size, 3, none⟩ u) ∧
    Fld 63 X ((((wi.setCell ⟨w.heap.size, 0, none⟩ x).setCell ⟨w.heap.size, 1, none⟩ y).setCell ⟨w.heap.size, 2, none⟩ z).setCell ⟨w.heap.size, 3, none⟩ u) g ls A l c sp := by
  have ho := h.off.set4 (Nat.le_refl _) x y z u
  exact ⟨ho, h0.fin ho (obj_far4 h.fld.obj (by have := h.lt; omega) _ _ _ _)⟩
theorem rd_u0 (h : Fld 63 X w g ls A l c sp) : Calls Tryd.prog 35 #[.pointer (some ⟨g, 0, none⟩), .int .i64 0, .int .u8 5, .bool true, .int .u64 0] w (GivesF 63 X g ls A l c (fun r _ => r = .int .u64 ((oneR ls 0 5 true sp 0 V.num).1 : Int)) (oneR ls 0 5 true sp 0 V.num).2 w) := Fl.number_any h 0 5 true 0 _ rfl
theorem rd_u1 (h : Fld 63 X w g ls A l c sp) : Calls Tryd.prog 35 #[.pointer (some ⟨g, 0, none⟩), .int .i64 1, .int .u8 6, .bool true, .int .u64 0] w (GivesF 63 X g ls A l c (fun r _ => r = .int .u64 ((oneR ls 1 6 true sp 0 V.num).1 : Int)) (oneR ls 1 6 true sp 0 V.num).2 w) := Fl.number_any h 1 6 true 0 _ rfl
theorem rd_b0 (h : Fld 63 X w g ls A l c sp) : Calls Tryd.prog 35 #[.pointer (some ⟨g, 0, none⟩), .int .i64 0, .int .u8 2, .bool false, .int .u64 0] w (GivesF 63 X g ls A l c (fun r _ => r = .int .u64 ((oneR ls 0 2 false sp 0 V.num).1 : Int)) (oneR ls 0 2 false sp 0 V.num).2 w) := Fl.number_any h 0 2 false 0 _ rfl
theorem rd_b1 (h : Fld 63 X w g ls A l c sp) : Calls Tryd.prog 35 #[.pointer (some ⟨g, 0, none⟩), .int .i64 1, .int .u8 2, .bool false, .int .u64 0] w (GivesF 63 X g ls A l c (fun r _ => r = .int .u64 ((oneR ls 1 2 false sp 0 V.num).1 : Int)) (oneR ls 1 2 false sp 0 V.num).2 w) := Fl.number_any h 1 2 false 0 _ rfl
end
/-- An outcome as an answer. -/
def oV (o : O) : Value := .agg #[.int .u8 (o.k : Int), .int .u64 (o.a : Int), .int .u64 (o.b : Int), .string o.c]
/-- What one that reads fields answers. -/
def Reads (k fr : Nat) : Prop := ∀ (X : Nat → Prop) (w : World) (g : Nat) (ls : List V) (A : Option Addr) (l c : Nat), Fld 63 X w g ls A l c false → 0 < g → bulkL ls ≤ 268435456 → Tab w → Calls Tryd.prog fr #[.pointer (some ⟨g, 0, none⟩)] w (GivesF 63 X g ls A l c (fun r _ => r = oV (rdR k ls).1) (rdR k ls).2 w)
theorem rdacc : Reads 2 23 := by
  intro X w g ls A l c h hg hN hT
  have H0 := Lib.hid (SO.new h)
  have HF := Lib.hid h
  have HN := Lib.hid hN
  have HT := Lib.hid hT
  have HG0 := Lib.hid hg
  clear h hg hN hT
  go_enter Tryd.func23, Tryd.ntmps23
  go_wp2
  refine bodyPost_ret (v := .agg #[.int .u8 2, .int .u64 0, .int .u64 0, .string ⟨#[]⟩]) (by simp [results, Tryd.results23, go_sem]) rfl ?_
  have hb : Below w.heap.size w (w.alloc (.cells #[.int .u8 2, .int .u64 0, .int .u64 0, .string ⟨#[]⟩] 24)) := (Below.refl _ _).alloc (Nat.le_refl _) _
  exact ⟨_, rfl, rfl, Off.of _ hb, HF.out.call hb⟩
theorem rdrel : Reads 4 26 := by
  intro X w g ls A l c h hg hN hT
  have H0 := Lib.hid (SO.new h)
  have HF := Lib.hid h
  have HN := Lib.hid hN
  have HT := Lib.hid hT
  have HG0 := Lib.hid hg
  clear h hg hN hT
  go_enter Tryd.func26, Tryd.ntmps26
  go_wp2
  refine bodyPost_ret (v := .agg #[.int .u8 4, .int .u64 0, .int .u64 0, .string ⟨#[]⟩]) (by simp [results, Tryd.results26, go_sem]) rfl ?_
  have hb : Below w.heap.size w (w.alloc (.cells #[.int .u8 4, .int .u64 0, .int .u64 0, .string ⟨#[]⟩] 24)) := (Below.refl _ _).alloc (Nat.le_refl _) _
  exact ⟨_, rfl, rfl, Off.of _ hb, HF.out.call hb⟩
theorem rdrec : Reads 1 21 := by
  intro X w g ls A l c h hg hN hT
  have H0 := Lib.hid (SO.new h)
  have HF := Lib.hid h
  have HN := Lib.hid hN
  have HT := Lib.hid hT
  have HG0 := Lib.hid hg
  clear h hg hN hT
  go_enter Tryd.func21, Tryd.ntmps21
  go_wp2_with fail
  refine (rd_u0 H0.out.fld).mono ?_
  rintro e w1 ⟨r1, rfl, rfl, ho1, hF1⟩
  have H1 := Lib.hid (H0.out.next ho1 hF1)
  clear ho1 hF1 H0
  go_wp2_with fail
  refine (rd_u1 H1.out.fld).mono ?_
  rintro e w2 ⟨r2, rfl, rfl, ho2, hF2⟩
  have H2 := Lib.hid (H1.out.next ho2 hF2)
  clear ho2 hF2 H1
  obtain ⟨d0, d1, d2, d3, df⟩ := H2.out.bx.all
  obtain ⟨a, ha⟩ : ∃ a, (oneR ls 0 5 true false 0 V.num).1 = a := ⟨_, rfl⟩
  obtain ⟨b, hb⟩ : ∃ b, (oneR ls 1 6 true (oneR ls 0 5 true false 0 V.num).2 0 V.num).1 = b := ⟨_, rfl⟩
  rw [ha, hb]
  have HE : Hid ((rdR 1 ls).1 = ⟨1, a, b, ⟨#[]⟩⟩) := Lib.hid (by rw [← hb, ← ha]; rfl)
  clear ha hb
  go_wp2
  refine bodyPost_ret (v := .agg #[.int .u8 1, .int .u64 (a : Int), .int .u64 (b : Int), .string ⟨#[]⟩]) (by simp [results, Tryd.results21, go_sem, d0, d1, d2, d3]) rfl ?_
  obtain ⟨h1, h2⟩ := H2.out.fin HF.out (.int .u8 1) (.int .u64 (a : Int)) (.int .u64 (b : Int)) (.string ⟨#[]⟩)
  exact ⟨_, rfl, by rw [HE.out]; rfl, h1, h2⟩
theorem rdmod : Reads 5 28 := by
  intro X w g ls A l c h hg hN hT
  have H0 := Lib.hid (SO.new h)
  have HF := Lib.hid h
  have HN := Lib.hid hN
  have HT := Lib.hid hT
  have HG0 := Lib.hid hg
  clear h hg hN hT
  go_enter Tryd.func28, Tryd.ntmps28
  go_wp2_with fail
  have Ha := Lib.hid (H0.out.alloc (.cells #[.int .u8 23] 5))
  refine (ask_map Ha.out.fld (kinds_map _ _ (by simp)) (by have := HN.out; omega)).mono ?_
  rintro e w0 ⟨r0, rfl, ⟨x0, x1, x2, x3, rfl⟩, ho0, hF0⟩
  have Hb := Lib.hid (Ha.out.next ho0 hF0)
  clear ho0 hF0 H0 Ha
  go_wp2_with fail
  refine (rd_b0 Hb.out.fld).mono ?_
  rintro e w1 ⟨r1, rfl, rfl, ho1, hF1⟩
  have H1 := Lib.hid (Hb.out.next ho1 hF1)
  clear ho1 hF1 Hb
  go_wp2_with fail
  refine (rd_b1 H1.out.fld).mono ?_
  rintro e w2 ⟨r2, rfl, rfl, ho2, hF2⟩
  have H2 := Lib.hid (H1.out.next ho2 hF2)
  clear ho2 hF2 H1
  obtain ⟨d0, d1, d2, d3, df⟩ := H2.out.bx.all
  obtain ⟨a, ha⟩ : ∃ a, (oneR ls 0 2 false (valR ls 2 [23] false).2 0 V.num).1 = a := ⟨_, rfl⟩
  obtain ⟨b, hb⟩ : ∃ b, (oneR ls 1 2 false (oneR ls 0 2 false (valR ls 2 [23] false).2 0 V.num).2 0 V.num).1 = b := ⟨_, rfl⟩
  rw [ha, hb]
  have HE : Hid ((rdR 5 ls).1 = ⟨5, a, b, ⟨#[]⟩⟩) := Lib.hid (by rw [← hb, ← ha]; rfl)
  clear ha hb
  go_wp2
  refine bodyPost_ret (v := .agg #[.int .u8 5, .int .u64 (a : Int), .int .u64 (b : Int), .string ⟨#[]⟩]) (by simp [results, Tryd.results28, go_sem, d0, d1, d2, d3]) rfl ?_
  obtain ⟨h1, h2⟩ := H2.out.fin HF.out (.int .u8 5) (.int .u64 (a : Int)) (.int .u64 (b : Int)) (.string ⟨#[]⟩)
  exact ⟨_, rfl, by rw [HE.out]; rfl, h1, h2⟩
/-- Numbers of values in memory have 64 bits. -/
theorem ask_num {X : Nat → Prop} {w : World} {g : Nat} {ls : List V} {A : Option Addr} {l c : Nat} {sp : Bool} (h : Fld 63 X w g ls A l c sp) {i : Int} {v : V} (ha : Fl.ask ls i = some v) : v.num < 18446744073709551616 := by
  obtain ⟨j, _, hj, hx, _⟩ := ask_some ha
  obtain ⟨b, o, k, n, t, ks, A', l', c', _, _, hx', _, _, _, _, _, hn, _⟩ := h.fkd.at_ (i := j) (by rw [h.fkd.len]; exact hj)
  rw [hx] at hx'
  injection hx' with e
  rw [e]; exact hn
theorem val_num {X : Nat → Prop} {w : World} {g : Nat} {ls : List V} {A : Option Addr} {l c : Nat} {sp sp' sp0 : Bool} {k n : Nat} {t : ByteArray} {ks : List V} (h : Fld 63 X w g ls A l c sp) (hq : valR ls 0 [] sp0 = (.mk k n t ks, sp')) : n < 18446744073709551616 := by
  cases ha : Fl.ask ls 0 with
  | none =>
    rw [valR_none ha] at hq
    injection hq with e1 e2
    injection e1 with q1 q2 q3 q4
    omega
  | some v =>
    rw [valR_yes ha rfl] at hq
    injection hq with e1 e2
    have := ask_num h ha
    rw [e1] at this
    exact this
theorem tab_off {X : Nat → Prop} {w w' : World} (h : Tab w) (ho : Off X w w') (hX : ¬ X 0) : Tab w' := by
  obtain ⟨t, fr, h⟩ := h
  exact ⟨t, fr, (ho.block 0 (Array.getElem?_eq_some_iff.1 h).1 hX).trans h⟩
theorem valR_all (ls : List V) (sp : Bool) : (valR ls 0 [] sp).2 = sp := by
  cases ha : Fl.ask ls 0 with
  | none => rw [valR_none ha]
  | some v => rw [valR_yes ha rfl]
theorem val_bulk (ls : List V) (sp : Bool) : bulk (valR ls 0 [] sp).1 ≤ bulkL ls + 1 := by
  cases ha : Fl.ask ls 0 with
  | none => rw [valR_none ha]; simp [nullV, bulk, bulkL, ByteArray.size]
  | some u => rw [valR_yes ha rfl]; have := ask_bulk ha; show bulk u ≤ _; omega
theorem rd3_some {ls : List V} {c : ByteArray} (h : condR (valR ls 0 [] false).1 = some c) : rdR 3 ls = (⟨3, 0, 0, c⟩, false) := by
  show (match condR (valR ls 0 [] false).1 with | some c => _ | none => _ : O × Bool) = _
  rw [h]
  exact Prod.ext rfl (valR_all ls false)
theorem rd3_none {ls : List V} (h : condR (valR ls 0 [] false).1 = none) : rdR 3 ls = (⟨3, 0, 0, ⟨#[]⟩⟩, true) := by
  show (match condR (valR ls 0 [] false).1 with | some c => _ | none => _ : O × Bool) = _
  rw [h]
theorem rdrej : Reads 3 25 := by
  intro X w g ls A l c h hg hN hT
  have H0 := Lib.hid (SO.new h)
  have HF := Lib.hid h
  have HN := Lib.hid hN
  have HT := Lib.hid hT
  have HG0 := Lib.hid hg
  clear h hg hN hT
  obtain ⟨k, n, t, ks, sp', hq⟩ : ∃ k n t ks sp', valR ls 0 [] false = (.mk k n t ks, sp') := ⟨_, _, _, _, _, Prod.ext (V.eta _) rfl⟩
  have HBK := Lib.hid (show bulk (.mk k n t ks) ≤ bulkL ls + 1 by have := val_bulk ls false; rw [hq] at this; exact this)
  have HNN : Hid (n < 18446744073709551616) := Lib.hid (val_num HF.out hq)
  obtain rfl : sp' = false := by have := valR_all ls false; rw [hq] at this; exact this
  have HQ := Lib.hid hq
  clear hq
  go_enter Tryd.func25, Tryd.ntmps25
  go_wp2_with fail
  refine (fvalue_any H0.out.fld (kinds_nil _) 0 (by have := HN.out; omega) HQ.out).mono ?_
  rintro e w1 ⟨r1, rfl, ⟨A1, l1, c1, rfl, hN1⟩, ho1, hF1⟩
  have H1 := Lib.hid (H0.out.next ho1 hF1)
  have HG := Lib.hid (getcond_any k n t ks A1 l1 c1 w1 (by have := HBK.out; simp only [bulk] at this; have := HN.out; omega) (by have := HBK.out; simp only [bulk] at this; have := HN.out; omega) HNN.out hN1.kd (tab_off HT.out H1.out.off (by have := HG0.out; omega)))
  clear ho1 hF1 H0 hN1
  cases hc : condR (.mk k n t ks) with
  | some s =>
    rw [hc] at HG
    have HE := Lib.hid (rd3_some (ls := ls) (c := s) (by rw [HQ.out]; exact hc))
    clear hc
    go_wp2_with fail
    refine HG.out.mono ?_
    rintro e w2 ⟨rfl, hb2⟩
    have H2 := Lib.hid (H1.out.call hb2)
    clear hb2 H1
    obtain ⟨d0, d1, d2, d3, df⟩ := H2.out.bx.all
    go_wp2
    refine bodyPost_ret (v := .agg #[.int .u8 3, .int .u64 0, .int .u64 0, .string s]) (by simp [results, Tryd.results25, go_sem, d0, d1, d2, d3]) rfl ?_
    obtain ⟨h1, h2⟩ := H2.out.fin HF.out (.int .u8 3) (.int .u64 0) (.int .u64 0) (.string s)
    rw [HE.out]
    exact ⟨_, rfl, rfl, h1, h2⟩
  | none =>
    rw [hc] at HG
    have HE := Lib.hid (rd3_none (ls := ls) (by rw [HQ.out]; exact hc))
    clear hc
    go_wp2_with fail
    refine HG.out.mono ?_
    rintro e w2 ⟨rfl, hb2⟩
    have H2 := Lib.hid (H1.out.call hb2)
    clear hb2 H1
    go_wp2_with fail
    refine (spoil_any H2.out.fld).mono ?_
    rintro e w3 ⟨⟨v, rfl⟩, hw3⟩
    have h3 := H2.out.spoil
    rw [hw3] at h3
    have H3 := Lib.hid h3
    clear h3 hw3 H2
    obtain ⟨d0, d1, d2, d3, df⟩ := H3.out.bx.all
    go_wp2
    refine bodyPost_ret (v := .agg #[.int .u8 3, .int .u64 0, .int .u64 0, .string ⟨#[]⟩]) (by simp [results, Tryd.results25, go_sem, d0, d1, d2, d3]) rfl ?_
    obtain ⟨h1, h2⟩ := H3.out.fin HF.out (.int .u8 3) (.int .u64 0) (.int .u64 0) (.string ⟨#[]⟩)
    rw [HE.out]
    exact ⟨_, rfl, rfl, h1, h2⟩
end Go.Proofs.YtohmnbefokhjpaaDoor.Oc

namespace Go.Proofs.YtohmnbefokhjpaaDoor.Oc
set_option maxRecDepth 100000
open Go.RowKit Go.Proofs.YtohmnbefokhjpaaDoor.Utf Go.Proofs.YtohmnbefokhjpaaDoor.Val Go.Proofs.YtohmnbefokhjpaaDoor.Fl V

/-- What one that tells fields answers. -/
def Tellsf (k ft : Nat) : Prop := ∀ (a b : Nat) (c : ByteArray) (w : World), mayO ⟨k, a, b, c⟩ = true → c.size ≤ 268435456 → a < 18446744073709551616 → b < 18446744073709551616 → Calls Tryd.prog ft #[.agg #[.int .u8 (k : Int), .int .u64 (a : Int), .int .u64 (b : Int), .string c]] w (GivesTell ⟨k, a, b, c⟩ w)
theorem tf1 : Tellsf 1 20 := fun a b c w _ _ ha hb => tellrec_any a b c w ha hb
theorem tf2 : Tellsf 2 22 := fun a b c w _ _ _ _ => tellno_any ⟨2, a, b, c⟩ rfl _ _ _ _ w
theorem tf4 : Tellsf 4 22 := fun a b c w _ _ _ _ => tellno_any ⟨4, a, b, c⟩ rfl _ _ _ _ w
theorem may_cok {o : O} (h : mayO o = true) : cOk o.c = true := by
  unfold mayO at h
  simp only [Bool.and_eq_true] at h
  exact h.1.1.2
theorem tf3 : Tellsf 3 24 := fun a b c w h hs _ _ => tellrej_any a b c w (may_cok h) hs
theorem tf5 : Tellsf 5 27 := fun a b c w _ _ _ _ => tellmod_any a b c w
/-- A function of the program's own. -/
def Enters (f : Nat) : Prop := ∀ (args : Array Value) (w : World), (callFunc f args).run Tryd.prog w = .ok (.enter f args) w
/-- The five, in memory. -/
def FvAt (w : World) (g p k : Nat) : Prop := ∃ ft fr : Nat, Tellsf k ft ∧ Reads k fr ∧ Enters ft ∧ Enters fr ∧ w.cell? ⟨g, p, none⟩ = some (.int .u8 (k : Int)) ∧ w.cell? ⟨g, p + 1, none⟩ = some (.int .u64 ((34 + k : Nat) : Int)) ∧ w.cell? ⟨g, p + 2, none⟩ = some (.string (oname k)) ∧ w.cell? ⟨g, p + 3, none⟩ = some (.int .i64 (mostN k)) ∧
  w.cell? ⟨g, p + 4, none⟩ = some (.func (.func ft) #[] #[]) ∧ w.cell? ⟨g, p + 5, none⟩ = some (.func (.func fr) #[] #[])
def Fv (w : World) (g o : Nat) : Prop := g < w.heap.size ∧ ∀ j, j < 5 → FvAt w g (o + j * 6) (j + 1)
theorem Fv.call {w w' : World} {g o : Nat} (h : Fv w g o) (hb : Below w.heap.size w w') : Fv w' g o := by
  refine ⟨Nat.lt_of_lt_of_le h.1 hb.size, fun j hj => ?_⟩
  obtain ⟨ft, fr, h1, h2, h3, h4, c0, c1, c2, c3, c4, c5⟩ := h.2 j hj
  exact ⟨ft, fr, h1, h2, h3, h4, (hb.cell (p := ⟨g, _, none⟩) h.1).trans c0, (hb.cell (p := ⟨g, _, none⟩) h.1).trans c1, (hb.cell (p := ⟨g, _, none⟩) h.1).trans c2, (hb.cell (p := ⟨g, _, none⟩) h.1).trans c3, (hb.cell (p := ⟨g, _, none⟩) h.1).trans c4, (hb.cell (p := ⟨g, _, none⟩) h.1).trans c5⟩
def GivesFv (w : World) (e : Ending) (w' : World) : Prop := ∃ g o, e = .returned (.slice (some ⟨g, o, none⟩) 5 5) ∧ Fv w' g o ∧ Below w.heap.size w w'
theorem fv_new (w : World) : Fv (w.alloc (.cells #[.int .u8 1, .int .u64 35, .string ⟨#[97, 109, 113, 112, 58, 114, 101, 99, 101, 105, 118, 101, 100, 58, 108, 105, 115, 116]⟩, .int .i64 2, .func (.func 20) #[] #[], .func (.func 21) #[] #[], .int .u8 2, .int .u64 36, .string ⟨#[97, 109, 113, 112, 58, 97, 99, 99, 101, 112, 116, 101, 100, 58, 108, 105, 115, 116]⟩, .int .i64 0, .func (.func 22) #[] #[], .func (.func 23) #[] #[], .int .u8 3, .int .u64 37, .string ⟨#[97, 109, 113, 112, 58, 114, 101, 106, 101, 99, 116, 101, 100, 58, 108, 105, 115, 116]⟩, .int .i64 1, .func (.func 24) #[] #[], .func (.func 25) #[] #[], .int .u8 4, .int .u64 38, .string ⟨#[97, 109, 113, 112, 58, 114, 101, 108, 101, 97, 115, 101, 100, 58, 108, 105, 115, 116]⟩, .int .i64 0, .func (.func 22) #[] #[], .func (.func 26) #[] #[], .int .u8 5, .int .u64 39, .string ⟨#[97, 109, 113, 112, 58, 109, 111, 100, 105, 102, 105, 101, 100, 58, 108, 105, 115, 116]⟩, .int .i64 3, .func (.func 27) #[] #[], .func (.func 28) #[] #[]] 46)) w.heap.size 0 := by
  refine ⟨by simp, fun j hj => ?_⟩
  have hj' : j = 0 ∨ j = 1 ∨ j = 2 ∨ j = 3 ∨ j = 4 := by omega
  rcases hj' with rfl | rfl | rfl | rfl | rfl
  · exact ⟨20, 21, tf1, rdrec, Tryd.call20, Tryd.call21, by simp, by simp, by simp [oname], by simp [mostN], by simp, by simp⟩
  · exact ⟨22, 23, tf2, rdacc, Tryd.call22, Tryd.call23, by simp, by simp, by simp [oname], by simp [mostN], by simp, by simp⟩
  · exact ⟨24, 25, tf3, rdrej, Tryd.call24, Tryd.call25, by simp, by simp, by simp [oname], by simp [mostN], by simp, by simp⟩
  · exact ⟨22, 26, tf4, rdrel, Tryd.call22, Tryd.call26, by simp, by simp, by simp [oname], by simp [mostN], by simp, by simp⟩
  · exact ⟨27, 28, tf5, rdmod, Tryd.call27, Tryd.call28, by simp, by simp, by simp [oname], by simp [mostN], by simp, by simp⟩
theorem five_any (w : World) : Calls Tryd.prog 12 #[] w (GivesFv w) := by
  have HV := Lib.hid (fv_new w)
  have hb0 : Below w.heap.size w (w.alloc (.cells #[.int .u8 1, .int .u64 35, .string ⟨#[97, 109, 113, 112, 58, 114, 101, 99, 101, 105, 118, 101, 100, 58, 108, 105, 115, 116]⟩, .int .i64 2, .func (.func 20) #[] #[], .func (.func 21) #[] #[], .int .u8 2, .int .u64 36, .string ⟨#[97, 109, 113, 112, 58, 97, 99, 99, 101, 112, 116, 101, 100, 58, 108, 105, 115, 116]⟩, .int .i64 0, .func (.func 22) #[] #[], .func (.func 23) #[] #[], .int .u8 3, .int .u64 37, .string ⟨#[97, 109, 113, 112, 58, 114, 101, 106, 101, 99, 116, 101, 100, 58, 108, 105, 115, 116]⟩, .int .i64 1, .func (.func 24) #[] #[], .func (.func 25) #[] #[], .int .u8 4, .int .u64 38, .string ⟨#[97, 109, 113, 112, 58, 114, 101, 108, 101, 97, 115, 101, 100, 58, 108, 105, 115, 116]⟩, .int .i64 0, .func (.func 22) #[] #[], .func (.func 26) #[] #[], .int .u8 5, .int .u64 39, .string ⟨#[97, 109, 113, 112, 58, 109, 111, 100, 105, 102, 105, 101, 100, 58, 108, 105, 115, 116]⟩, .int .i64 3, .func (.func 27) #[] #[], .func (.func 28) #[] #[]] 46)) := (Below.refl _ _).alloc (Nat.le_refl _) _
  have HB := Lib.hid hb0
  clear hb0
  go_enter Tryd.func12, Tryd.ntmps12
  go_wp2
  go_ret
  exact ⟨_, 0, rfl, HV.out, HB.out⟩
end Go.Proofs.YtohmnbefokhjpaaDoor.Oc

namespace Go.Proofs.YtohmnbefokhjpaaDoor.Oc
set_option maxRecDepth 100000
open Go.RowKit Go.Proofs.YtohmnbefokhjpaaDoor.Utf Go.Proofs.YtohmnbefokhjpaaDoor.Val Go.Proofs.YtohmnbefokhjpaaDoor.Fl V

/-- An outcome and an error's number. -/
def GivesOE (o : Option O) (w : World) (e : Ending) (w' : World) : Prop :=
  match o with
  | none => e = .returned (.tuple #[.agg #[.int .u8 0, .int .u64 0, .int .u64 0, .string ⟨#[]⟩], .int .i64 6]) ∧ Below w.heap.size w w'
  | some p => e = .returned (.tuple #[oV p, .int .i64 0]) ∧ Below w.heap.size w w'
/-- A box of one of the five. -/
def B6 (w : World) (g : Nat) (x0 x1 x2 x3 x4 x5 : Value) : Prop := w.heap[g]? = some (.cells #[x0, x1, x2, x3, x4, x5] 46 (0, 0))
section
variable {w w' : World} {g : Nat} {x0 x1 x2 x3 x4 x5 : Value}
theorem B6.lt (h : B6 w g x0 x1 x2 x3 x4 x5) : g < w.heap.size := (Array.getElem?_eq_some_iff.1 h).1
theorem B6.call (h : B6 w g x0 x1 x2 x3 x4 x5) (hb : Below w.heap.size w w') : B6 w' g x0 x1 x2 x3 x4 x5 := (hb.block g h.lt).trans h
theorem B6.off {X : Nat → Prop} (h : B6 w g x0 x1 x2 x3 x4 x5) (ho : Off X w w') (hX : ¬ X g) : B6 w' g x0 x1 x2 x3 x4 x5 := (ho.block g h.lt hX).trans h
theorem B6.all (h : B6 w g x0 x1 x2 x3 x4 x5) : w.cell? ⟨g, 0, none⟩ = some x0 ∧ w.cell? ⟨g, 1, none⟩ = some x1 ∧ w.cell? ⟨g, 2, none⟩ = some x2 ∧ w.cell? ⟨g, 3, none⟩ = some x3 ∧ w.cell? ⟨g, 4, none⟩ = some x4 ∧ w.cell? ⟨g, 5, none⟩ = some x5 :=
  ⟨cell_of_row w g 0 _ _ _ h, cell_of_row w g 1 _ _ _ h, cell_of_row w g 2 _ _ _ h, cell_of_row w g 3 _ _ _ h, cell_of_row w g 4 _ _ _ h, cell_of_row w g 5 _ _ _ h⟩
end
theorem five_drop {j : Nat} (hj : j < 5) : ([1, 2, 3, 4, 5] : List Nat).drop j = (j + 1) :: ([1, 2, 3, 4, 5] : List Nat).drop (j + 1) := by
  have hj' : j = 0 ∨ j = 1 ∨ j = 2 ∨ j = 3 ∨ j = 4 := by omega
  rcases hj' with rfl | rfl | rfl | rfl | rfl <;> rfl
theorem first_hit {v : V} {j : Nat} {ls : List V} (hj : j < 5) (h : newR v (34 + (j + 1)) (oname (j + 1)) = some ls) : firstR v (([1, 2, 3, 4, 5] : List Nat).drop j) = some (j + 1, ls) := by
  rw [five_drop hj]
  unfold firstR
  rw [h]
theorem first_miss {v : V} {j : Nat} (hj : j < 5) (h : newR v (34 + (j + 1)) (oname (j + 1)) = none) : firstR v (([1, 2, 3, 4, 5] : List Nat).drop j) = firstR v (([1, 2, 3, 4, 5] : List Nat).drop (j + 1)) := by
  rw [five_drop hj]
  conv => lhs; unfold firstR
  rw [h]
theorem get_null {v : V} (h : v.kind = 1) : getR v = some ⟨0, 0, 0, ⟨#[]⟩⟩ := if_pos h
theorem get_miss {v : V} (h : ¬ v.kind = 1) (hf : firstR v [1, 2, 3, 4, 5] = none) : getR v = none := by unfold getR; rw [if_neg h, hf]
theorem get_hit {v : V} {k : Nat} {ls : List V} (h : ¬ v.kind = 1) (hf : firstR v [1, 2, 3, 4, 5] = some (k, ls)) : getR v = readO k ls := by unfold getR; rw [if_neg h, hf]
/-- What is kept while an outcome is got: the value's box, the answer's box, the outcome's box, the five. -/
structure SH (w wi : World) (k n : Nat) (t : ByteArray) (A : Option Addr) (l c : Nat) (g o : Nat) : Prop where
  b1 : Box wi w.heap.size (.int .u8 (k : Int)) (.int .u64 (n : Int)) (.string t) (.slice A l c)
  b2 : BxO wi (w.heap.size + 1) (.int .u8 0) (.int .u64 0) (.int .u64 0) (.string ⟨#[]⟩)
  b4 : BxO wi (w.heap.size + 1 + 1) (.int .u8 0) (.int .u64 0) (.int .u64 0) (.string ⟨#[]⟩)
  fv : Fv wi g o
  low : Below w.heap.size w wi
section
variable {w wi w' : World} {k n : Nat} {t : ByteArray} {A : Option Addr} {l c : Nat} {g o : Nat}
theorem SH.call (h : SH w wi k n t A l c g o) (hb : Below wi.heap.size wi w') : SH w w' k n t A l c g o := ⟨h.b1.call hb, h.b2.call hb, h.b4.call hb, h.fv.call hb, below_next h.low hb⟩
theorem SH.alloc (h : SH w wi k n t A l c g o) (b : Obj) : SH w (wi.alloc b) k n t A l c g o := h.call ((Below.refl _ _).alloc (Nat.le_refl _) _)
end

/-- What Done answers, of fields of which only the length is asked. -/
theorem done_obj {w : World} {g : Nat} {ls : List V} {A : Option Addr} {l c : Nat} {sp : Bool} (ho : w.heap[g]? = some (.cells #[.slice A l c, .bool sp] 63 (0, 0))) (hl : l = ls.length) (n : Int) : Calls Tryd.prog 18 #[.pointer (some ⟨g, 0, none⟩), .int .i64 n] w fun e w' => e = .returned (.int .i64 (doneN ls sp n)) ∧ w = w' := by
  have a0 : w.cell? ⟨g, 0, none⟩ = some (.slice A l c) := cell_of_row w g 0 _ _ _ ho
  have a1 : w.cell? ⟨g, 1, none⟩ = some (.bool sp) := cell_of_row w g 1 _ _ _ ho
  unfold doneN
  rw [← hl]
  clear ho hl
  cases sp with
  | true =>
    rw [if_pos (.inl rfl)]
    go_enter Tryd.func18, Tryd.ntmps18
    go_wp2
    go_ret
    exact ⟨rfl, rfl⟩
  | false =>
    by_cases hn : n < (l : Int)
    · rw [if_pos (.inr hn)]
      have hd : decide (n < (l : Int)) = true := decide_eq_true hn
      clear hn
      go_enter Tryd.func18, Tryd.ntmps18
      go_wp2
      go_ret
      exact ⟨rfl, rfl⟩
    · rw [if_neg (by simp [hn])]
      have hd : decide (n < (l : Int)) = false := decide_eq_false hn
      clear hn
      go_enter Tryd.func18, Tryd.ntmps18
      go_wp2
      go_ret
      exact ⟨rfl, rfl⟩

set_option maxHeartbeats 2000000 in
theorem oget_any (k n : Nat) (t : ByteArray) (ks : List V) (A : Option Addr) (l c : Nat) (w : World) (hN : bulkL ks ≤ 268435456) (ht : t.size ≤ 268435456) (hn : n < 18446744073709551616) (hK : Kd w ks A l c) (hTab : Tab w) :
    Calls Tryd.prog 8 #[.agg #[.int .u8 (k : Int), .int .u64 (n : Int), .string t, .slice A l c]] w (GivesOE (getR (.mk k n t ks)) w) := by
  have hB : Below w.heap.size w ((w.alloc (.cells #[.int .u8 (k : Int), .int .u64 (n : Int), .string t, .slice A l c] 27)).alloc (.cells #[.int .u8 0, .int .u64 0, .int .u64 0, .string ⟨#[]⟩] 24)) := two_boxes w _ _
  have h1 : Box ((w.alloc (.cells #[.int .u8 (k : Int), .int .u64 (n : Int), .string t, .slice A l c] 27)).alloc (.cells #[.int .u8 0, .int .u64 0, .int .u64 0, .string ⟨#[]⟩] 24)) w.heap.size (.int .u8 (k : Int)) (.int .u64 (n : Int)) (.string t) (.slice A l c) := (Box.new w _ _ _ _).alloc _
  have h2 : BxO ((w.alloc (.cells #[.int .u8 (k : Int), .int .u64 (n : Int), .string t, .slice A l c] 27)).alloc (.cells #[.int .u8 0, .int .u64 0, .int .u64 0, .string ⟨#[]⟩] 24)) (w.heap.size + 1) (.int .u8 0) (.int .u64 0) (.int .u64 0) (.string ⟨#[]⟩) := by
    have := BxO.new (w.alloc (.cells #[.int .u8 (k : Int), .int .u64 (n : Int), .string t, .slice A l c] 27)) (.int .u8 0) (.int .u64 0) (.int .u64 0) (.string ⟨#[]⟩)
    rwa [World.size_alloc] at this
  by_cases hk1 : k = 1
  · have HR := Lib.hid (get_null (v := .mk k n t ks) hk1)
    have HB := Lib.hid hB
    subst hk1
    clear hB h1 h2 hK hTab hN ht hn
    go_enter Tryd.func8, Tryd.ntmps8
    go_wp2
    go_step3
    go_wp2
    try rw [Exit.noGoto_ret]
    refine bodyPost_ret (v := .tuple #[.agg #[.int .u8 0, .int .u64 0, .int .u64 0, .string ⟨#[]⟩], .int .i64 0]) (by simp [results, Tryd.results8, go_sem]) rfl ?_
    rw [HR.out]
    exact ⟨rfl, HB.out⟩
  · have hd : ((k : Int) == 1) = false := by rw [beq_eq_false_iff_ne]; omega
    have hsz : (((w.alloc (.cells #[.int .u8 (k : Int), .int .u64 (n : Int), .string t, .slice A l c] 27)).alloc (.cells #[.int .u8 0, .int .u64 0, .int .u64 0, .string ⟨#[]⟩] 24))).heap.size = w.heap.size + 2 := by simp
    have HW0 := Lib.hid (show Below w.heap.size w (((w.alloc (.cells #[.int .u8 (k : Int), .int .u64 (n : Int), .string t, .slice A l c] 27)).alloc (.cells #[.int .u8 0, .int .u64 0, .int .u64 0, .string ⟨#[]⟩] 24)).alloc (.cells #[.int .u8 0, .int .u64 0, .int .u64 0, .string ⟨#[]⟩] 24)) from hB.alloc (by omega) _)
    have H1 := Lib.hid (h1.alloc (.cells #[.int .u8 0, .int .u64 0, .int .u64 0, .string ⟨#[]⟩] 24))
    have H2 := Lib.hid (h2.call ((Below.refl _ _).alloc (Nat.le_refl _) (.cells #[.int .u8 0, .int .u64 0, .int .u64 0, .string ⟨#[]⟩] 24)))
    have H4 : Hid (BxO (((w.alloc (.cells #[.int .u8 (k : Int), .int .u64 (n : Int), .string t, .slice A l c] 27)).alloc (.cells #[.int .u8 0, .int .u64 0, .int .u64 0, .string ⟨#[]⟩] 24)).alloc (.cells #[.int .u8 0, .int .u64 0, .int .u64 0, .string ⟨#[]⟩] 24)) (w.heap.size + 1 + 1) (.int .u8 0) (.int .u64 0) (.int .u64 0) (.string ⟨#[]⟩)) := Lib.hid (by
      have := BxO.new ((w.alloc (.cells #[.int .u8 (k : Int), .int .u64 (n : Int), .string t, .slice A l c] 27)).alloc (.cells #[.int .u8 0, .int .u64 0, .int .u64 0, .string ⟨#[]⟩] 24)) (.int .u8 0) (.int .u64 0) (.int .u64 0) (.string ⟨#[]⟩)
      rwa [hsz] at this)
    have HNK := Lib.hid (show ¬ (V.mk k n t ks).kind = 1 from hk1)
    have HN := Lib.hid hN
    have HT := Lib.hid ht
    have HNN := Lib.hid hn
    have HK := Lib.hid hK
    have HTab := Lib.hid hTab
    clear hB h1 h2 hsz hN ht hn hK hTab hk1
    go_enter Tryd.func8, Tryd.ntmps8
    go_wp2_with fail
    go_step3
    go_wp2_with fail
    go_step3
    go_wp2_with fail
    refine (five_any _).mono ?_
    rintro e w2 ⟨g, o, rfl, hF, hb2⟩
    have hG : SH w w2 k n t A l c g o := ⟨H1.out.call hb2, H2.out.call hb2, H4.out.call hb2, hF, below_next HW0.out hb2⟩
    have HG := Lib.hid hG
    clear hb2 hF hG H1 H2 H4 HW0
    go_wp2_with fail
    go_loopw [5, 16] (fun s5 s wr => s5 = .int .i64 6 ∧ ∃ j : Nat, j ≤ 5 ∧ s = .int .i64 j ∧ firstR (.mk k n t ks) [1, 2, 3, 4, 5] = firstR (.mk k n t ks) (([1, 2, 3, 4, 5] : List Nat).drop j) ∧ SH w wr k n t A l c g o) (fun _ s _ => 5 - (intOf s).toNat)
    case atStart => exact ⟨rfl, 0, by omega, rfl, rfl, HG.out⟩
    case round =>
      obtain ⟨rfl, j, hj, rfl, hfi, hS⟩ := hrel
      have HFI := Lib.hid hfi
      have HSS := Lib.hid hS
      clear hfi hS HG
      by_cases hlt : j < 5
      · obtain ⟨ft, fr, htl, hrd, _, hef, c0, c1, c2, c3, c4, c5⟩ := HSS.out.fv.2 j hlt
        have hcr : ∀ (args : Array Value) (w : World), (callFunc fr args).run Tryd.prog w = .ok (.enter fr args) w := hef
        obtain ⟨x0, x1, x2, x3, xf⟩ := HSS.out.b1.all
        have hs1 := HSS.out.b1.lt
        have hs4 := HSS.out.b4.lt
        have hne : ¬ w.heap.size = wr.heap.size := by omega
        have HRD := Lib.hid hrd
        obtain ⟨p, hp⟩ : ∃ p, o + j * 6 = p := ⟨_, rfl⟩
        obtain ⟨k', hk'⟩ : ∃ k', j + 1 = k' := ⟨_, rfl⟩
        obtain ⟨cd, hcd⟩ : ∃ cd, 34 + k' = cd := ⟨_, rfl⟩
        obtain ⟨nm, hnm⟩ : ∃ nm, oname k' = nm := ⟨_, rfl⟩
        obtain ⟨mo, hmo⟩ : ∃ mo, mostN k' = mo := ⟨_, rfl⟩
        rw [hk'] at c0 c1 c2 c3 HRD
        rw [hp] at c0 c1 c2 c3 c4 c5
        rw [hcd] at c1
        rw [hnm] at c2
        rw [hmo] at c3
        have HCD := Lib.hid hcd
        have HNM := Lib.hid hnm
        have HMO := Lib.hid hmo
        have HKK := Lib.hid hk'
        clear htl hrd hef hnm hmo hcd hk'
        have HS3 := Lib.hid (SH.alloc HSS.out (.cells #[.int .u8 (k' : Int), .int .u64 (cd : Int), .string nm, .int .i64 mo, .func (.func ft) #[] #[], .func (.func fr) #[] #[]] 46))
        have HB6 : Hid (B6 (wr.alloc (.cells #[.int .u8 (k' : Int), .int .u64 (cd : Int), .string nm, .int .i64 mo, .func (.func ft) #[] #[], .func (.func fr) #[] #[]] 46)) wr.heap.size (.int .u8 (k' : Int)) (.int .u64 (cd : Int)) (.string nm) (.int .i64 mo) (.func (.func ft) #[] #[]) (.func (.func fr) #[] #[])) := Lib.hid (heap_alloc_new wr _)
        have HNW := Lib.hid (new_any k n t ks A l c cd nm (wr.alloc (.cells #[.int .u8 (k' : Int), .int .u64 (cd : Int), .string nm, .int .i64 mo, .func (.func ft) #[] #[], .func (.func fr) #[] #[]] 46)) (by have := HN.out; omega) (by have := HT.out; omega) HNN.out (HK.out.call HS3.out.low) (HTab.out.call HS3.out.low))
        cases hnw : newR (.mk k n t ks) cd nm with
        | none =>
          rw [hnw] at HNW
          have HM := Lib.hid (first_miss (v := .mk k n t ks) hlt (by rw [HKK.out, HCD.out, HNM.out]; exact hnw))
          clear hnw
          go_wp2_with fail
          refine HNW.out.mono ?_
          rintro e w3 ⟨rfl, hb3⟩
          have HS4 := Lib.hid (HS3.out.call hb3)
          clear hb3 HS3 HB6
          go_wp2
          go_roundw
          case rel => exact ⟨rfl, j + 1, by omega, by go_num, HFI.out.trans HM.out, HS4.out⟩
          case measure => simp [intOf]; omega
        | some ls =>
          rw [hnw] at HNW
          have HM := Lib.hid (first_hit (v := .mk k n t ks) hlt (by rw [HKK.out, HCD.out, HNM.out]; exact hnw))
          have HR : Hid (getR (.mk k n t ks) = readO k' ls) := Lib.hid (by rw [← HKK.out]; exact get_hit HNK.out (HFI.out.trans HM.out))
          have HL : Hid (bulkL ls ≤ 268435456) := Lib.hid (by
            have := HN.out
            obtain ⟨n', t', d, n'', t'', e, _, _⟩ := newR_some hnw
            injection e with _ _ _ e
            subst e
            simp only [bulkL, bulk] at this
            omega)
          clear hnw
          go_wp2_with fail
          refine HNW.out.mono ?_
          rintro e w3 ⟨g3, A3, l3, c3', rfl, hg3, hF3, _, hb3⟩
          have HS4 := Lib.hid (HS3.out.call hb3)
          have HB64 := Lib.hid (HB6.out.call hb3)
          have HTB := Lib.hid (HTab.out.call HS4.out.low)
          have hg3' : wr.heap.size + 1 ≤ g3 := by simpa using hg3
          have hpos : 0 < g3 := by omega
          have HF3 := Lib.hid hF3
          obtain ⟨y0, y1, y2, y3, y4, y5⟩ := HB64.out.all
          clear hb3 HS3 HB6 hF3 hg3
          go_wp2_with fail
          refine (HRD.out _ _ _ _ _ _ _ HF3.out hpos HL.out HTB.out).mono ?_
          rintro e w4 ⟨r4, rfl, rfl, ho4, hF4⟩
          have HB65 := Lib.hid (HB64.out.off ho4 (by omega))
          have HX2 := Lib.hid (HS4.out.b2.off ho4 (by omega))
          have HX4 := Lib.hid (HS4.out.b4.off ho4 (by omega))
          have HLW := Lib.hid (show Below w.heap.size w w4 from HS4.out.low.trans (ho4.below HS4.out.low.size fun i hi e => by omega))
          have HF4 := Lib.hid hF4
          obtain ⟨ro, hro⟩ : ∃ ro, (rdR k' ls).1 = ro := ⟨_, rfl⟩
          obtain ⟨rs, hrs⟩ : ∃ rs, (rdR k' ls).2 = rs := ⟨_, rfl⟩
          have HRO : Hid (getR (.mk k n t ks) = if doneN ls rs mo = 0 then some ro else none) := Lib.hid (by rw [HR.out, ← hro, ← hrs, ← HMO.out]; rfl)
          rw [hro]
          rw [hrs] at HF4
          obtain ⟨rk, ra, rb, rc⟩ := ro
          unfold oV
          simp only
          obtain ⟨z0, z1, z2, z3, zf⟩ := HX4.out.all
          clear ho4 hF4 hro hrs y0 y1 y2 y3 y4 y5 HRD HNW HS4 HB64 HF3 HR
          obtain ⟨q0, q1, q2, q3, qf⟩ := HX2.out.all
          obtain ⟨y0, y1, y2, y3, y4, y5⟩ := HB65.out.all
          have hls3 := HX4.out.lt
          go_wp2_with fail
          have hob := obj_far4 HF4.out.obj (show g3 ≠ w.heap.size + 1 + 1 by omega) (.int .u8 (rk : Int)) (.int .u64 (ra : Int)) (.int .u64 (rb : Int)) (.string rc)
          refine (done_obj (ls := ls) hob HF4.out.fkd.len mo).mono ?_
          rintro e w5 ⟨rfl, hw5⟩
          subst hw5
          clear hob
          by_cases hd0 : doneN ls rs mo = 0
          · have HR2 : Hid (getR (.mk k n t ks) = some ⟨rk, ra, rb, rc⟩) := Lib.hid (HRO.out.trans (if_pos hd0))
            rw [hd0]
            clear hd0 HRO
            go_wp2
            try rw [Exit.noGoto_ret]
            refine bodyPost_ret (v := .tuple #[.agg #[.int .u8 (rk : Int), .int .u64 (ra : Int), .int .u64 (rb : Int), .string rc], .int .i64 0]) (by simp [results, Tryd.results8, go_sem, q0, q1, q2, q3]) rfl ?_
            rw [HR2.out]
            exact ⟨rfl, below_set4 (below_set4 HLW.out (by omega) _ _ _ _) (by omega) _ _ _ _⟩
          · have HR2 : Hid (getR (.mk k n t ks) = none) := Lib.hid (HRO.out.trans (if_neg hd0))
            rw [done_not hd0]
            clear hd0 HRO
            go_wp2
            try rw [Exit.noGoto_ret]
            refine bodyPost_ret (v := .tuple #[.agg #[.int .u8 0, .int .u64 0, .int .u64 0, .string ⟨#[]⟩], .int .i64 6]) (by simp [results, Tryd.results8, go_sem, q0, q1, q2, q3]) rfl ?_
            rw [HR2.out]
            exact ⟨rfl, below_set4 (below_set4 HLW.out (by omega) _ _ _ _) (by omega) _ _ _ _⟩
      · have HR2 : Hid (getR (.mk k n t ks) = none) := Lib.hid (by
          refine get_miss HNK.out (HFI.out.trans ?_)
          rw [show j = 5 by omega]; rfl)
        obtain ⟨q0, q1, q2, q3, qf⟩ := HSS.out.b2.all
        go_wp2
        try rw [Exit.noGoto_ret]
        refine bodyPost_ret (v := .tuple #[.agg #[.int .u8 0, .int .u64 0, .int .u64 0, .string ⟨#[]⟩], .int .i64 6]) (by simp [results, Tryd.results8, go_sem, q0, q1, q2, q3]) rfl ?_
        rw [HR2.out]
        exact ⟨rfl, below_set4 HSS.out.low (by omega) _ _ _ _⟩
end Go.Proofs.YtohmnbefokhjpaaDoor.Oc
