/-
  Contracts of the program's GetCond and of those that read an outcome's fields. Memory that was there stays, but for the block of the fields. Conditions: the table utf.shapes lies as the program's text lays it; values of bulk at most 2^28.
-/
import Derived.Test.YtobnbgbijdhjjaaDoorOcd
namespace Go.Proofs.YtobnbgbijdhjjaaDoor.Oc
set_option maxRecDepth 100000
open Go.RowKit Go.Proofs.YtobnbgbijdhjjaaDoor.Utf Go.Proofs.YtobnbgbijdhjjaaDoor.Val Go.Proofs.YtobnbgbijdhjjaaDoor.Fl V

/-- A text and an error's number. -/
def GivesSE (o : Option ByteArray) (w : World) (e : Ending) (w' : World) : Prop :=
  match o with
  | none => e = .returned (.tuple #[.string ⟨#[]⟩, .int .i64 6]) ∧ Below w.heap.size w w'
  | some s => e = .returned (.tuple #[.string s, .int .i64 0]) ∧ Below w.heap.size w w'
theorem new29 (k n : Nat) (t : ByteArray) (ks : List V) (A : Option Addr) (l c : Nat) (w : World) (hN : bulkL ks ≤ 536870912) (ht : t.size ≤ 536870912) (hn : n < 18446744073709551616) (hK : Kd w ks A l c) (hTab : Tab w) :
    Calls Tryd.prog 12 #[.agg #[.int .u8 (k : Int), .int .u64 (n : Int), .string t, .slice A l c], .int .u64 29, .string ⟨#[97, 109, 113, 112, 58, 101, 114, 114, 111, 114, 58, 108, 105, 115, 116]⟩] w (GivesNew (newR (.mk k n t ks) 29 ename) w) := new_any k n t ks A l c 29 ename w hN ht hn hK hTab
theorem kinds_map (w : World) (g : Nat) (hg : w.heap.size = g) : Kinds (w.alloc (.cells #[.int .u8 23] 5)) (some ⟨g, 0, none⟩) 1 [23] := by
  subst hg
  refine ⟨⟨rfl, by simp, fun _ => ⟨w.heap.size, 0, rfl, by simp, fun k hk => ?_⟩⟩, by omega⟩
  have : k = 0 := by simpa using hk
  subst this
  simp
theorem kinds_nil (w : World) : Kinds w none 0 [] := ⟨⟨rfl, by simp, fun h => absurd h (by omega)⟩, by omega⟩
section
variable {X : Nat → Prop} {w : World} {g : Nat} {ls : List V} {A : Option Addr} {l c : Nat} {sp : Bool}
theorem er_t0 (h : Fld 75 X w g ls A l c false) : Calls Tryd.prog 42 #[.pointer (some ⟨g, 0, none⟩), .int .i64 0, .int .u8 21, .bool true] w (GivesF 75 X g ls A l c (fun r _ => r = .string (oneR ls 0 21 true false ⟨#[]⟩ V.text).1) (oneR ls 0 21 true false ⟨#[]⟩ V.text).2 w) := ftext_any h 0 21 true _ rfl
theorem er_t1 (h : Fld 75 X w g ls A l c sp) : Calls Tryd.prog 42 #[.pointer (some ⟨g, 0, none⟩), .int .i64 1, .int .u8 20, .bool false] w (GivesF 75 X g ls A l c (fun r _ => r = .string (oneR ls 1 20 false sp ⟨#[]⟩ V.text).1) (oneR ls 1 20 false sp ⟨#[]⟩ V.text).2 w) := ftext_any h 1 20 false _ rfl
/-- An answer of which nothing is asked, and how it stands with the fields then. -/
theorem ask_map (h : Fld 75 X w g ls A l c sp) {KA : Option Addr} {kc : Nat} (hK : Kinds w KA 1 [23]) (hN : bulkL ls ≤ 1073741824) : Calls Tryd.prog 43 #[.pointer (some ⟨g, 0, none⟩), .int .i64 2, .slice KA 1 kc] w (GivesF 75 X g ls A l c (fun r _ => ∃ x0 x1 x2 x3, r = .agg #[x0, x1, x2, x3]) (valR ls 2 [23] sp).2 w) := by
  obtain ⟨k, n, t, ks, sp', hq⟩ : ∃ k n t ks sp', valR ls 2 [23] sp = (.mk k n t ks, sp') := ⟨_, _, _, _, _, Prod.ext (V.eta _) rfl⟩
  rw [hq]
  refine (fvalue_any h hK 2 hN hq).mono fun e w' hh => hh.mono fun r hr => ?_
  obtain ⟨A2, l2, c2, rfl, _⟩ := hr
  exact ⟨_, _, _, _, rfl⟩
theorem er_done (h : Fld 75 X w g ls A l c sp) : Calls Tryd.prog 17 #[.pointer (some ⟨g, 0, none⟩), .int .i64 3] w fun e w' => e = .returned (.int .i64 (doneN ls sp 3)) ∧ w = w' := done_any h 3
end
/-- What is kept of fields that were made behind world w. -/
structure WN (w wi : World) (g : Nat) (ls : List V) (A : Option Addr) (l c : Nat) (sp : Bool) : Prop where
  fld : Fld 75 (fun i => g ≤ i) wi g ls A l c sp
  low : Below w.heap.size w wi
  ge : w.heap.size ≤ g
section
variable {w wi w' : World} {g : Nat} {ls : List V} {A : Option Addr} {l c : Nat} {sp sp' : Bool}
theorem WN.call (h : WN w wi g ls A l c sp) (hb : Below wi.heap.size wi w') : WN w w' g ls A l c sp := ⟨h.fld.call hb, below_next h.low hb, h.ge⟩
theorem WN.alloc (h : WN w wi g ls A l c sp) (o : Obj) : WN w (wi.alloc o) g ls A l c sp := h.call ((Below.refl _ _).alloc (Nat.le_refl _) _)
theorem WN.next (h : WN w wi g ls A l c sp) (ho : Off (fun i => i = g) wi w') (hF : Fld 75 (fun i => g ≤ i) w' g ls A l c sp') : WN w w' g ls A l c sp' :=
  ⟨hF, h.low.trans (ho.below h.low.size fun i hi e => by have := h.ge; omega), h.ge⟩
end
theorem cond_null {v : V} (h : v.kind = 1) : condR v = some ⟨#[]⟩ := if_pos h
theorem cond_none {v : V} (h : ¬ v.kind = 1) (hn : newR v 29 ename = none) : condR v = none := by unfold condR; rw [if_neg h, hn]
theorem cond_some {v : V} {ls : List V} (h : ¬ v.kind = 1) (hn : newR v 29 ename = some ls) : condR v = if doneN ls (erR ls).2 3 = 0 then some (erR ls).1 else none := by unfold condR; rw [if_neg h, hn]

set_option maxHeartbeats 1000000 in
theorem getcond_any (k n : Nat) (t : ByteArray) (ks : List V) (A : Option Addr) (l c : Nat) (w : World) (hN : bulkL ks ≤ 536870912) (ht : t.size ≤ 536870912) (hn : n < 18446744073709551616) (hK : Kd w ks A l c) (hTab : Tab w) :
    Calls Tryd.prog 27 #[.agg #[.int .u8 (k : Int), .int .u64 (n : Int), .string t, .slice A l c]] w (GivesSE (condR (.mk k n t ks)) w) := by
  have hb0 : Below w.heap.size w (w.alloc (.cells #[.int .u8 (k : Int), .int .u64 (n : Int), .string t, .slice A l c] 25)) := (Below.refl _ _).alloc (Nat.le_refl _) _
  have HQ := Lib.hid (new29 k n t ks A l c _ hN ht hn (hK.call hb0) (hTab.call hb0))
  have HB := Lib.hid hb0
  have HN := Lib.hid hN
  clear ht hn hK hTab hN hb0
  by_cases h1 : k = 1
  · subst h1
    rw [cond_null (v := .mk 1 n t ks) rfl]
    go_enter Tryd.func27, Tryd.ntmps27
    go_wp2
    refine bodyPost_ret (v := .tuple #[.string ⟨#[]⟩, .int .i64 0]) (by simp [results, Tryd.results27, go_sem]) rfl ?_
    exact ⟨rfl, HB.out⟩
  · have hd : ((k : Int) == 1) = false := by rw [beq_eq_false_iff_ne]; omega
    cases hnw : newR (.mk k n t ks) 29 ename with
    | none =>
      rw [hnw] at HQ
      rw [cond_none (v := .mk k n t ks) h1 hnw]
      clear h1 hnw
      go_enter Tryd.func27, Tryd.ntmps27
      go_wp2_with fail
      refine HQ.out.mono ?_
      rintro e w1 ⟨rfl, hb1⟩
      have HB1 := Lib.hid (below_next HB.out hb1)
      clear hb1
      go_wp2
      refine bodyPost_ret (v := .tuple #[.string ⟨#[]⟩, .int .i64 6]) (by simp [results, Tryd.results27, go_sem]) rfl ?_
      exact ⟨rfl, HB1.out⟩
    | some ls =>
      rw [hnw] at HQ
      have ho := cond_some (v := .mk k n t ks) h1 hnw
      have HL : Hid (bulkL ls ≤ 1073741824) := Lib.hid (by
        have := HN.out
        obtain ⟨n', t', d, n'', t'', e, _, _⟩ := newR_some hnw
        injection e with _ _ _ e
        subst e
        simp only [bulkL, bulk] at this
        omega)
      clear h1 hnw HN
      obtain ⟨s, hs⟩ : ∃ s, (erR ls).1 = s := ⟨_, rfl⟩
      obtain ⟨sp, hsp⟩ : ∃ sp, (erR ls).2 = sp := ⟨_, rfl⟩
      rw [hs, hsp] at ho
      have HO := Lib.hid ho
      clear ho
      have HS := Lib.hid hs
      have HSP := Lib.hid hsp
      clear hs hsp
      go_enter Tryd.func27, Tryd.ntmps27
      go_wp2_with fail
      refine HQ.out.mono ?_
      rintro e w1 ⟨g, A1, l1, c1, rfl, hg, hF, _, hb1⟩
      have H1 := Lib.hid (WN.mk (w := w) hF (below_next HB.out hb1) (Nat.le_trans HB.out.size hg))
      clear hb1 hF hg HQ
      go_wp2_with fail
      refine (er_t0 H1.out.fld).mono ?_
      rintro e w2 ⟨r2, rfl, hr2, ho2, hF2⟩
      have H2 := Lib.hid (H1.out.next ho2 hF2)
      obtain rfl : r2 = .string s := hr2.trans (by rw [← HS.out]; rfl)
      clear hr2
      clear ho2 hF2 H1
      go_wp2_with fail
      refine (er_t1 H2.out.fld).mono ?_
      rintro e w3 ⟨r3, rfl, rfl, ho3, hF3⟩
      have H3 := Lib.hid (H2.out.next ho3 hF3)
      clear ho3 hF3 H2
      go_wp2_with fail
      have H4 := Lib.hid (H3.out.alloc (.cells #[.int .u8 23] 5))
      refine (ask_map H4.out.fld (kinds_map _ _ rfl) HL.out).mono ?_
      rintro e w5 ⟨r5, rfl, ⟨x0, x1, x2, x3, rfl⟩, ho5, hF5⟩
      have h5 := H4.out.next ho5 hF5
      have hsp : (valR ls 2 [23] (oneR ls 1 20 false (oneR ls 0 21 true false ⟨#[]⟩ V.text).2 ⟨#[]⟩ V.text).2).2 = sp := HSP.out
      rw [hsp] at h5
      have H5 := Lib.hid h5
      clear ho5 hF5 H4 H3 h5 hsp
      go_wp2_with fail
      refine (er_done H5.out.fld).mono ?_
      rintro e w6 ⟨rfl, rfl⟩
      by_cases hd0 : doneN ls sp 3 = 0
      · have HO2 : Hid (condR (.mk k n t ks) = some s) := Lib.hid (by rw [HO.out, if_pos hd0])
        rw [hd0]
        clear hd0
        go_wp2
        refine bodyPost_ret (v := .tuple #[.string s, .int .i64 0]) (by simp [results, Tryd.results27, go_sem]) rfl ?_
        rw [HO2.out]
        exact ⟨rfl, H5.out.low⟩
      · have HO2 : Hid (condR (.mk k n t ks) = none) := Lib.hid (by rw [HO.out, if_neg hd0])
        rw [done_not hd0]
        clear hd0
        go_wp2
        refine bodyPost_ret (v := .tuple #[.string ⟨#[]⟩, .int .i64 6]) (by simp [results, Tryd.results27, go_sem]) rfl ?_
        rw [HO2.out]
        exact ⟨rfl, H5.out.low⟩

/-- What is kept while fields are read: the fields, and the answer's box. -/
structure SO (X : Nat → Prop) (w wi : World) (g : Nat) (ls : List V) (A : Option Addr) (l c : Nat) (sp : Bool) : Prop where
  fld : Fld 75 X wi g ls A l c sp
  off : Off (fun i => i = g) w wi
  bx : BxO wi w.heap.size (.int .u8 0) (.int .u64 0) (.int .u64 0) (.string ⟨#[]⟩)
  lt : g < w.heap.size
section
variable {X : Nat → Prop} {w wi w' : World} {g : Nat} {ls : List V} {A : Option Addr} {l c : Nat} {sp sp' : Bool}
theorem SO.call (h : SO X w wi g ls A l c sp) (hb : Below wi.heap.size wi w') : SO X w w' g ls A l c sp := ⟨h.fld.call hb, h.off.next hb, h.bx.call hb, h.lt⟩
theorem SO.alloc (h : SO X w wi g ls A l c sp) (o : Obj) : SO X w (wi.alloc o) g ls A l c sp := h.call ((Below.refl _ _).alloc (Nat.le_refl _) _)
theorem SO.next (h : SO X w wi g ls A l c sp) (ho : Off (fun i => i = g) wi w') (hF : Fld 75 X w' g ls A l c sp') : SO X w w' g ls A l c sp' :=
  ⟨hF, h.off.trans ho, h.bx.off ho (by have := h.lt; omega), h.lt⟩
theorem SO.new (h : Fld 75 X w g ls A l c sp) : SO X w (w.alloc (.cells #[.int .u8 0, .int .u64 0, .int .u64 0, .string ⟨#[]⟩] 52)) g ls A l c sp :=
  have hb : Below w.heap.size w (w.alloc (.cells #[.int .u8 0, .int .u64 0, .int .u64 0, .string ⟨#[]⟩] 52)) := (Below.refl _ _).alloc (Nat.le_refl _) _
  ⟨h.call hb, Off.of _ hb, BxO.new _ _ _ _ _, h.lt⟩
theorem SO.spoil (h : SO X w wi g ls A l c sp) : SO X w (wi.setCell ⟨g, 1, none⟩ (.bool true)) g ls A l c true :=
  h.next (Off.set _ _ _ rfl) h.fld.spoil
theorem SO.fin (h : SO X w wi g ls A l c sp) (h0 : Fld 75 X w g ls A l c sp') (x y z u : Value) : Off (fun i => i = g) w ((((wi.setCell ⟨w.heap.size, 0, none⟩ x).setCell ⟨w.heap.size, 1, none⟩ y).setCell ⟨w.heap.size, 2, none⟩ z).setCell ⟨w.heap.size, 3, none⟩ u) ∧
    Fld 75 X ((((wi.setCell ⟨w.heap.size, 0, none⟩ x).setCell ⟨w.heap.size, 1, none⟩ y).setCell ⟨w.heap.size, 2, none⟩ z).setCell ⟨w.heap.size, 3, none⟩ u) g ls A l c sp := by
  have ho := h.off.set4 (Nat.le_refl _) x y z u
  exact ⟨ho, h0.fin ho (obj_far4 h.fld.obj (by have := h.lt; omega) _ _ _ _)⟩
theorem rd_u0 (h : Fld 75 X w g ls A l c sp) : Calls Tryd.prog 35 #[.pointer (some ⟨g, 0, none⟩), .int .i64 0, .int .u8 5, .bool true, .int .u64 0] w (GivesF 75 X g ls A l c (fun r _ => r = .int .u64 ((oneR ls 0 5 true sp 0 V.num).1 : Int)) (oneR ls 0 5 true sp 0 V.num).2 w) := Fl.number_any h 0 5 true 0 _ rfl
theorem rd_u1 (h : Fld 75 X w g ls A l c sp) : Calls Tryd.prog 35 #[.pointer (some ⟨g, 0, none⟩), .int .i64 1, .int .u8 6, .bool true, .int .u64 0] w (GivesF 75 X g ls A l c (fun r _ => r = .int .u64 ((oneR ls 1 6 true sp 0 V.num).1 : Int)) (oneR ls 1 6 true sp 0 V.num).2 w) := Fl.number_any h 1 6 true 0 _ rfl
theorem rd_b0 (h : Fld 75 X w g ls A l c sp) : Calls Tryd.prog 35 #[.pointer (some ⟨g, 0, none⟩), .int .i64 0, .int .u8 2, .bool false, .int .u64 0] w (GivesF 75 X g ls A l c (fun r _ => r = .int .u64 ((oneR ls 0 2 false sp 0 V.num).1 : Int)) (oneR ls 0 2 false sp 0 V.num).2 w) := Fl.number_any h 0 2 false 0 _ rfl
theorem rd_b1 (h : Fld 75 X w g ls A l c sp) : Calls Tryd.prog 35 #[.pointer (some ⟨g, 0, none⟩), .int .i64 1, .int .u8 2, .bool false, .int .u64 0] w (GivesF 75 X g ls A l c (fun r _ => r = .int .u64 ((oneR ls 1 2 false sp 0 V.num).1 : Int)) (oneR ls 1 2 false sp 0 V.num).2 w) := Fl.number_any h 1 2 false 0 _ rfl
end
/-- An outcome as an answer. -/
def oV (o : O) : Value := .agg #[.int .u8 (o.k : Int), .int .u64 (o.a : Int), .int .u64 (o.b : Int), .string o.c]
/-- What one that reads fields answers. -/
def Reads (k fr : Nat) : Prop := ∀ (X : Nat → Prop) (w : World) (g : Nat) (ls : List V) (A : Option Addr) (l c : Nat), Fld 75 X w g ls A l c false → 0 < g → bulkL ls ≤ 268435456 → Tab w → Calls Tryd.prog fr #[.pointer (some ⟨g, 0, none⟩)] w (GivesF 75 X g ls A l c (fun r _ => r = oV (rdR k ls).1) (rdR k ls).2 w)
theorem rdacc : Reads 2 83 := by
  intro X w g ls A l c h hg hN hT
  have H0 := Lib.hid (SO.new h)
  have HF := Lib.hid h
  have HN := Lib.hid hN
  have HT := Lib.hid hT
  have HG0 := Lib.hid hg
  clear h hg hN hT
  go_enter Tryd.func83, Tryd.ntmps83
  go_wp2
  refine bodyPost_ret (v := .agg #[.int .u8 2, .int .u64 0, .int .u64 0, .string ⟨#[]⟩]) (by simp [results, Tryd.results83, go_sem]) rfl ?_
  have hb : Below w.heap.size w (w.alloc (.cells #[.int .u8 2, .int .u64 0, .int .u64 0, .string ⟨#[]⟩] 52)) := (Below.refl _ _).alloc (Nat.le_refl _) _
  exact ⟨_, rfl, rfl, Off.of _ hb, HF.out.call hb⟩
theorem rdrel : Reads 4 86 := by
  intro X w g ls A l c h hg hN hT
  have H0 := Lib.hid (SO.new h)
  have HF := Lib.hid h
  have HN := Lib.hid hN
  have HT := Lib.hid hT
  have HG0 := Lib.hid hg
  clear h hg hN hT
  go_enter Tryd.func86, Tryd.ntmps86
  go_wp2
  refine bodyPost_ret (v := .agg #[.int .u8 4, .int .u64 0, .int .u64 0, .string ⟨#[]⟩]) (by simp [results, Tryd.results86, go_sem]) rfl ?_
  have hb : Below w.heap.size w (w.alloc (.cells #[.int .u8 4, .int .u64 0, .int .u64 0, .string ⟨#[]⟩] 52)) := (Below.refl _ _).alloc (Nat.le_refl _) _
  exact ⟨_, rfl, rfl, Off.of _ hb, HF.out.call hb⟩
theorem rdrec : Reads 1 81 := by
  intro X w g ls A l c h hg hN hT
  have H0 := Lib.hid (SO.new h)
  have HF := Lib.hid h
  have HN := Lib.hid hN
  have HT := Lib.hid hT
  have HG0 := Lib.hid hg
  clear h hg hN hT
  go_enter Tryd.func81, Tryd.ntmps81
  go_wp2_with fail
  refine (rd_u0 H0.out.fld).mono ?_
  rintro e w1 ⟨r1, rfl, rfl, ho1, hF1⟩
  have H1 := Lib.hid (H0.out.next ho1 hF1)
  clear ho1 hF1 H0
  go_wp2_with fail
  refine (rd_u1 H1.out.fld).mono ?_
  rintro e w2 ⟨r2, rfl, rfl, ho2, hF2⟩
  have H2 := Lib.hid (H1.out.next ho2 hF2)
  clear ho2 hF2 H1
  obtain ⟨d0, d1, d2, d3, df⟩ := H2.out.bx.all
  obtain ⟨a, ha⟩ : ∃ a, (oneR ls 0 5 true false 0 V.num).1 = a := ⟨_, rfl⟩
  obtain ⟨b, hb⟩ : ∃ b, (oneR ls 1 6 true (oneR ls 0 5 true false 0 V.num).2 0 V.num).1 = b := ⟨_, rfl⟩
  rw [ha, hb]
  have HE : Hid ((rdR 1 ls).1 = ⟨1, a, b, ⟨#[]⟩⟩) := Lib.hid (by rw [← hb, ← ha]; rfl)
  clear ha hb
  go_wp2
  refine bodyPost_ret (v := .agg #[.int .u8 1, .int .u64 (a : Int), .int .u64 (b : Int), .string ⟨#[]⟩]) (by simp [results, Tryd.results81, go_sem, d0, d1, d2, d3]) rfl ?_
  obtain ⟨h1, h2⟩ := H2.out.fin HF.out (.int .u8 1) (.int .u64 (a : Int)) (.int .u64 (b : Int)) (.string ⟨#[]⟩)
  exact ⟨_, rfl, by rw [HE.out]; rfl, h1, h2⟩
theorem rdmod : Reads 5 88 := by
  intro X w g ls A l c h hg hN hT
  have H0 := Lib.hid (SO.new h)
  have HF := Lib.hid h
  have HN := Lib.hid hN
  have HT := Lib.hid hT
  have HG0 := Lib.hid hg
  clear h hg hN hT
  go_enter Tryd.func88, Tryd.ntmps88
  go_wp2_with fail
  have Ha := Lib.hid (H0.out.alloc (.cells #[.int .u8 23] 5))
  refine (ask_map Ha.out.fld (kinds_map _ _ (by simp)) (by have := HN.out; omega)).mono ?_
  rintro e w0 ⟨r0, rfl, ⟨x0, x1, x2, x3, rfl⟩, ho0, hF0⟩
  have Hb := Lib.hid (Ha.out.next ho0 hF0)
  clear ho0 hF0 H0 Ha
  go_wp2_with fail
  refine (rd_b0 Hb.out.fld).mono ?_
  rintro e w1 ⟨r1, rfl, rfl, ho1, hF1⟩
  have H1 := Lib.hid (Hb.out.next ho1 hF1)
  clear ho1 hF1 Hb
  go_wp2_with fail
  refine (rd_b1 H1.out.fld).mono ?_
  rintro e w2 ⟨r2, rfl, rfl, ho2, hF2⟩
  have H2 := Lib.hid (H1.out.next ho2 hF2)
  clear ho2 hF2 H1
  obtain ⟨d0, d1, d2, d3, df⟩ := H2.out.bx.all
  obtain ⟨a, ha⟩ : ∃ a, (oneR ls 0 2 false (valR ls 2 [23] false).2 0 V.num).1 = a := ⟨_, rfl⟩
  obtain ⟨b, hb⟩ : ∃ b, (oneR ls 1 2 false (oneR ls 0 2 false (valR ls 2 [23] false).2 0 V.num).2 0 V.num).1 = b := ⟨_, rfl⟩
  rw [ha, hb]
  have HE : Hid ((rdR 5 ls).1 = ⟨5, a, b, ⟨#[]⟩⟩) := Lib.hid (by rw [← hb, ← ha]; rfl)
  clear ha hb
  go_wp2
  refine bodyPost_ret (v := .agg #[.int .u8 5, .int .u64 (a : Int), .int .u64 (b : Int), .string ⟨#[]⟩]) (by simp [results, Tryd.results88, go_sem, d0, d1, d2, d3]) rfl ?_
  obtain ⟨h1, h2⟩ := H2.out.fin HF.out (.int .u8 5) (.int .u64 (a : Int)) (.int .u64 (b : Int)) (.string ⟨#[]⟩)
  exact ⟨_, rfl, by rw [HE.out]; rfl, h1, h2⟩
/-- Numbers of values in memory have 64 bits. -/
theorem ask_num {X : Nat → Prop} {w : World} {g : Nat} {ls : List V} {A : Option Addr} {l c : Nat} {sp : Bool} (h : Fld 75 X w g ls A l c sp) {i : Int} {v : V} (ha : Fl.ask ls i = some v) : v.num < 18446744073709551616 := by
  obtain ⟨j, _, hj, hx, _⟩ := ask_some ha
  obtain ⟨b, o, k, n, t, ks, A', l', c', _, _, hx', _, _, _, _, _, hn, _⟩ := h.fkd.at_ (i := j) (by rw [h.fkd.len]; exact hj)
  rw [hx] at hx'
  injection hx' with e
  rw [e]; exact hn
theorem val_num {X : Nat → Prop} {w : World} {g : Nat} {ls : List V} {A : Option Addr} {l c : Nat} {sp sp' sp0 : Bool} {k n : Nat} {t : ByteArray} {ks : List V} (h : Fld 75 X w g ls A l c sp) (hq : valR ls 0 [] sp0 = (.mk k n t ks, sp')) : n < 18446744073709551616 := by
  cases ha : Fl.ask ls 0 with
  | none =>
    rw [valR_none ha] at hq
    injection hq with e1 e2
    injection e1 with q1 q2 q3 q4
    omega
  | some v =>
    rw [valR_yes ha rfl] at hq
    injection hq with e1 e2
    have := ask_num h ha
    rw [e1] at this
    exact this
theorem tab_off {X : Nat → Prop} {w w' : World} (h : Tab w) (ho : Off X w w') (hX : ¬ X 0) : Tab w' := by
  obtain ⟨t, fr, h⟩ := h
  exact ⟨t, fr, (ho.block 0 (Array.getElem?_eq_some_iff.1 h).1 hX).trans h⟩
theorem valR_all (ls : List V) (sp : Bool) : (valR ls 0 [] sp).2 = sp := by
  cases ha : Fl.ask ls 0 with
  | none => rw [valR_none ha]
  | some v => rw [valR_yes ha rfl]
theorem val_bulk (ls : List V) (sp : Bool) : bulk (valR ls 0 [] sp).1 ≤ bulkL ls + 1 := by
  cases ha : Fl.ask ls 0 with
  | none => rw [valR_none ha]; simp [nullV, bulk, bulkL, ByteArray.size]
  | some u => rw [valR_yes ha rfl]; have := ask_bulk ha; show bulk u ≤ _; omega
theorem rd3_some {ls : List V} {c : ByteArray} (h : condR (valR ls 0 [] false).1 = some c) : rdR 3 ls = (⟨3, 0, 0, c⟩, false) := by
  show (match condR (valR ls 0 [] false).1 with | some c => _ | none => _ : O × Bool) = _
  rw [h]
  exact Prod.ext rfl (valR_all ls false)
theorem rd3_none {ls : List V} (h : condR (valR ls 0 [] false).1 = none) : rdR 3 ls = (⟨3, 0, 0, ⟨#[]⟩⟩, true) := by
  show (match condR (valR ls 0 [] false).1 with | some c => _ | none => _ : O × Bool) = _
  rw [h]
theorem rdrej : Reads 3 85 := by
  intro X w g ls A l c h hg hN hT
  have H0 := Lib.hid (SO.new h)
  have HF := Lib.hid h
  have HN := Lib.hid hN
  have HT := Lib.hid hT
  have HG0 := Lib.hid hg
  clear h hg hN hT
  obtain ⟨k, n, t, ks, sp', hq⟩ : ∃ k n t ks sp', valR ls 0 [] false = (.mk k n t ks, sp') := ⟨_, _, _, _, _, Prod.ext (V.eta _) rfl⟩
  have HBK := Lib.hid (show bulk (.mk k n t ks) ≤ bulkL ls + 1 by have := val_bulk ls false; rw [hq] at this; exact this)
  have HNN : Hid (n < 18446744073709551616) := Lib.hid (val_num HF.out hq)
  obtain rfl : sp' = false := by have := valR_all ls false; rw [hq] at this; exact this
  have HQ := Lib.hid hq
  clear hq
  go_enter Tryd.func85, Tryd.ntmps85
  go_wp2_with fail
  refine (fvalue_any H0.out.fld (kinds_nil _) 0 (by have := HN.out; omega) HQ.out).mono ?_
  rintro e w1 ⟨r1, rfl, ⟨A1, l1, c1, rfl, hN1⟩, ho1, hF1⟩
  have H1 := Lib.hid (H0.out.next ho1 hF1)
  have HG := Lib.hid (getcond_any k n t ks A1 l1 c1 w1 (by have := HBK.out; simp only [bulk] at this; have := HN.out; omega) (by have := HBK.out; simp only [bulk] at this; have := HN.out; omega) HNN.out hN1.kd (tab_off HT.out H1.out.off (by have := HG0.out; omega)))
  clear ho1 hF1 H0 hN1
  cases hc : condR (.mk k n t ks) with
  | some s =>
    rw [hc] at HG
    have HE := Lib.hid (rd3_some (ls := ls) (c := s) (by rw [HQ.out]; exact hc))
    clear hc
    go_wp2_with fail
    refine HG.out.mono ?_
    rintro e w2 ⟨rfl, hb2⟩
    have H2 := Lib.hid (H1.out.call hb2)
    clear hb2 H1
    obtain ⟨d0, d1, d2, d3, df⟩ := H2.out.bx.all
    go_wp2
    refine bodyPost_ret (v := .agg #[.int .u8 3, .int .u64 0, .int .u64 0, .string s]) (by simp [results, Tryd.results85, go_sem, d0, d1, d2, d3]) rfl ?_
    obtain ⟨h1, h2⟩ := H2.out.fin HF.out (.int .u8 3) (.int .u64 0) (.int .u64 0) (.string s)
    rw [HE.out]
    exact ⟨_, rfl, rfl, h1, h2⟩
  | none =>
    rw [hc] at HG
    have HE := Lib.hid (rd3_none (ls := ls) (by rw [HQ.out]; exact hc))
    clear hc
    go_wp2_with fail
    refine HG.out.mono ?_
    rintro e w2 ⟨rfl, hb2⟩
    have H2 := Lib.hid (H1.out.call hb2)
    clear hb2 H1
    go_wp2_with fail
    refine (spoil_any H2.out.fld).mono ?_
    rintro e w3 ⟨⟨v, rfl⟩, hw3⟩
    have h3 := H2.out.spoil
    rw [hw3] at h3
    have H3 := Lib.hid h3
    clear h3 hw3 H2
    obtain ⟨d0, d1, d2, d3, df⟩ := H3.out.bx.all
    go_wp2
    refine bodyPost_ret (v := .agg #[.int .u8 3, .int .u64 0, .int .u64 0, .string ⟨#[]⟩]) (by simp [results, Tryd.results85, go_sem, d0, d1, d2, d3]) rfl ?_
    obtain ⟨h1, h2⟩ := H3.out.fin HF.out (.int .u8 3) (.int .u64 0) (.int .u64 0) (.string ⟨#[]⟩)
    rw [HE.out]
    exact ⟨_, rfl, rfl, h1, h2⟩
end Go.Proofs.YtobnbgbijdhjjaaDoor.Oc
