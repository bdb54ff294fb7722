/-
  Contracts of the methods Bool, Value, Symbols of the program's fields, of fields and of none. Memory that was there stays, but for the block of the fields. Conditions: values of bulk at most 2^30; at most 2^40 kinds.
-/
import Derived.Test.YtohmnbefokhjpaaDoorFmt
import Derived.Test.YtohmnbefokhjpaaDoorWkf
namespace Go.Proofs.YtohmnbefokhjpaaDoor.Fl
set_option maxRecDepth 100000
open Go.RowKit Go.Proofs.YtohmnbefokhjpaaDoor.Utf Go.Proofs.YtohmnbefokhjpaaDoor.Val V

theorem number2_any {X : Nat → Prop} {w : World} {g : Nat} {ls : List V} {A : Option Addr} {l c : Nat} {sp sp' : Bool} (h : Fld 63 X w g ls A l c sp) (i : Int) (must : Bool) (N : Nat) (hq : oneR ls i 2 must sp 0 V.num = (N, sp')) :
    Calls Tryd.prog 35 #[.pointer (some ⟨g, 0, none⟩), .int .i64 i, .int .u8 2, .bool must, .int .u64 0] w (GivesF 63 X g ls A l c (fun r _ => r = .int .u64 (N : Int)) sp' w) := number_any h i 2 must 0 N hq
theorem number2_nil (i : Int) (must : Bool) (w : World) : Calls Tryd.prog 35 #[.pointer none, .int .i64 i, .int .u8 2, .bool must, .int .u64 0] w fun e w' => e = .returned (.int .u64 0) ∧ Below w.heap.size w w' := number_nil i 2 must 0 w
/-- What Symbols answers, and how it stands with the fields then. -/
def symR (ls : List V) (i : Int) (sp : Bool) : List ByteArray × Bool :=
  match ask ls i with
  | none => ([], sp)
  | some v => if allSym (symOf v) = true then (texts (symOf v), sp) else ([], true)
theorem symR_none {ls : List V} {i : Int} {sp : Bool} (h : ask ls i = none) : symR ls i sp = ([], sp) := by unfold symR; rw [h]
theorem symR_yes {ls : List V} {i : Int} {sp : Bool} {v : V} (h : ask ls i = some v) (hk : allSym (symOf v) = true) : symR ls i sp = (texts (symOf v), sp) := by unfold symR; rw [h]; exact if_pos hk
theorem symR_no {ls : List V} {i : Int} {sp : Bool} {v : V} (h : ask ls i = some v) (hk : allSym (symOf v) = false) : symR ls i sp = ([], true) := by unfold symR; rw [h]; exact if_neg (by rw [hk]; exact Bool.false_ne_true)
/-- What Value answers, and how it stands with the fields then. -/
def nullV : V := .mk 1 0 ⟨#[]⟩ []
def valR (ls : List V) (i : Int) (L : List Nat) (sp : Bool) : V × Bool :=
  match ask ls i with
  | none => (nullV, sp)
  | some v => if fitsB L v.kind = true then (v, sp) else (nullV, true)
theorem valR_none {ls : List V} {i : Int} {L : List Nat} {sp : Bool} (h : ask ls i = none) : valR ls i L sp = (nullV, sp) := by unfold valR; rw [h]
theorem valR_yes {ls : List V} {i : Int} {L : List Nat} {sp : Bool} {v : V} (h : ask ls i = some v) (hk : fitsB L v.kind = true) : valR ls i L sp = (v, sp) := by unfold valR; rw [h]; exact if_pos hk
theorem valR_no {ls : List V} {i : Int} {L : List Nat} {sp : Bool} {v : V} (h : ask ls i = some v) (hk : fitsB L v.kind = false) : valR ls i L sp = (nullV, true) := by unfold valR; rw [h]; exact if_neg (by rw [hk]; exact Bool.false_ne_true)
/-- Kinds in memory. -/
structure Kinds (w : World) (KA : Option Addr) (kl : Nat) (L : List Nat) : Prop where
  rd : Rd .u8 256 w w.heap.size KA kl L
  lim : kl ≤ 1099511627776
theorem Kinds.call {w w1 : World} {KA : Option Addr} {kl : Nat} {L : List Nat} (h : Kinds w KA kl L) (hb : Below w.heap.size w w1) : Kinds w1 KA kl L := ⟨h.rd.call hb, h.lim⟩
theorem askV_all {X : Nat → Prop} {w : World} {g : Nat} {ls : List V} {A : Option Addr} {l c : Nat} {sp sp' : Bool} {k n : Nat} {t : ByteArray} {ks : List V} {KA : Option Addr} {kl kc kb : Nat} {L : List Nat} (h : Fld 63 X w g ls A l c sp) (hK : Kinds w KA kl L) (hkb : w.cell? ⟨kb, 0, none⟩ = some (.slice KA kl kc)) (hkl : kb < w.heap.size) (i : Int) (hN : bulkL ls ≤ 1073741824) (hq : valR ls i L sp = (.mk k n t ks, sp')) :
    Calls Tryd.prog 47 #[.pointer (some ⟨g, 0, none⟩), .int .i64 i, .bool false, .agg #[.int .u8 1, .int .u64 0, .string ⟨#[]⟩, .slice none 0 0], .func (.func 48) #[] #[.pointer (some ⟨kb, 0, none⟩)]] w (GivesF 63 X g ls A l c (QV w.heap.size k n t ks) sp' w) := by
  cases ha : ask ls i with
  | none =>
    rw [valR_none ha] at hq
    injection hq with e1 e2
    unfold nullV at e1
    injection e1 with q1 q2 q3 q4
    subst q1; subst q2; subst q3; subst q4; subst e2
    have := askV_none h i false ha kb
    rw [Bool.or_false] at this
    exact this
  | some v =>
    obtain ⟨k', n', t', ks'⟩ := v
    have hbk := ask_bulk ha
    simp only [bulk] at hbk
    cases hk : fitsB L (V.mk k' n' t' ks').kind with
    | true =>
      rw [valR_yes ha hk] at hq
      injection hq with e1 e2
      injection e1 with q1 q2 q3 q4
      subst q1; subst q2; subst q3; subst q4; subst e2
      exact askV_yes h i false ha kb fun A' l' c' w' hb hKd hkk hnn => value1_any k' n' t' ks' A' l' c' kb KA kl kc w.heap.size L w' ((hb.cell (p := ⟨kb, 0, none⟩) hkl).trans hkb) (Nat.lt_of_lt_of_le hkl hb.size) (hK.rd.below hb) hb.size hK.lim (by omega) hkk hnn hKd true hk
    | false =>
      rw [valR_no ha hk] at hq
      injection hq with e1 e2
      unfold nullV at e1
      injection e1 with q1 q2 q3 q4
      subst q1; subst q2; subst q3; subst q4; subst e2
      exact askV_no h i false ha kb fun A' l' c' w' hb hKd hkk hnn => value1_any k' n' t' ks' A' l' c' kb KA kl kc w.heap.size L w' ((hb.cell (p := ⟨kb, 0, none⟩) hkl).trans hkb) (Nat.lt_of_lt_of_le hkl hb.size) (hK.rd.below hb) hb.size hK.lim (by omega) hkk hnn hKd false hk

theorem fvalue_any {X : Nat → Prop} {w : World} {g : Nat} {ls : List V} {A : Option Addr} {l c : Nat} {sp sp' : Bool} {k n : Nat} {t : ByteArray} {ks : List V} {KA : Option Addr} {kl kc : Nat} {L : List Nat} (h : Fld 63 X w g ls A l c sp) (hK : Kinds w KA kl L) (i : Int) (hN : bulkL ls ≤ 1073741824) (hq : valR ls i L sp = (.mk k n t ks, sp')) :
    Calls Tryd.prog 38 #[.pointer (some ⟨g, 0, none⟩), .int .i64 i, .slice KA kl kc] w (GivesF 63 X g ls A l c (QV w.heap.size k n t ks) sp' w) := by
  have hB : Below w.heap.size w ((w.alloc (.cells #[.slice KA kl kc] 65)).alloc (.cells #[.int .u8 0, .int .u64 0, .string ⟨#[]⟩, .slice none 0 0] 27)) := two_boxes w _ _
  have hkb : ((w.alloc (.cells #[.slice KA kl kc] 65)).alloc (.cells #[.int .u8 0, .int .u64 0, .string ⟨#[]⟩, .slice none 0 0] 27)).cell? ⟨w.heap.size, 0, none⟩ = some (.slice KA kl kc) := by simp
  have hbx := Box.new2 w (.cells #[.slice KA kl kc] 65) (.int .u8 0) (.int .u64 0) (.string ⟨#[]⟩) (.slice none 0 0)
  have hF0 := h.call hB
  have hK0 := hK.call hB
  have hsz : w.heap.size < ((w.alloc (.cells #[.slice KA kl kc] 65)).alloc (.cells #[.int .u8 0, .int .u64 0, .string ⟨#[]⟩, .slice none 0 0] 27)).heap.size := by simp; omega
  have HB := Lib.hid hB
  have HF := Lib.hid h
  have HBX := Lib.hid hbx
  have HA := Lib.hid (fun w1 (hb1 : Below _ _ w1) => askV_all (hF0.call hb1) (hK0.call hb1) ((hb1.cell (p := ⟨w.heap.size, 0, none⟩) hsz).trans hkb) (Nat.lt_of_lt_of_le hsz hb1.size) i hN hq)
  clear hB hkb hbx hF0 hK0 hsz h hK hq hN
  go_enter Tryd.func38, Tryd.ntmps38
  go_wp2_with fail
  refine (nul_new _).mono ?_
  rintro e w1 ⟨rfl, hb1⟩
  have HA1 := Lib.hid (HA.out w1 hb1)
  have HB1 := Lib.hid (below_next HB.out hb1)
  have HBX1 := Lib.hid (HBX.out.call hb1)
  clear hb1 HA HBX
  go_wp2_with fail
  refine HA1.out.mono ?_
  rintro e w2 ⟨r, rfl, ⟨A2, l2, c2, rfl, hN2⟩, ho, hF2⟩
  have hgl := HF.out.lt
  have hbx2 := Box.off HBX1.out ho (show ¬ (w.heap.size + 1 = g) by omega)
  obtain ⟨f0, f1, f2, f3, ff⟩ := hbx2.all
  have HN2 := Lib.hid (hN2.less (B' := w.heap.size + 2) (by have := HBX1.out.lt; omega))
  have HO2 := Lib.hid ((Off.of _ HB1.out).trans ho)
  have HF2 := Lib.hid hF2.obj
  have HGL := Lib.hid hgl
  clear ho hF2 hN2 hbx2 hgl
  go_wp2
  refine bodyPost_ret (v := .agg #[.int .u8 (k : Int), .int .u64 (n : Int), .string t, .slice A2 l2 c2]) (by simp [results, Tryd.results38, go_sem, f0, f1, f2, f3]) rfl ?_
  have ho := Off.set4 HO2.out (g := w.heap.size + 1) (by omega) (.int .u8 (k : Int)) (.int .u64 (n : Int)) (.string t) (.slice A2 l2 c2)
  exact ⟨_, rfl, ⟨A2, l2, c2, rfl, (HN2.out.far4 (by omega) _ _ _ _).less (by omega)⟩, ho, HF.out.fin ho (obj_far4 HF2.out (by have := HGL.out; omega) _ _ _ _)⟩
end Go.Proofs.YtohmnbefokhjpaaDoor.Fl
