/-
  Contract of the program's theFive: the five kinds of outcomes, and who tells and reads them. Memory that was there stays.
-/
import Derived.Test.YtobnbgbijdhjjaaDoorOce
namespace Go.Proofs.YtobnbgbijdhjjaaDoor.Oc
set_option maxRecDepth 100000
open Go.RowKit Go.Proofs.YtobnbgbijdhjjaaDoor.Utf Go.Proofs.YtobnbgbijdhjjaaDoor.Val Go.Proofs.YtobnbgbijdhjjaaDoor.Fl V

/-- What one that tells fields answers. -/
def Tellsf (k ft : Nat) : Prop := ∀ (a b : Nat) (c : ByteArray) (w : World), mayO ⟨k, a, b, c⟩ = true → c.size ≤ 268435456 → a < 18446744073709551616 → b < 18446744073709551616 → Calls Tryd.prog ft #[.agg #[.int .u8 (k : Int), .int .u64 (a : Int), .int .u64 (b : Int), .string c]] w (GivesTell ⟨k, a, b, c⟩ w)
theorem tf1 : Tellsf 1 80 := fun a b c w _ _ ha hb => tellrec_any a b c w ha hb
theorem tf2 : Tellsf 2 82 := fun a b c w _ _ _ _ => tellno_any ⟨2, a, b, c⟩ rfl _ _ _ _ w
theorem tf4 : Tellsf 4 82 := fun a b c w _ _ _ _ => tellno_any ⟨4, a, b, c⟩ rfl _ _ _ _ w
theorem may_cok {o : O} (h : mayO o = true) : cOk o.c = true := by
  unfold mayO at h
  simp only [Bool.and_eq_true] at h
  exact h.1.1.2
theorem tf3 : Tellsf 3 84 := fun a b c w h hs _ _ => tellrej_any a b c w (may_cok h) hs
theorem tf5 : Tellsf 5 87 := fun a b c w _ _ _ _ => tellmod_any a b c w
/-- A function of the program's own. -/
def Enters (f : Nat) : Prop := ∀ (args : Array Value) (w : World), (callFunc f args).run Tryd.prog w = .ok (.enter f args) w
/-- The five, in memory. -/
def FvAt (w : World) (g p k : Nat) : Prop := ∃ ft fr : Nat, Tellsf k ft ∧ Reads k fr ∧ Enters ft ∧ Enters fr ∧ w.cell? ⟨g, p, none⟩ = some (.int .u8 (k : Int)) ∧ w.cell? ⟨g, p + 1, none⟩ = some (.int .u64 ((34 + k : Nat) : Int)) ∧ w.cell? ⟨g, p + 2, none⟩ = some (.string (oname k)) ∧ w.cell? ⟨g, p + 3, none⟩ = some (.int .i64 (mostN k)) ∧
  w.cell? ⟨g, p + 4, none⟩ = some (.func (.func ft) #[] #[]) ∧ w.cell? ⟨g, p + 5, none⟩ = some (.func (.func fr) #[] #[])
def Fv (w : World) (g o : Nat) : Prop := g < w.heap.size ∧ ∀ j, j < 5 → FvAt w g (o + j * 6) (j + 1)
theorem Fv.call {w w' : World} {g o : Nat} (h : Fv w g o) (hb : Below w.heap.size w w') : Fv w' g o := by
  refine ⟨Nat.lt_of_lt_of_le h.1 hb.size, fun j hj => ?_⟩
  obtain ⟨ft, fr, h1, h2, h3, h4, c0, c1, c2, c3, c4, c5⟩ := h.2 j hj
  exact ⟨ft, fr, h1, h2, h3, h4, (hb.cell (p := ⟨g, _, none⟩) h.1).trans c0, (hb.cell (p := ⟨g, _, none⟩) h.1).trans c1, (hb.cell (p := ⟨g, _, none⟩) h.1).trans c2, (hb.cell (p := ⟨g, _, none⟩) h.1).trans c3, (hb.cell (p := ⟨g, _, none⟩) h.1).trans c4, (hb.cell (p := ⟨g, _, none⟩) h.1).trans c5⟩
def GivesFv (w : World) (e : Ending) (w' : World) : Prop := ∃ g o, e = .returned (.slice (some ⟨g, o, none⟩) 5 5) ∧ Fv w' g o ∧ Below w.heap.size w w'
theorem fv_new (w : World) : Fv (w.alloc (.cells #[.int .u8 1, .int .u64 35, .string ⟨#[97, 109, 113, 112, 58, 114, 101, 99, 101, 105, 118, 101, 100, 58, 108, 105, 115, 116]⟩, .int .i64 2, .func (.func 80) #[] #[], .func (.func 81) #[] #[], .int .u8 2, .int .u64 36, .string ⟨#[97, 109, 113, 112, 58, 97, 99, 99, 101, 112, 116, 101, 100, 58, 108, 105, 115, 116]⟩, .int .i64 0, .func (.func 82) #[] #[], .func (.func 83) #[] #[], .int .u8 3, .int .u64 37, .string ⟨#[97, 109, 113, 112, 58, 114, 101, 106, 101, 99, 116, 101, 100, 58, 108, 105, 115, 116]⟩, .int .i64 1, .func (.func 84) #[] #[], .func (.func 85) #[] #[], .int .u8 4, .int .u64 38, .string ⟨#[97, 109, 113, 112, 58, 114, 101, 108, 101, 97, 115, 101, 100, 58, 108, 105, 115, 116]⟩, .int .i64 0, .func (.func 82) #[] #[], .func (.func 86) #[] #[], .int .u8 5, .int .u64 39, .string ⟨#[97, 109, 113, 112, 58, 109, 111, 100, 105, 102, 105, 101, 100, 58, 108, 105, 115, 116]⟩, .int .i64 3, .func (.func 87) #[] #[], .func (.func 88) #[] #[]] 84)) w.heap.size 0 := by
  refine ⟨by simp, fun j hj => ?_⟩
  have hj' : j = 0 ∨ j = 1 ∨ j = 2 ∨ j = 3 ∨ j = 4 := by omega
  rcases hj' with rfl | rfl | rfl | rfl | rfl
  · exact ⟨80, 81, tf1, rdrec, Tryd.call80, Tryd.call81, by simp, by simp, by simp [oname], by simp [mostN], by simp, by simp⟩
  · exact ⟨82, 83, tf2, rdacc, Tryd.call82, Tryd.call83, by simp, by simp, by simp [oname], by simp [mostN], by simp, by simp⟩
  · exact ⟨84, 85, tf3, rdrej, Tryd.call84, Tryd.call85, by simp, by simp, by simp [oname], by simp [mostN], by simp, by simp⟩
  · exact ⟨82, 86, tf4, rdrel, Tryd.call82, Tryd.call86, by simp, by simp, by simp [oname], by simp [mostN], by simp, by simp⟩
  · exact ⟨87, 88, tf5, rdmod, Tryd.call87, Tryd.call88, by simp, by simp, by simp [oname], by simp [mostN], by simp, by simp⟩
theorem five_any (w : World) : Calls Tryd.prog 52 #[] w (GivesFv w) := by
  have HV := Lib.hid (fv_new w)
  have hb0 : Below w.heap.size w (w.alloc (.cells #[.int .u8 1, .int .u64 35, .string ⟨#[97, 109, 113, 112, 58, 114, 101, 99, 101, 105, 118, 101, 100, 58, 108, 105, 115, 116]⟩, .int .i64 2, .func (.func 80) #[] #[], .func (.func 81) #[] #[], .int .u8 2, .int .u64 36, .string ⟨#[97, 109, 113, 112, 58, 97, 99, 99, 101, 112, 116, 101, 100, 58, 108, 105, 115, 116]⟩, .int .i64 0, .func (.func 82) #[] #[], .func (.func 83) #[] #[], .int .u8 3, .int .u64 37, .string ⟨#[97, 109, 113, 112, 58, 114, 101, 106, 101, 99, 116, 101, 100, 58, 108, 105, 115, 116]⟩, .int .i64 1, .func (.func 84) #[] #[], .func (.func 85) #[] #[], .int .u8 4, .int .u64 38, .string ⟨#[97, 109, 113, 112, 58, 114, 101, 108, 101, 97, 115, 101, 100, 58, 108, 105, 115, 116]⟩, .int .i64 0, .func (.func 82) #[] #[], .func (.func 86) #[] #[], .int .u8 5, .int .u64 39, .string ⟨#[97, 109, 113, 112, 58, 109, 111, 100, 105, 102, 105, 101, 100, 58, 108, 105, 115, 116]⟩, .int .i64 3, .func (.func 87) #[] #[], .func (.func 88) #[] #[]] 84)) := (Below.refl _ _).alloc (Nat.le_refl _) _
  have HB := Lib.hid hb0
  clear hb0
  go_enter Tryd.func52, Tryd.ntmps52
  go_wp2
  go_ret
  exact ⟨_, 0, rfl, HV.out, HB.out⟩
end Go.Proofs.YtobnbgbijdhjjaaDoor.Oc
