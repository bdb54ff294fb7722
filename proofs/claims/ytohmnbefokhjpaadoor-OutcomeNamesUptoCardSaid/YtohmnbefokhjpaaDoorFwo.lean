/-
  Contracts of the laws' list and works (the anchor): fields of values that were put, and of three values. Memory that was there stays. Conditions: the table utf.shapes lies as the program's text lays it; values of bulk at most 2^28.
-/
import Derived.Test.YtohmnbefokhjpaaDoorFne
namespace Go.Proofs.YtohmnbefokhjpaaDoor.Fl
set_option maxRecDepth 100000
open Go.RowKit Go.Proofs.YtohmnbefokhjpaaDoor.Utf Go.Proofs.YtohmnbefokhjpaaDoor.Val V

theorem new_put {code : Nat} {us : List V} {name : ByteArray} (hok : okB (.mk 25 0 ⟨#[]⟩ (putL code us)) = true) : newR (.mk 25 0 ⟨#[]⟩ (putL code us)) code name = some us := by
  rw [newR_pair hok rfl, if_pos ⟨by unfold calledB; rw [same_self]; rfl, rfl⟩]
  rfl
theorem new_put_no {code : Nat} {us : List V} {name : ByteArray} (hok : okB (.mk 25 0 ⟨#[]⟩ (putL code us)) = false) (code' : Nat) : newR (.mk 25 0 ⟨#[]⟩ (putL code us)) code' name = none := if_neg fun h => by rw [hok] at h; exact Bool.false_ne_true h.1
theorem new_any25 (ks : List V) (A : Option Addr) (l c code : Nat) (name : ByteArray) (w : World) (hN : bulkL ks ≤ 536870912) (hK : Kd w ks A l c) (hTab : Tab w) :
    Calls Tryd.prog 17 #[.agg #[.int .u8 25, .int .u64 0, .string ⟨#[]⟩, .slice A l c], .int .u64 (code : Int), .string name] w (GivesNew (newR (.mk 25 0 ⟨#[]⟩ ks) code name) w) := new_any 25 0 ⟨#[]⟩ ks A l c code name w hN (by simp [ByteArray.size]) (by omega) hK hTab
theorem bulk_put (code : Nat) (ls : List V) : bulkL (putL code (trim ls)) ≤ bulkL ls + 2 := by
  have := bulk_take ls (cutN ls ls.length)
  unfold putL trim
  simp only [bulkL, bulk, ByteArray.size]
  simp
  omega

/-- What the laws' list answers. -/
def GivesLs (o : Option (List V)) (w : World) (e : Ending) (w' : World) : Prop :=
  match o with
  | none => e = .returned (.pointer none) ∧ Below w.heap.size w w'
  | some ls => ∃ g A l c, e = .returned (.pointer (some ⟨g, 0, none⟩)) ∧ w.heap.size ≤ g ∧ Fld 63 (fun i => g ≤ i) w' g ls A l c false ∧ g + 1 = w'.heap.size ∧ Below w.heap.size w w'
/-- What is kept of fields that the call itself made. -/
structure WS (w wi : World) (g : Nat) (ls : List V) (A : Option Addr) (l c : Nat) (sp : Bool) : Prop where
  fld : Fld 63 (fun i => g ≤ i) wi g ls A l c sp
  low : Below w.heap.size w wi
  ge : w.heap.size ≤ g
section
variable {w wi w' : World} {g : Nat} {ls : List V} {A : Option Addr} {l c : Nat} {sp sp' : Bool}
theorem WS.call (h : WS w wi g ls A l c sp) (hb : Below wi.heap.size wi w') : WS w w' g ls A l c sp := ⟨h.fld.call hb, below_next h.low hb, h.ge⟩
theorem WS.next (h : WS w wi g ls A l c sp) (ho : Off (fun i => i = g) wi w') (hF : Fld 63 (fun i => g ≤ i) w' g ls A l c sp') : WS w w' g ls A l c sp' :=
  ⟨hF, h.low.trans (ho.below h.low.size fun i hi e => by have := h.ge; omega), h.ge⟩
end
theorem Strs.at_ {B : Nat} {w : World} {A : Option Addr} {n c : Nat} {ts : List ByteArray} (h : Strs B w A n c ts) {j : Nat} (hj : j < n) : ∃ g t, A = some ⟨g, 0, none⟩ ∧ B ≤ g ∧ g < w.heap.size ∧ ts[j]? = some t ∧ w.cell? ⟨g, j, none⟩ = some (.string t) := by
  have hlen := h.len
  rcases World.ownsRow.form h (by omega) with ⟨g, cap, e⟩
  obtain ⟨e, hb, hb2⟩ := e
  injection e with e1 e2 e3
  subst e1
  have hc := World.ownsRow.cells h (g := g) rfl j (.string (ts[j]'(by omega))) (by simp [List.getElem?_eq_getElem (show j < ts.length by omega)])
  rw [show (⟨g, 0, none⟩ : Addr).add j = ⟨g, j, none⟩ from by cases j <;> simp [Addr.add]] at hc
  exact ⟨g, ts[j]'(by omega), rfl, hb, hb2, List.getElem?_eq_getElem (by omega), hc⟩

/-- The three values of the anchor. -/
def wl : List V := [.mk 1 0 ⟨#[]⟩ [], .mk 5 7 ⟨#[]⟩ [], .mk 21 0 ⟨#[97]⟩ []]
theorem ok_wl : okB (.mk 25 0 ⟨#[]⟩ (putL 16 wl)) = true := by
  simp [okB, putL, wl, items, itemsL, depth, depthL, mayB, mayL, aloneOk, emp0, kidsOk, numB, textB, asc, nb, nameB, kind]
theorem trim_wl : trim wl = wl := by decide
theorem kids_three {w : World} {k0 n0 k1 n1 k2 n2 : Nat} {t0 t1 t2 : ByteArray} (h0 : k0 < 256 ∧ n0 < 18446744073709551616) (h1 : k1 < 256 ∧ n1 < 18446744073709551616) (h2 : k2 < 256 ∧ n2 < 18446744073709551616) :
    Kd (w.alloc (.cells #[.int .u8 k0, .int .u64 n0, .string t0, .slice none 0 0, .int .u8 k1, .int .u64 n1, .string t1, .slice none 0 0, .int .u8 k2, .int .u64 n2, .string t2, .slice none 0 0] 27)) [.mk k0 n0 t0 [], .mk k1 n1 t1 [], .mk k2 n2 t2 []] (some ⟨w.heap.size, 0, none⟩) 3 3 := by
  refine ⟨rfl, Nat.le_refl _, fun _ => ⟨w.heap.size, 0, rfl, by simp, fun h => (by cases h), ?_⟩⟩
  exact ⟨repV_iff.2 ⟨none, 0, 0, by simp, by simp, by simp, by simp, h0.1, h0.2, Kd.none_ _ _ _⟩, repV_iff.2 ⟨none, 0, 0, by simp, by simp, by simp, by simp, h1.1, h1.2, Kd.none_ _ _ _⟩, repV_iff.2 ⟨none, 0, 0, by simp, by simp, by simp, by simp, h2.1, h2.2, Kd.none_ _ _ _⟩, trivial⟩
theorem wl_kd (w : World) (g : Nat) (hg : w.heap.size = g) : Kd (w.alloc (.cells #[.int .u8 1, .int .u64 0, .string ⟨#[]⟩, .slice none 0 0, .int .u8 5, .int .u64 7, .string ⟨#[]⟩, .slice none 0 0, .int .u8 21, .int .u64 0, .string ⟨#[97]⟩, .slice none 0 0] 27)) wl (some ⟨g, 0, none⟩) 3 3 := by
  subst hg
  exact kids_three (k0 := 1) (n0 := 0) (k1 := 5) (n1 := 7) (k2 := 21) (n2 := 0) (by decide) (by decide) (by decide)
section
variable {X : Nat → Prop} {w : World} {g : Nat} {A : Option Addr} {l c : Nat} {sp : Bool}
theorem w_num5 (w : World) : Calls Tryd.prog 10 #[.int .u8 5, .int .u64 7] w fun e w' => e = .returned (.agg #[.int .u8 5, .int .u64 7, .string ⟨#[]⟩, .slice none 0 0]) ∧ Below w.heap.size w w' := Go.Proofs.YtohmnbefokhjpaaDoor.Val.number_any 5 7 w
theorem w_has0 (h : Fld 63 X w g wl A l c sp) : Calls Tryd.prog 53 #[.pointer (some ⟨g, 0, none⟩), .int .i64 0] w (GivesB false w) := has_any h 0
theorem w_has2 (h : Fld 63 X w g wl A l c sp) : Calls Tryd.prog 53 #[.pointer (some ⟨g, 0, none⟩), .int .i64 2] w (GivesB true w) := has_any h 2
theorem w_num1 (h : Fld 63 X w g wl A l c false) : Calls Tryd.prog 35 #[.pointer (some ⟨g, 0, none⟩), .int .i64 1, .int .u8 5, .bool true, .int .u64 0] w (GivesF 63 X g wl A l c (fun r _ => r = .int .u64 7) false w) := number_any h 1 5 true 0 7 rfl
theorem w_num0 (h : Fld 63 X w g wl A l c false) : Calls Tryd.prog 35 #[.pointer (some ⟨g, 0, none⟩), .int .i64 0, .int .u8 5, .bool false, .int .u64 5] w (GivesF 63 X g wl A l c (fun r _ => r = .int .u64 5) false w) := number_any h 0 5 false 5 5 rfl
theorem w_num0t (h : Fld 63 X w g wl A l c false) : Calls Tryd.prog 35 #[.pointer (some ⟨g, 0, none⟩), .int .i64 0, .int .u8 5, .bool true, .int .u64 5] w (GivesF 63 X g wl A l c (fun r _ => r = .int .u64 5) true w) := number_any h 0 5 true 5 5 rfl
theorem w_done3 (h : Fld 63 X w g wl A l c false) : Calls Tryd.prog 18 #[.pointer (some ⟨g, 0, none⟩), .int .i64 3] w fun e w' => e = .returned (.int .i64 0) ∧ w = w' := done_any h 3
theorem w_done2 (h : Fld 63 X w g wl A l c false) : Calls Tryd.prog 18 #[.pointer (some ⟨g, 0, none⟩), .int .i64 2] w fun e w' => e = .returned (.int .i64 6) ∧ w = w' := done_any h 2
theorem w_done3t (h : Fld 63 X w g wl A l c true) : Calls Tryd.prog 18 #[.pointer (some ⟨g, 0, none⟩), .int .i64 3] w fun e w' => e = .returned (.int .i64 6) ∧ w = w' := done_any h 3
end

end Go.Proofs.YtohmnbefokhjpaaDoor.Fl
