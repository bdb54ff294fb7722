/-
  OutcomeNames' plain part: a kid of a row of one's own is written over; a kid is appended to a row within it. No condition.
-/
import Derived.Test.YtohmnbefokhjpaaDoorOcw
import Derived.Test.YtohmnbefokhjpaaDoorOci
import Derived.Test.YtohmnbefokhjpaaDoorOpo
namespace Go.Proofs.YtohmnbefokhjpaaDoor.Sep
set_option maxRecDepth 100000
open Go.RowKit Go.Proofs.YtohmnbefokhjpaaDoor.Utf Go.Proofs.YtohmnbefokhjpaaDoor.Val Go.Proofs.YtohmnbefokhjpaaDoor.Oc V

/-- The four cells of a value are written. -/
def set4 (w : World) (g o : Nat) (x0 x1 x2 x3 : Value) : World := (((w.setCell ⟨g, o, none⟩ x0).setCell ⟨g, o + 1, none⟩ x1).setCell ⟨g, o + 2, none⟩ x2).setCell ⟨g, o + 3, none⟩ x3
theorem set4_block (w : World) (g o : Nat) (x0 x1 x2 x3 : Value) {i : Nat} (hi : i ≠ g) : (set4 w g o x0 x1 x2 x3).heap[i]? = w.heap[i]? :=
  (Below.heap_setCell _ _ _ _ hi).trans ((Below.heap_setCell _ _ _ _ hi).trans ((Below.heap_setCell _ _ _ _ hi).trans (Below.heap_setCell _ _ _ _ hi)))
theorem set4_size (w : World) (g o : Nat) (x0 x1 x2 x3 : Value) : (set4 w g o x0 x1 x2 x3).heap.size = w.heap.size := by simp [set4]
theorem set4_below {B : Nat} {w0 w : World} {g o : Nat} (h : Below B w0 w) (hg : B ≤ g) (x0 x1 x2 x3 : Value) : Below B w0 (set4 w g o x0 x1 x2 x3) :=
  (((h.setCell (p := ⟨g, o, none⟩) hg _).setCell (p := ⟨g, o + 1, none⟩) hg _).setCell (p := ⟨g, o + 2, none⟩) hg _).setCell (p := ⟨g, o + 3, none⟩) hg _
theorem set4_own {w : World} {B n c g o : Nat} {xs : List Value} (h : w.ownsRow B 27 4 (.slice (some ⟨g, 0, none⟩) n c) n xs) (x0 x1 x2 x3 : Value) :
    (set4 w g o x0 x1 x2 x3).ownsRow B 27 4 (.slice (some ⟨g, 0, none⟩) n c) n ((((xs.set o x0).set (o + 1) x1).set (o + 2) x2).set (o + 3) x3) :=
  (((h.stored o x0).1.stored (o + 1) x1).1.stored (o + 2) x2).1.stored (o + 3) x3 |>.1
theorem list_set4 (a b : List Value) (o : Nat) (ho : a.length = o) (y0 y1 y2 y3 x0 x1 x2 x3 : Value) : (((((a ++ y0 :: y1 :: y2 :: y3 :: b).set o x0).set (o + 1) x1).set (o + 2) x2).set (o + 3) x3) = a ++ x0 :: x1 :: x2 :: x3 :: b := by
  subst ho
  simp [List.set_append_right]

theorem KsO.place {w : World} {P : Nat → Prop} {ks : List V} {A : Option Addr} {l c : Nat} (h : KsO w P ks A l c) (hl : 0 < l) : ∃ g, A = some ⟨g, 0, none⟩ ∧ P g ∧ g < w.heap.size ∧ (∀ j, w.frozen? ⟨g, j, none⟩ = false) ∧ l ≤ c ∧ l = ks.length := by
  obtain ⟨xs, ho, hP, hc⟩ := h
  have hlen : l = ks.length := by have := ho.1; have := hc.len; omega
  have hcap := own_cap ho
  rcases ho.2 with ⟨_, h0⟩ | ⟨g, cap, cur, hv, hb, hg, hrest⟩
  · omega
  · have hob : (Value.slice A l c).ownBlock = some g := by rw [hv]; rfl
    injection hv with h1 _ h3
    subst h1
    exact ⟨g, rfl, hP g hob, (ho.lt g hob).2, fun j => ho.frozenAt j, hcap, hlen⟩

theorem CO.split {w : World} {P : Nat → Prop} : ∀ {us vs : List V} {xs : List Value}, CO w P (us ++ vs) xs → ∃ a b, xs = a ++ b ∧ a.length = us.length * 4 ∧ CO w P us a ∧ CO w P vs b
  | [], _, xs, h => ⟨[], xs, rfl, rfl, rfl, h⟩
  | _ :: _, _, _, h => by
    obtain ⟨x0, x1, x2, x3, ys, rfl, hv, hr⟩ := h
    obtain ⟨a, b, rfl, hl, ha, hb⟩ := CO.split hr
    exact ⟨x0 :: x1 :: x2 :: x3 :: a, b, rfl, by simp [hl]; omega, ⟨x0, x1, x2, x3, a, rfl, hv, ha⟩, hb⟩
theorem CO.join {w : World} {P : Nat → Prop} : ∀ {us vs : List V} {a b : List Value}, CO w P us a → CO w P vs b → CO w P (us ++ vs) (a ++ b)
  | [], _, a, b, ha, hb => by rw [show a = [] from ha]; exact hb
  | _ :: _, _, _, _, ha, hb => by
    obtain ⟨x0, x1, x2, x3, ys, rfl, hv, hr⟩ := ha
    exact ⟨x0, x1, x2, x3, _, rfl, hv, CO.join hr hb⟩
theorem vO_leaf (w : World) (P : Nat → Prop) {k n : Nat} (t : ByteArray) (hk : k < 256) (hn : n < 18446744073709551616) : VO w (.mk k n t []) P (.int .u8 (k : Int)) (.int .u64 (n : Int)) (.string t) (.slice none 0 0) :=
  vO_iff.2 ⟨none, 0, 0, rfl, rfl, rfl, rfl, hk, hn, [], World.ownsRow_nil _ _ _ _, (fun _ hb => nomatch hb), rfl⟩
/-- A kid is written over by one without kids. -/
theorem KsO.setAt {w : World} {P : Nat → Prop} {us vs : List V} {v : V} {g l c o : Nat} (h : KsO w P (us ++ v :: vs) (some ⟨g, 0, none⟩) l c) (ho : us.length * 4 = o) {k n : Nat} (t : ByteArray) (hk : k < 256) (hn : n < 18446744073709551616) :
    KsO (set4 w g o (.int .u8 (k : Int)) (.int .u64 (n : Int)) (.string t) (.slice none 0 0)) P (us ++ .mk k n t [] :: vs) (some ⟨g, 0, none⟩) l c := by
  obtain ⟨xs, hown, hP, hc⟩ := h
  obtain ⟨a, b, rfl, hl, ha, hb⟩ := hc.split
  obtain ⟨x0, x1, x2, x3, ys, rfl, hv, hr⟩ := hb
  have hk' : ∀ i, (P i ∧ (Value.slice (some ⟨g, 0, none⟩) l c).ownBlock ≠ some i) → (set4 w g o (.int .u8 (k : Int)) (.int .u64 (n : Int)) (.string t) (.slice none 0 0)).heap[i]? = w.heap[i]? := fun i hi => set4_block _ _ _ _ _ _ _ (fun e => hi.2 (by rw [e]; rfl))
  have hs := set4_own (o := o) hown (.int .u8 (k : Int)) (.int .u64 (n : Int)) (.string t) (.slice none 0 0)
  rw [list_set4 a ys o (by omega)] at hs
  exact ⟨_, hs, hP, CO.join (CO.keep hk' ha) ⟨_, _, _, _, ys, rfl, vO_leaf _ _ t hk hn, CO.keep hk' hr⟩⟩
/-- One without kids is appended. -/
theorem KsO.append {w w' : World} {P P' : Nat → Prop} {us : List V} {A : Option Addr} {l c : Nat} {xs : List Value} (hP : ∀ b, (Value.slice A l c).ownBlock = some b → P b) (hc : CO w (fun i => P i ∧ (Value.slice A l c).ownBlock ≠ some i) us xs) (hlt : ∀ i, P i → i < w.heap.size) (hPP : ∀ i, P i → P' i) {k n : Nat} {t : ByteArray} (hk : k < 256) (hn : n < 18446744073709551616) {g cap : Nat}
    (hown : w'.ownsRow 0 27 4 (.slice (some ⟨g, 0, none⟩) (l + 1) cap) (l + 1) (xs ++ [.int .u8 (k : Int), .int .u64 (n : Int), .string t, .slice none 0 0])) (hg : ∀ i, i < w.heap.size → (Value.slice A l c).ownBlock ≠ some i → w'.heap[i]? = w.heap[i]?) (hat : (Value.slice A l c).ownBlock = some g ∨ w.heap.size ≤ g) (hPg : w.heap.size ≤ g → P' g) :
    KsO w' P' (us ++ [.mk k n t []]) (some ⟨g, 0, none⟩) (l + 1) cap := by
  refine ⟨_, hown, fun b hb => ?_, CO.join ((CO.keep (fun i hi => hg i (hlt i hi.1) hi.2) hc).mono fun i hi => ⟨hPP i hi.1, fun e => ?_⟩) ⟨_, _, _, _, [], rfl, vO_leaf _ _ t hk hn, rfl⟩⟩
  · have e2 : g = b := by simpa [Value.ownBlock] using hb
    subst e2
    rcases hat with h | h
    · exact hPP _ (hP _ h)
    · exact hPg h
  · have e2 : g = i := by simpa [Value.ownBlock] using e
    subst e2
    rcases hat with h | h
    · exact hi.2 h
    · have := hlt g hi.1; omega
/-- A row of two kids: the first one has none; the second one's are us. -/
structure XS (w : World) (P : Nat → Prop) (g c k0 n0 : Nat) (t0 : ByteArray) (A0 : Option Addr) (c0 : Nat) (us : List V) (A : Option Addr) (l c' : Nat) : Prop where
  own : w.ownsRow 0 27 4 (.slice (some ⟨g, 0, none⟩) 2 c) 2 [.int .u8 (k0 : Int), .int .u64 (n0 : Int), .string t0, .slice A0 0 c0, .int .u8 22, .int .u64 0, .string ⟨#[]⟩, .slice A l c']
  inn : KsO w (fun i => P i ∧ i ≠ g) us A l c'
  pg : P g
  lt : k0 < 256 ∧ n0 < 18446744073709551616
  sub : ∀ i, P i → i < w.heap.size
theorem XS.of {w : World} {P : Nat → Prop} {k0 n0 : Nat} {t0 : ByteArray} {us : List V} {A : Option Addr} {l c : Nat} (h : KsO w P [.mk k0 n0 t0 [], .mk 22 0 ⟨#[]⟩ us] A l c) (hs : ∀ i, P i → i < w.heap.size) : ∃ g A0 c0 A' l' c', A = some ⟨g, 0, none⟩ ∧ l = 2 ∧ XS w P g c k0 n0 t0 A0 c0 us A' l' c' := by
  have hlen := h.kids.len
  simp at hlen
  subst hlen
  obtain ⟨g, rfl, hPg, hlt, hf, _, _⟩ := h.place (by omega)
  obtain ⟨xs, ho, hP, hc⟩ := h
  obtain ⟨x0, x1, x2, x3, ys, rfl, hv0, hr⟩ := hc
  obtain ⟨y0, y1, y2, y3, zs, rfl, hv, hz⟩ := hr
  obtain rfl : zs = [] := hz
  obtain ⟨A0, l0, c0, rfl, rfl, rfl, rfl, hk0, hn0, h0⟩ := vO_iff.1 hv0
  obtain ⟨A', l', c', rfl, rfl, rfl, rfl, hk, hn, hi⟩ := vO_iff.1 hv
  have hl0 := h0.kids.len
  simp at hl0
  subst hl0
  exact ⟨g, A0, c0, A', l', c', rfl, rfl, ho, hi.mono fun i hi => ⟨hi.1, fun e => hi.2 (by rw [e]; rfl)⟩, hPg, ⟨hk0, hn0⟩, hs⟩
section
variable {w w' : World} {P P' : Nat → Prop} {g c k0 n0 : Nat} {t0 : ByteArray} {A0 : Option Addr} {c0 : Nat} {us us' : List V} {A A' : Option Addr} {l l' c' c2 : Nat}
theorem XS.cells (h : XS w P g c k0 n0 t0 A0 c0 us A l c') : w.cell? ⟨g, 0, none⟩ = some (.int .u8 (k0 : Int)) ∧ w.cell? ⟨g, 1, none⟩ = some (.int .u64 (n0 : Int)) ∧ w.cell? ⟨g, 2, none⟩ = some (.string t0) ∧ w.cell? ⟨g, 3, none⟩ = some (.slice A0 0 c0) ∧ w.cell? ⟨g, 7, none⟩ = some (.slice A l c') ∧ (∀ j, w.frozen? ⟨g, j, none⟩ = false) := by
  refine ⟨?_, ?_, ?_, ?_, ?_, fun j => h.own.frozenAt j⟩
  · rw [h.own.cellAt 0 (by omega)]; rfl
  · rw [h.own.cellAt 1 (by omega)]; rfl
  · rw [h.own.cellAt 2 (by omega)]; rfl
  · rw [h.own.cellAt 3 (by omega)]; rfl
  · rw [h.own.cellAt 7 (by omega)]; rfl
theorem XS.cap (h : XS w P g c k0 n0 t0 A0 c0 us A l c') : 2 ≤ c := own_cap h.own
theorem XS.kids (h : XS w P g c k0 n0 t0 A0 c0 us A l c') : Val.Kids true w P [.mk k0 n0 t0 [], .mk 22 0 ⟨#[]⟩ us] (some ⟨g, 0, none⟩) 2 c :=
  kids_ofO h.own (fun b hb => by
    have e2 : g = b := by simpa [Value.ownBlock] using hb
    exact e2 ▸ h.pg) ⟨A0, 0, c0, _, rfl, h.lt.1, h.lt.2, Val.Kids.none_ _ _ _ _ _, A, l, c', [], rfl, by omega, by omega, h.inn.kids.mono fun i hi => hi.1, rfl⟩
theorem XS.kd (h : XS w P g c k0 n0 t0 A0 c0 us A l c') : Kd w [.mk k0 n0 t0 [], .mk 22 0 ⟨#[]⟩ us] (some ⟨g, 0, none⟩) 2 c := h.kids.weak.mono h.sub
theorem XS.keep (h : XS w P g c k0 n0 t0 A0 c0 us A l c') (hk : ∀ i, P i → w'.heap[i]? = w.heap[i]?) (hs : w.heap.size ≤ w'.heap.size) : XS w' P g c k0 n0 t0 A0 c0 us A l c' :=
  ⟨own_keep h.own fun b hb => by
    have e2 : g = b := by simpa [Value.ownBlock] using hb
    exact hk b (e2 ▸ h.pg), h.inn.keep fun i hi => hk i hi.1, h.pg, h.lt, fun i hi => Nat.lt_of_lt_of_le (h.sub i hi) hs⟩
theorem XS.call (h : XS w P g c k0 n0 t0 A0 c0 us A l c') (hb : Below w.heap.size w w') : XS w' P g c k0 n0 t0 A0 c0 us A l c' := h.keep (fun i hi => hb.block i (h.sub i hi)) hb.size
theorem XS.mono (h : XS w P g c k0 n0 t0 A0 c0 us A l c') (hP : ∀ i, P i → P' i) (hs : ∀ i, P' i → i < w.heap.size) : XS w P' g c k0 n0 t0 A0 c0 us A l c' :=
  ⟨h.own, h.inn.mono fun i hi => ⟨hP i hi.1, hi.2⟩, hP g h.pg, h.lt, hs⟩
/-- The first one is written over. -/
theorem XS.set0 (h : XS w P g c k0 n0 t0 A0 c0 us A l c') {k n : Nat} (t : ByteArray) (hk : k < 256) (hn : n < 18446744073709551616) : XS (set4 w g 0 (.int .u8 (k : Int)) (.int .u64 (n : Int)) (.string t) (.slice none 0 0)) P g c k n t none 0 us A l c' :=
  ⟨set4_own (o := 0) h.own _ _ _ _, h.inn.keep fun i hi => set4_block _ _ _ _ _ _ _ hi.2, h.pg, ⟨hk, hn⟩, fun i hi => by rw [set4_size]; exact h.sub i hi⟩
/-- The second one's kids are written anew. -/
theorem XS.grow (h : XS w P g c k0 n0 t0 A0 c0 us A l c') (hw : w'.heap[g]? = w.heap[g]?) (hP : ∀ i, P i → P' i) (hs : ∀ i, P' i → i < w'.heap.size) (hn : KsO w' (fun i => P' i ∧ i ≠ g) us' A' l' c2) : XS (w'.setCell ⟨g, 7, none⟩ (.slice A' l' c2)) P' g c k0 n0 t0 A0 c0 us' A' l' c2 := by
  have ho := own_keep (w' := w') h.own fun b hb => by
    have e2 : g = b := by simpa [Value.ownBlock] using hb
    exact e2 ▸ hw
  exact ⟨(ho.stored 7 (.slice A' l' c2)).1, hn.keep fun i hi => Below.heap_setCell _ _ _ _ hi.2, hP g h.pg, h.lt, fun i hi => by simpa using hs i hi⟩
end
end Go.Proofs.YtohmnbefokhjpaaDoor.Sep
