/-
  OutcomeNames: what holds at its loop's head holds behind a field that is appended, and behind the last field that is written over. No condition.
-/
import Derived.Test.YtohmnbefokhjpaaDoorOny
namespace Go.Proofs.YtohmnbefokhjpaaDoor.Sep
set_option maxRecDepth 100000
open Go.RowKit Go.Proofs.YtohmnbefokhjpaaDoor.Utf Go.Proofs.YtohmnbefokhjpaaDoor.Val Go.Proofs.YtohmnbefokhjpaaDoor.Fl Go.Proofs.YtohmnbefokhjpaaDoor.Oc V

theorem own_call {w w1 : World} {v : Value} {n : Nat} {xs : List Value} (h : w.ownsRow 0 27 4 v n xs) (hb : Below w.heap.size w w1) : w1.ownsRow 0 27 4 v n xs := own_keep h fun b hb' => hb.block b (h.lt b hb').2
section
variable {w wr w1 w9 : World} {E k a b : Nat} {c : ByteArray} {gN gV : Nat} {A : Option Addr} {c1 : Nat} {us : List V} {gY g cX : Nat} {A0 : Option Addr} {c0 : Nat} {us' : List V} {A' : Option Addr} {l' c' : Nat}
theorem LS.push (h : LS w wr E k a b c gN gV A c1 us gY g cX A0 c0 us' A' l' c') {ys : List Value}
    (hP : ∀ b, (Value.slice A' l' c').ownBlock = some b → Pw E gY wr b ∧ b ≠ g)
    (hc : CO wr (fun i => (Pw E gY wr i ∧ i ≠ g) ∧ (Value.slice A' l' c').ownBlock ≠ some i) us' ys)
    (hb : Below wr.heap.size wr w1) {k2 n2 : Nat} {t2 : ByteArray} (hk : k2 < 256) (hn : n2 < 18446744073709551616) {g9 cap9 : Nat}
    (hown : w9.ownsRow 0 27 4 (.slice (some ⟨g9, 0, none⟩) (l' + 1) cap9) (l' + 1) (ys ++ [.int .u8 (k2 : Int), .int .u64 (n2 : Int), .string t2, .slice none 0 0]))
    (hg : w1.grownBy w9 (Value.slice A' l' c').ownBlock) (hat : (Value.slice A' l' c').ownBlock = some g9 ∨ wr.heap.size ≤ g9) (hlt : g9 < w9.heap.size) :
    LS w (w9.setCell ⟨g, 7, none⟩ (.slice (some ⟨g9, 0, none⟩) (l' + 1) cap9)) E k a b c gN gV A c1 us gY g cX A0 c0 (us' ++ [.mk k2 n2 t2 []]) (some ⟨g9, 0, none⟩) (l' + 1) cap9 := by
  have hs1 := hb.size
  have hs9 := hg.size
  have hpg := h.xs.pg
  have hge := h.ge
  have hgY := h.bx.lt
  have hblk : ∀ i, i < wr.heap.size → (Value.slice A' l' c').ownBlock ≠ some i → w9.heap[i]? = wr.heap[i]? := fun i hi hne => (hg.block i (Nat.lt_of_lt_of_le hi hs1) (fun e => hne e.symm)).trans (hb.block i hi)
  have hob : ∀ i, (Value.slice A' l' c').ownBlock = some i → E ≤ i ∧ i ≠ gY ∧ i ≠ g := fun i hi => ⟨(hP i hi).1.1, (hP i hi).1.2.2, (hP i hi).2⟩
  have hEle := h.ns.le.2.2.2
  have hB9 : Below E wr w9 := ⟨hg.os.trans hb.os, hg.tape.trans hb.tape, hg.output.trans hb.output, by omega, fun i hi => hblk i (by omega) (fun e => by have := (hob i e).1; omega)⟩
  have hK := KsO.append (P := fun i => Pw E gY wr i ∧ i ≠ g) (P' := fun i => Pw E gY w9 i ∧ i ≠ g) hP hc (fun i hi => hi.1.2.1) (fun i hi => ⟨⟨hi.1.1, by have := hi.1.2.1; omega, hi.1.2.2⟩, hi.2⟩) hk hn hown hblk hat (fun hi => ⟨⟨by omega, hlt, by omega⟩, by have := hpg.2.1; omega⟩)
  have hgne : gY ≠ g := fun e => hpg.2.2 e.symm
  refine ⟨h.ns.off (fun i hi => (Below.heap_setCell _ _ _ _ (by have := hpg.1; simp only; omega)).trans (hblk i (by omega) (fun e => by have := (hob i e).1; omega))) (hB9.setCell (p := ⟨g, 7, none⟩) hpg.1 _), (Below.heap_setCell _ _ _ _ hgne).trans ((hblk gY hgY (fun e => (hob gY e).2.1 rfl)).trans h.bx), ?_, h.ge⟩
  exact (h.xs.grow (P' := Pw E gY w9) (hblk g hpg.2.1 (fun e => (hob g e).2.2 rfl)) (fun i hi => ⟨hi.1, by have := hi.2.1; omega, hi.2.2⟩) (fun i hi => hi.2.1) hK).mono (fun i hi => ⟨hi.1, by simpa using hi.2.1, hi.2.2⟩) (fun i hi => hi.2.1)
theorem LS.setLast {v : V} {g9 l cap o : Nat} (h : LS w wr E k a b c gN gV A c1 us gY g cX A0 c0 (us' ++ [v]) (some ⟨g9, 0, none⟩) (l + 1) cap) (ho : us'.length * 4 = o) {k2 n2 : Nat} (t2 : ByteArray) (hk : k2 < 256) (hn : n2 < 18446744073709551616) :
    LS w (set4 wr g9 o (.int .u8 (k2 : Int)) (.int .u64 (n2 : Int)) (.string t2) (.slice none 0 0)) E k a b c gN gV A c1 us gY g cX A0 c0 (us' ++ [.mk k2 n2 t2 []]) (some ⟨g9, 0, none⟩) (l + 1) cap := by
  obtain ⟨g', e, hP, hlt, _⟩ := h.xs.inn.place (by omega)
  obtain rfl : g9 = g' := by injection e with e; injection e
  have hi2 := h.xs.inn.setAt (vs := []) ho t2 hk hn
  have hgE := hP.1.1
  have hpg := h.xs.pg
  have hblk : ∀ i, i ≠ g9 → (set4 wr g9 o (.int .u8 (k2 : Int)) (.int .u64 (n2 : Int)) (.string t2) (.slice none 0 0)).heap[i]? = wr.heap[i]? := fun i hi => set4_block _ _ _ _ _ _ _ hi
  have hsz := set4_size wr g9 o (.int .u8 (k2 : Int)) (.int .u64 (n2 : Int)) (.string t2) (.slice none 0 0)
  refine ⟨h.ns.off (fun i hi => hblk i (by omega)) (set4_below (Below.refl _ _) hgE _ _ _ _), (hblk gY (fun e => hP.1.2.2 e.symm)).trans h.bx, ⟨own_keep h.xs.own fun b hb => ?_, hi2.mono fun i hi => ⟨⟨hi.1.1, by rw [hsz]; exact hi.1.2.1, hi.1.2.2⟩, hi.2⟩, ⟨hpg.1, by rw [hsz]; exact hpg.2.1, hpg.2.2⟩, h.xs.lt, fun i hi => hi.2.1⟩, h.ge⟩
  have e2 : g = b := by simpa [Value.ownBlock] using hb
  exact hblk b (fun e3 => hP.2 (by rw [e2, e3]))
end
theorem far_cell {w w1 : World} (hb : Below w.heap.size w w1) (o : Obj) {p : Addr} (hp : p.block < w.heap.size) : (w1.alloc o).cell? p = w.cell? p :=
  (hb.alloc hb.size o).cell hp
theorem far_frozen {w w1 : World} (hb : Below w.heap.size w w1) (o : Obj) {p : Addr} (hp : p.block < w.heap.size) : (w1.alloc o).frozen? p = w.frozen? p :=
  World.frozen?_of_block ((hb.alloc hb.size o).block p.block hp)
theorem KsO.last {w : World} {P : Nat → Prop} {us : List V} {k n : Nat} {t : ByteArray} {g l c o : Nat} (h : KsO w P (us ++ [.mk k n t []]) (some ⟨g, 0, none⟩) l c) (ho : us.length * 4 = o) :
    ∃ A c', w.cell? ⟨g, o, none⟩ = some (.int .u8 (k : Int)) ∧ w.cell? ⟨g, o + 1, none⟩ = some (.int .u64 (n : Int)) ∧ w.cell? ⟨g, o + 2, none⟩ = some (.string t) ∧ w.cell? ⟨g, o + 3, none⟩ = some (.slice A 0 c') ∧ ∀ j, w.frozen? ⟨g, j, none⟩ = false := by
  obtain ⟨xs, hown, _, hc⟩ := h
  obtain ⟨a, b, rfl, hl, ha, hb⟩ := hc.split
  obtain ⟨x0, x1, x2, x3, ys, rfl, hv, hr⟩ := hb
  obtain rfl : ys = [] := hr
  obtain ⟨A, l2, c', rfl, rfl, rfl, rfl, _, _, h2⟩ := vO_iff.1 hv
  have hl2 := h2.kids.len
  simp at hl2
  subst hl2
  have hln := hown.1
  simp at hln
  have hla : a.length = o := by omega
  refine ⟨A, c', ?_, ?_, ?_, ?_, fun j => hown.frozenAt j⟩
  · rw [hown.cellAt o (by omega), List.getElem?_append_right (by omega), hla, Nat.sub_self]; rfl
  · rw [hown.cellAt (o + 1) (by omega), List.getElem?_append_right (by omega), hla, Nat.add_sub_cancel_left]; rfl
  · rw [hown.cellAt (o + 2) (by omega), List.getElem?_append_right (by omega), hla, Nat.add_sub_cancel_left]; rfl
  · rw [hown.cellAt (o + 3) (by omega), List.getElem?_append_right (by omega), hla, Nat.add_sub_cancel_left]; rfl
theorem at_least {w wp : World} {v : Value} {g9 : Nat} (hb : Below w.heap.size w wp) (h : v.ownBlock = some g9 ∨ g9 = wp.heap.size) : v.ownBlock = some g9 ∨ w.heap.size ≤ g9 := by
  rcases h with h | h
  · exact .inl h
  · exact .inr (by rw [h]; exact hb.size)
end Go.Proofs.YtohmnbefokhjpaaDoor.Sep
