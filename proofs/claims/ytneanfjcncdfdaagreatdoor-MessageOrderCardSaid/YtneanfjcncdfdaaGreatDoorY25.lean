/-
  Two rows of bytes that grow side by side: append tells where the row lies then. No condition.
-/
import Derived.Test.YtneanfjcncdfdaaGreatDoorY23
import Derived.Test.YtneanfjcncdfdaaGreatDoorY24

namespace Go.Proofs.YtneanfjcncdfdaaGreatDoor.Me
set_option maxRecDepth 100000
open Go.RowKit Utf Val V
set_option maxRecDepth 100000 in
/-- append(x, y...), and where it lies then: where it lay, or in new memory. -/
theorem wpList_app8at {w : World} {ops : Array Oper} {rest : List Oper} {o : Oper} {a : Act} {Q : Exit → Act → World → Prop} (hgd : o.guard = none) (s x : Operand)
    (ho : o.op = .call { callee := .builtin .append, args := #[s, x], argTypes := #[23, 23] })
    {base n c : Nat} {A : Option Addr} {L : List Nat} (hs : a.eval s = .slice A n c) (hown : Utf.Own .u8 256 5 w base A n c L)
    {B m d : Nat} {A' : Option Addr} {l : List Nat} (hx : a.eval x = .slice A' m d) (hr : Rd .u8 256 w B A' m l) (hsz : n + m ≤ 17592186044416) (hbase : base ≤ w.heap.size)
    (h : ∀ A2 c2 w', Utf.Own .u8 256 5 w' base A2 (n + m) c2 (L ++ l) → w.grownBy w' (Value.slice A n c).ownBlock → (∀ g, (Value.slice A2 (n + m) c2).ownBlock = some g → (Value.slice A n c).ownBlock = some g ∨ w.heap.size ≤ g) → wpList Tryz.prog ops Q rest (a.put o.dst (.slice A2 (n + m) c2)) w') :
    wpList Tryz.prog ops Q (o :: rest) a w := by
  obtain ⟨i0, hi, hz0, hz1, hz2⟩ := info_parts info5
  by_cases hm : m = 0
  · subst hm
    have hl : l = [] := List.eq_nil_of_length_eq_zero hr.1
    subst hl
    have hrun : (Builtin.append_ #[23, 23] o.type #[.slice A n c, .slice A' 0 d]).run Tryz.prog w = .ok (.slice A n c) w := by
      rcases hown.2.1.2 with ⟨e, rfl⟩ | ⟨g, cap, cur, e, _, _, hnc, _⟩
      · injection e with e1 _ e3; subst e1; subst e3
        cases A' <;> simp [Builtin.append_, run_underlying Tryz.underlying23, sizeOf, typeInfo, hi, Builtin.lenOf, Builtin.firstCells, loadCells, loadCellsFrom]
      · injection e with e1 _ e3; subst e1; subst e3
        cases A' <;> simp [Builtin.append_, run_underlying Tryz.underlying23, sizeOf, typeInfo, hi, Builtin.lenOf, Builtin.firstCells, hnc, storeCells, loadCells, loadCellsFrom]
    refine wpList_plain hgd fun K hK => ?_
    unfold Oper.wp execOp
    simp only [ho, resolve, invoke, builtin, Sem.run_bind, Sem.run_pure, Result.andThen_ok, List.map_toArray, List.map_cons, List.map_nil, hs, hx, hrun]
    exact hK _ _ (h A c w (by simpa using hown) (World.grownBy.refl w _) (fun g hg => .inl hg))
  · obtain ⟨b, o', rfl, _, hc⟩ := hr.2.2 (by omega)
    have hvl : (vs .u8 l).length = m * 1 := by rw [vs_length, hr.1]; omega
    have hnews : ∀ j u, (vs .u8 l)[j]? = some u → w.cell? ((⟨b, o', none⟩ : Addr).add j) = some u := fun j u hu => by
      have hj : j < l.length := by
        have := (List.getElem?_eq_some_iff.1 hu).1
        rwa [vs_length] at this
      rw [vs_at _ l j hj] at hu
      injection hu with hu
      subst hu
      rw [← hc j hj]
      unfold Addr.add
      split
      · rename_i h0; subst h0; rfl
      · rfl
    refine wpList_plain hgd fun K hK => ?_
    obtain ⟨g, cap, w', hrun, h2, h3, h4, h5⟩ := run_append_lies (P := Tryz.prog) w 23 o.type base 5 i0 (.int .u8 0) 1 1 Tryz.underlying23 hi hz0 hz1 hz2 rfl (by omega) (.slice A n c) n (vs .u8 L) hown.2.1 ⟨b, o', none⟩ m d (vs .u8 l) hvl hnews (vs_one _ _) (by omega) (by unfold maxLen; omega) (by omega) hbase _ rfl
    have h6 := typ_append (P := Tryz.prog) (Q := Nb .u8 256) 23 o.type 5 i0 (.int .u8 0) 1 Tryz.underlying23 hi hz0 hz1 hz2 rfl ⟨0, by omega, rfl⟩ base (.slice A n c) n (vs .u8 L) hown.2.1 hown.2.2 ⟨b, o', none⟩ m d (vs .u8 l) hvl hnews (vs_one _ _) (nb_vs hr.2.1) (by unfold maxLen; omega) (by omega) hrun
    rw [← vs_append] at h2
    unfold Oper.wp execOp
    simp only [ho, resolve, invoke, builtin, Sem.run_bind, Sem.run_pure, Result.andThen_ok, List.map_toArray, List.map_cons, List.map_nil, hs, hx, hrun]
    refine hK _ _ (h _ cap w' ⟨fun y hy => (List.mem_append.1 hy).elim (hown.1 y) (hr.2.1 y), h2, h6⟩ h3 fun g' hg' => ?_)
    have e : g = g' := by simpa [Value.ownBlock] using hg'
    subst e
    exact h4.imp id fun e => Nat.le_of_eq e.symm
/-- A row of one's own, beside another one that grows. -/
theorem own_grown {w w' : World} {base n c : Nat} {A : Option Addr} {l : List Nat} {row : Option Nat} (h : Utf.Own .u8 256 5 w base A n c l) (hg : w.grownBy w' row) (hr : ∀ g, (Value.slice A n c).ownBlock = some g → row ≠ some g) : Utf.Own .u8 256 5 w' base A n c l := by
  refine ⟨h.1, h.2.1.kept hg ?_, h.2.2.keep fun g hgo => hg.block g (h.blk g hgo).2 fun e => hr g hgo e.symm⟩
  cases hv : (Value.slice A n c).ownBlock with
  | none => exact .inl rfl
  | some g => exact .inr (fun e => hr g hv e.symm)
/-- Two rows of one's own that lie apart. -/
structure Two (w wi : World) (A : Option Addr) (n c : Nat) (L : List Nat) (A' : Option Addr) (n' c' : Nat) (L' : List Nat) : Prop where
  one : Utf.Own .u8 256 5 wi w.heap.size A n c L
  two : Utf.Own .u8 256 5 wi w.heap.size A' n' c' L'
  far : ∀ g, (Value.slice A n c).ownBlock = some g → (Value.slice A' n' c').ownBlock ≠ some g
  low : Below w.heap.size w wi
section
variable {w wi w' : World} {A : Option Addr} {n c : Nat} {L : List Nat} {A' : Option Addr} {n' c' : Nat} {L' : List Nat}
theorem Two.call (h : Two w wi A n c L A' n' c' L') (hb : Below wi.heap.size wi w') : Two w w' A n c L A' n' c' L' := ⟨h.one.below hb, h.two.below hb, h.far, below_next h.low hb⟩
theorem Two.fst {A2 : Option Addr} {m c2 : Nat} {L2 : List Nat} (h : Two w wi A n c L A' n' c' L') (ho : Utf.Own .u8 256 5 w' w.heap.size A2 m c2 L2) (hg : wi.grownBy w' (Value.slice A n c).ownBlock) (hat : ∀ g, (Value.slice A2 m c2).ownBlock = some g → (Value.slice A n c).ownBlock = some g ∨ wi.heap.size ≤ g) : Two w w' A2 m c2 L2 A' n' c' L' :=
  ⟨ho, own_grown h.two hg (fun g hg' e => h.far g e hg'), fun g hg' e => (hat g hg').elim (fun h1 => h.far g h1 e) (fun h1 => by have := (h.two.blk g e).2; omega), h.low.trans (below_grown h.one hg h.low.size)⟩
theorem Two.snd {A2 : Option Addr} {m c2 : Nat} {L2 : List Nat} (h : Two w wi A n c L A' n' c' L') (ho : Utf.Own .u8 256 5 w' w.heap.size A2 m c2 L2) (hg : wi.grownBy w' (Value.slice A' n' c').ownBlock) (hat : ∀ g, (Value.slice A2 m c2).ownBlock = some g → (Value.slice A' n' c').ownBlock = some g ∨ wi.heap.size ≤ g) : Two w w' A n c L A2 m c2 L2 :=
  ⟨own_grown h.one hg (fun g hg' e => h.far g hg' e), ho, fun g hg' e => (hat g e).elim (fun h1 => h.far g hg' h1) (fun h1 => by have := (h.one.blk g hg').2; omega), h.low.trans (below_grown h.two hg h.low.size)⟩
end
end Go.Proofs.YtneanfjcncdfdaaGreatDoor.Me
