/-
  encode's codes in memory: a map from kinds to slices of choices, each a code and a function that says which plans it can tell. The store into such a map. No condition.
-/
import Derived.Test.YtophlpkbpjhhjaaDoorLong
import Derived.Maps.OwnOps
namespace Go.Proofs.YtophlpkbpjhhjaaDoor.Enc
set_option maxRecDepth 100000
open Go.RowKit Go.Proofs.YtophlpkbpjhhjaaDoor.Utf Go.Proofs.YtophlpkbpjhhjaaDoor.Val Go.MapKept

/-- The function value v says what f says. -/
def CanV (w : World) (f : Can) (v : Value) : Prop := match f with
  | .all => v = .func (.func 37) #[] #[]
  | .just n => ∃ g, v = .func (.func 46) #[] #[.pointer (some ⟨g, 0, none⟩)] ∧ g < w.heap.size ∧ w.cell? ⟨g, 0, none⟩ = some (.int .u64 (n : Int))
  | .upto n => ∃ g, v = .func (.func 48) #[] #[.pointer (some ⟨g, 0, none⟩)] ∧ g < w.heap.size ∧ w.cell? ⟨g, 0, none⟩ = some (.int .u64 (n : Int))
  | .short => v = .func (.func 40) #[] #[]
  | .near => v = .func (.func 43) #[] #[]
  | .none_ => v = .func (.func 38) #[] #[]
  | .small => v = .func (.func 41) #[] #[]
theorem CanV.keep {w w' : World} {f : Can} {v : Value} (h : CanV w f v) (hs : w.heap.size ≤ w'.heap.size) (hk : ∀ g, g < w.heap.size → ∀ o x, w.cell? ⟨g, o, none⟩ = some (.int .u64 x) → w'.cell? ⟨g, o, none⟩ = some (.int .u64 x)) : CanV w' f v := by
  cases f with
  | just n =>
    obtain ⟨g, e, hg, hc⟩ := h
    exact ⟨g, e, by omega, hk g hg _ _ hc⟩
  | upto n =>
    obtain ⟨g, e, hg, hc⟩ := h
    exact ⟨g, e, by omega, hk g hg _ _ hc⟩
  | all => exact h
  | short => exact h
  | near => exact h
  | none_ => exact h
  | small => exact h
theorem CanV.call {w w' : World} {f : Can} {v : Value} (h : CanV w f v) (hb : Below w.heap.size w w') : CanV w' f v := h.keep hb.size fun g hg o _ hc => (hb.cell (p := ⟨g, o, none⟩) hg).trans hc
theorem CanV.alloc {w : World} {f : Can} {v : Value} (h : CanV w f v) (o : Obj) : CanV (w.alloc o) f v := h.call ((Below.refl _ _).alloc (Nat.le_refl _) _)

/-- Choices, one behind the other. -/
def ChV (w : World) : List (Nat × Can) → Nat → Nat → Prop
  | [], _, _ => True
  | (c, f) :: r, b, o => (w.cell? ⟨b, o, none⟩ = some (.int .u8 (c : Int)) ∧ ∃ v, w.cell? ⟨b, o + 1, none⟩ = some v ∧ CanV w f v) ∧ ChV w r b (o + 2)
theorem ChV.keep {w w' : World} (hs : w.heap.size ≤ w'.heap.size) (hk : ∀ g, g < w.heap.size → ∀ o x, w.cell? ⟨g, o, none⟩ = some x → w'.cell? ⟨g, o, none⟩ = some x) : ∀ {l : List (Nat × Can)} {b o : Nat}, b < w.heap.size → ChV w l b o → ChV w' l b o
  | [], _, _, _, _ => trivial
  | (_, _) :: _, _, _, hb, ⟨⟨h1, v, h2, h3⟩, h4⟩ => ⟨⟨hk _ hb _ _ h1, v, hk _ hb _ _ h2, h3.keep hs fun g hg o _ => hk g hg o _⟩, h4.keep hs hk hb⟩
theorem chV_at {w : World} : ∀ {l : List (Nat × Can)} {b o i c : Nat} {f : Can}, ChV w l b o → l[i]? = some (c, f) → w.cell? ⟨b, o + i * 2, none⟩ = some (.int .u8 (c : Int)) ∧ ∃ v, w.cell? ⟨b, o + i * 2 + 1, none⟩ = some v ∧ CanV w f v
  | [], _, _, _, _, _, _, h => by simp at h
  | (c', f') :: l, b, o, 0, c, f, hr, h => by
    simp at h
    obtain ⟨rfl, rfl⟩ := h
    simpa using hr.1
  | x :: l, b, o, i + 1, c, f, hr, h => by
    have := chV_at (i := i) hr.2 (by simpa using h)
    rwa [show o + (i + 1) * 2 = o + 2 + i * 2 by omega]
/-- What the map has at a kind. -/
def EntV (w : World) (k : Nat) (v : Value) : Prop := ∃ b c, v = .slice (some ⟨b, 0, none⟩) (chs k).length c ∧ b < w.heap.size ∧ ChV w (chs k) b 0
theorem EntV.keep {w w' : World} {k : Nat} {v : Value} (h : EntV w k v) (hs : w.heap.size ≤ w'.heap.size) (hk : ∀ g, g < w.heap.size → ∀ o x, w.cell? ⟨g, o, none⟩ = some x → w'.cell? ⟨g, o, none⟩ = some x) : EntV w' k v := by
  obtain ⟨b, c, e, hb, hc⟩ := h
  exact ⟨b, c, e, by omega, hc.keep hs hk hb⟩
/-- What was there is there. -/
def Keep (w w' : World) : Prop := w.heap.size ≤ w'.heap.size ∧ ∀ g, g < w.heap.size → ∀ o x, w.cell? ⟨g, o, none⟩ = some x → w'.cell? ⟨g, o, none⟩ = some x
theorem Keep.of_below {w w' : World} (hb : Below w.heap.size w w') : Keep w w' := ⟨hb.size, fun g hg o _ hc => (hb.cell (p := ⟨g, o, none⟩) hg).trans hc⟩
/-- Block bm is a map that has the choices of the kinds of S. -/
def MapS (S : Nat → Prop) (w : World) (bm : Nat) : Prop := ∃ es clock, w.heap[bm]? = some (.map es clock) ∧ (∀ e ∈ es.toList, ∃ k : Nat, e.key = .int .u8 (k : Int) ∧ S k ∧ EntV w k e.val) ∧ ∀ k, S k → ∃ e ∈ es.toList, e.key = .int .u8 (k : Int)
theorem MapS.lt {S : Nat → Prop} {w : World} {bm : Nat} (h : MapS S w bm) : bm < w.heap.size := by
  obtain ⟨es, clock, hb, _⟩ := h
  exact (Array.getElem?_eq_some_iff.1 hb).1
theorem MapS.keep {S : Nat → Prop} {w w' : World} {bm : Nat} (h : MapS S w bm) (hb : w'.heap[bm]? = w.heap[bm]?) (hk : Keep w w') : MapS S w' bm := by
  obtain ⟨es, clock, hm, hs, he⟩ := h
  exact ⟨es, clock, hb.trans hm, fun e h => by
    obtain ⟨k, h1, h2, h3⟩ := hs e h
    exact ⟨k, h1, h2, h3.keep hk.1 hk.2⟩, he⟩
theorem MapS.call {S : Nat → Prop} {w w' : World} {bm : Nat} (h : MapS S w bm) (hb : Below w.heap.size w w') : MapS S w' bm := h.keep (hb.block bm h.lt) (Keep.of_below hb)
theorem MapS.same {S S' : Nat → Prop} {w : World} {bm : Nat} (h : MapS S w bm) (hs : ∀ k, S k ↔ S' k) : MapS S' w bm := by
  obtain ⟨es, clock, hm, h1, h2⟩ := h
  exact ⟨es, clock, hm, fun e he => by
    obtain ⟨k, a, b, c⟩ := h1 e he
    exact ⟨k, a, (hs k).1 b, c⟩, fun k hk => h2 k ((hs k).2 hk)⟩
theorem mapS_new (w : World) : MapS (fun _ => False) (w.alloc (.map #[] 0)) w.heap.size :=
  ⟨#[], 0, heap_alloc_new w _, fun e h => by simp at h, fun _ h => h.elim⟩

/-- One kind more is laid into the map. -/
theorem run_insert {S : Nat → Prop} {k : Nat} {w : World} {bm : Nat} {v : Value} (h : MapS S w bm) (hk : ¬ S k) (hv : EntV w k v) : ∃ w', (Instr.mapUpdate 57 (.map (some bm)) (.int .u8 (k : Int)) v).run Tryd.prog w = .ok () w' ∧ MapS (fun j => j = k ∨ S j) w' bm ∧ w.grownBy w' (some bm) ∧ Keep w w' := by
  obtain ⟨es, clock, hm, he, hS⟩ := h
  have hks : ∀ x ∈ es.toList, IsKey (.int .u8) x.key := fun x hx => by
    obtain ⟨j, e, _⟩ := he x hx
    rw [e]; rfl
  have hf : (Instr.findKey 5 (.int .u8 (k : Int)) es.toList).run Tryd.prog w = .ok none w := by
    rcases findNow_spec (d := .int .u8) (k := .int .u8 (k : Int)) rfl es.toList 0 hks with ⟨h1, _⟩ | ⟨j, e, _, h2, h3⟩
    · exact run_findKey Tryd.underlying5 h1
    · obtain ⟨j', e', hj, _⟩ := he e (List.mem_of_getElem? h2)
      rw [e'] at h3
      injection h3 with _ h3
      have : j' = k := by omega
      exact absurd (this ▸ hj) hk
  have hck : (Instr.checkKey false 10000 5 (.int .u8 (k : Int))).run Tryd.prog w = .ok () w := run_checkKey (d := .int .u8) Tryd.underlying5 (by exact rfl) false 9999
  have hset := heap_set (o' := .map (es.push { key := .int .u8 (k : Int), val := v, born := clock }) (clock + 1)) hm
  have hkc : Keep w { w with heap := w.heap.setIfInBounds bm (.map (es.push { key := .int .u8 (k : Int), val := v, born := clock }) (clock + 1)) } := ⟨by simp, fun g hg o x hc => by
    by_cases e : g = bm
    · subst e
      simp [World.cell?, hm] at hc
    · rw [World.cell?_of_block (hset.2 g e)]; exact hc⟩
  refine ⟨{ w with heap := w.heap.setIfInBounds bm (.map (es.push { key := .int .u8 (k : Int), val := v, born := clock }) (clock + 1)) }, ?_, ⟨_, _, hset.1, ?_, ?_⟩, ⟨rfl, rfl, rfl, by simp, fun i _ hi => hset.2 i fun e => hi (by rw [e])⟩, hkc⟩
  · simp only [Instr.mapUpdate, Sem.run_bind, run_underlying Tryd.underlying57, Result.andThen, MapKept.run_getObj_map hm, hck, hf, run_setObj_map _ hm]
  · intro e hx
    rw [Array.toList_push, List.mem_append] at hx
    rcases hx with hx | hx
    · obtain ⟨j, h1, h2, h3⟩ := he e hx
      exact ⟨j, h1, .inr h2, h3.keep hkc.1 hkc.2⟩
    · rw [List.mem_singleton.1 hx]
      exact ⟨k, rfl, .inl rfl, hv.keep hkc.1 hkc.2⟩
  · intro j hj
    rw [Array.toList_push]
    rcases hj with rfl | hj
    · exact ⟨_, List.mem_append.2 (.inr (List.mem_singleton.2 rfl)), rfl⟩
    · obtain ⟨e, h1, h2⟩ := hS j hj
      exact ⟨e, List.mem_append.2 (.inl h1), h2⟩

/-- Block bm is a map of all kinds' choices. -/
def CM (w : World) (bm : Nat) : Prop := MapS (fun k => 1 ≤ k ∧ k ≤ 24) w bm
theorem CM.call {w w' : World} {bm : Nat} (h : CM w bm) (hb : Below w.heap.size w w') : CM w' bm := MapS.call h hb
theorem CM.lt {w : World} {bm : Nat} (h : CM w bm) : bm < w.heap.size := MapS.lt h
/-- What the map answers at a kind. -/
theorem run_kind {w : World} {bm k : Nat} (h : CM w bm) (h1 : 1 ≤ k) (h2 : k ≤ 24) : ∃ v, (Instr.lookup 57 (.map (some bm)) (.int .u8 (k : Int)) false).run Tryd.prog w = .ok v w ∧ EntV w k v := by
  obtain ⟨es, clock, hm, he, hS⟩ := h
  have hck : (Instr.checkKey es.isEmpty 10000 5 (.int .u8 (k : Int))).run Tryd.prog w = .ok () w := run_checkKey (d := .int .u8) Tryd.underlying5 (by exact rfl) _ 9999
  have hks : ∀ x ∈ es.toList, IsKey (.int .u8) x.key := fun x hx => by
    obtain ⟨j, e, _⟩ := he x hx
    rw [e]; rfl
  rcases findNow_spec (d := .int .u8) (k := .int .u8 (k : Int)) rfl es.toList 0 hks with ⟨_, hno⟩ | ⟨j, e, hf, h2', h3⟩
  · obtain ⟨e, hx, hkey⟩ := hS k ⟨h1, h2⟩
    exact absurd hkey (hno e hx)
  · obtain ⟨j', hkey, _, hE⟩ := he e (List.mem_of_getElem? h2')
    rw [h3] at hkey
    injection hkey with _ hkey
    have hjk : k = j' := by omega
    rw [← hjk] at hE
    refine ⟨e.val, ?_, hE⟩
    have hfk := run_findKey (P := Tryd.prog) (w := w) Tryd.underlying5 hf
    simp only [Instr.lookup, Sem.run_bind, run_underlying Tryd.underlying57, Result.andThen, MapKept.run_getObj_map hm, hck, hfk, Sem.run_pure, Bool.false_eq_true, if_false]
end Go.Proofs.YtophlpkbpjhhjaaDoor.Enc
