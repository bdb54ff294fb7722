/-
  encode's codes in memory: a map from kinds to slices of choices, each a code and a function that says which plans it can tell. The store into such a map. No condition.
  Contracts of the functions that encode.allCodes makes: which plans a code can tell. Memory that was there stays. Condition: what a plan tells of its kids is below 2^50.
-/
import Derived.Test.YtikjnbognjicdaaDoorLong
import Derived.Maps.OwnOps
import Derived.Deep.QuietTactic
import Derived.BigQuiet
namespace Go.Proofs.YtikjnbognjicdaaDoor.Enc
set_option maxRecDepth 100000
open Go.RowKit Go.Proofs.YtikjnbognjicdaaDoor.Utf Go.Proofs.YtikjnbognjicdaaDoor.Val Go.MapKept

/-- The function value v says what f says. -/
def CanV (w : World) (f : Can) (v : Value) : Prop := match f with
  | .all => v = .func (.func 40) #[] #[]
  | .just n => ∃ g, v = .func (.func 49) #[] #[.pointer (some ⟨g, 0, none⟩)] ∧ g < w.heap.size ∧ w.cell? ⟨g, 0, none⟩ = some (.int .u64 (n : Int))
  | .upto n => ∃ g, v = .func (.func 51) #[] #[.pointer (some ⟨g, 0, none⟩)] ∧ g < w.heap.size ∧ w.cell? ⟨g, 0, none⟩ = some (.int .u64 (n : Int))
  | .short => v = .func (.func 43) #[] #[]
  | .near => v = .func (.func 46) #[] #[]
  | .none_ => v = .func (.func 41) #[] #[]
  | .small => v = .func (.func 44) #[] #[]
theorem CanV.keep {w w' : World} {f : Can} {v : Value} (h : CanV w f v) (hs : w.heap.size ≤ w'.heap.size) (hk : ∀ g, g < w.heap.size → ∀ o x, w.cell? ⟨g, o, none⟩ = some (.int .u64 x) → w'.cell? ⟨g, o, none⟩ = some (.int .u64 x)) : CanV w' f v := by
  cases f with
  | just n =>
    obtain ⟨g, e, hg, hc⟩ := h
    exact ⟨g, e, by omega, hk g hg _ _ hc⟩
  | upto n =>
    obtain ⟨g, e, hg, hc⟩ := h
    exact ⟨g, e, by omega, hk g hg _ _ hc⟩
  | all => exact h
  | short => exact h
  | near => exact h
  | none_ => exact h
  | small => exact h
theorem CanV.call {w w' : World} {f : Can} {v : Value} (h : CanV w f v) (hb : Below w.heap.size w w') : CanV w' f v := h.keep hb.size fun g hg o _ hc => (hb.cell (p := ⟨g, o, none⟩) hg).trans hc
theorem CanV.alloc {w : World} {f : Can} {v : Value} (h : CanV w f v) (o : Obj) : CanV (w.alloc o) f v := h.call ((Below.refl _ _).alloc (Nat.le_refl _) _)

/-- Choices, one behind the other. -/
def ChV (w : World) : List (Nat × Can) → Nat → Nat → Prop
  | [], _, _ => True
  | (c, f) :: r, b, o => (w.cell? ⟨b, o, none⟩ = some (.int .u8 (c : Int)) ∧ ∃ v, w.cell? ⟨b, o + 1, none⟩ = some v ∧ CanV w f v) ∧ ChV w r b (o + 2)
theorem ChV.keep {w w' : World} (hs : w.heap.size ≤ w'.heap.size) (hk : ∀ g, g < w.heap.size → ∀ o x, w.cell? ⟨g, o, none⟩ = some x → w'.cell? ⟨g, o, none⟩ = some x) : ∀ {l : List (Nat × Can)} {b o : Nat}, b < w.heap.size → ChV w l b o → ChV w' l b o
  | [], _, _, _, _ => trivial
  | (_, _) :: _, _, _, hb, ⟨⟨h1, v, h2, h3⟩, h4⟩ => ⟨⟨hk _ hb _ _ h1, v, hk _ hb _ _ h2, h3.keep hs fun g hg o _ => hk g hg o _⟩, h4.keep hs hk hb⟩
theorem chV_at {w : World} : ∀ {l : List (Nat × Can)} {b o i c : Nat} {f : Can}, ChV w l b o → l[i]? = some (c, f) → w.cell? ⟨b, o + i * 2, none⟩ = some (.int .u8 (c : Int)) ∧ ∃ v, w.cell? ⟨b, o + i * 2 + 1, none⟩ = some v ∧ CanV w f v
  | [], _, _, _, _, _, _, h => by simp at h
  | (c', f') :: l, b, o, 0, c, f, hr, h => by
    simp at h
    obtain ⟨rfl, rfl⟩ := h
    simpa using hr.1
  | x :: l, b, o, i + 1, c, f, hr, h => by
    have := chV_at (i := i) hr.2 (by simpa using h)
    rwa [show o + (i + 1) * 2 = o + 2 + i * 2 by omega]
/-- What the map has at a kind. -/
def EntV (w : World) (k : Nat) (v : Value) : Prop := ∃ b c, v = .slice (some ⟨b, 0, none⟩) (chs k).length c ∧ b < w.heap.size ∧ ChV w (chs k) b 0
theorem EntV.keep {w w' : World} {k : Nat} {v : Value} (h : EntV w k v) (hs : w.heap.size ≤ w'.heap.size) (hk : ∀ g, g < w.heap.size → ∀ o x, w.cell? ⟨g, o, none⟩ = some x → w'.cell? ⟨g, o, none⟩ = some x) : EntV w' k v := by
  obtain ⟨b, c, e, hb, hc⟩ := h
  exact ⟨b, c, e, by omega, hc.keep hs hk hb⟩
/-- What was there is there. -/
def Keep (w w' : World) : Prop := w.heap.size ≤ w'.heap.size ∧ ∀ g, g < w.heap.size → ∀ o x, w.cell? ⟨g, o, none⟩ = some x → w'.cell? ⟨g, o, none⟩ = some x
theorem Keep.of_below {w w' : World} (hb : Below w.heap.size w w') : Keep w w' := ⟨hb.size, fun g hg o _ hc => (hb.cell (p := ⟨g, o, none⟩) hg).trans hc⟩
/-- Block bm is a map that has the choices of the kinds of S. -/
def MapS (S : Nat → Prop) (w : World) (bm : Nat) : Prop := ∃ es clock, w.heap[bm]? = some (.map es clock) ∧ (∀ e ∈ es.toList, ∃ k : Nat, e.key = .int .u8 (k : Int) ∧ S k ∧ EntV w k e.val) ∧ ∀ k, S k → ∃ e ∈ es.toList, e.key = .int .u8 (k : Int)
theorem MapS.lt {S : Nat → Prop} {w : World} {bm : Nat} (h : MapS S w bm) : bm < w.heap.size := by
  obtain ⟨es, clock, hb, _⟩ := h
  exact (Array.getElem?_eq_some_iff.1 hb).1
theorem MapS.keep {S : Nat → Prop} {w w' : World} {bm : Nat} (h : MapS S w bm) (hb : w'.heap[bm]? = w.heap[bm]?) (hk : Keep w w') : MapS S w' bm := by
  obtain ⟨es, clock, hm, hs, he⟩ := h
  exact ⟨es, clock, hb.trans hm, fun e h => by
    obtain ⟨k, h1, h2, h3⟩ := hs e h
    exact ⟨k, h1, h2, h3.keep hk.1 hk.2⟩, he⟩
theorem MapS.call {S : Nat → Prop} {w w' : World} {bm : Nat} (h : MapS S w bm) (hb : Below w.heap.size w w') : MapS S w' bm := h.keep (hb.block bm h.lt) (Keep.of_below hb)
theorem MapS.same {S S' : Nat → Prop} {w : World} {bm : Nat} (h : MapS S w bm) (hs : ∀ k, S k ↔ S' k) : MapS S' w bm := by
  obtain ⟨es, clock, hm, h1, h2⟩ := h
  exact ⟨es, clock, hm, fun e he => by
    obtain ⟨k, a, b, c⟩ := h1 e he
    exact ⟨k, a, (hs k).1 b, c⟩, fun k hk => h2 k ((hs k).2 hk)⟩
theorem mapS_new (w : World) : MapS (fun _ => False) (w.alloc (.map #[] 0)) w.heap.size :=
  ⟨#[], 0, heap_alloc_new w _, fun e h => by simp at h, fun _ h => h.elim⟩

/-- One kind more is laid into the map. -/
theorem run_insert {S : Nat → Prop} {k : Nat} {w : World} {bm : Nat} {v : Value} (h : MapS S w bm) (hk : ¬ S k) (hv : EntV w k v) : ∃ w', (Instr.mapUpdate 58 (.map (some bm)) (.int .u8 (k : Int)) v).run Tryd.prog w = .ok () w' ∧ MapS (fun j => j = k ∨ S j) w' bm ∧ w.grownBy w' (some bm) ∧ Keep w w' := by
  obtain ⟨es, clock, hm, he, hS⟩ := h
  have hks : ∀ x ∈ es.toList, IsKey (.int .u8) x.key := fun x hx => by
    obtain ⟨j, e, _⟩ := he x hx
    rw [e]; rfl
  have hf : (Instr.findKey 5 (.int .u8 (k : Int)) es.toList).run Tryd.prog w = .ok none w := by
    rcases findNow_spec (d := .int .u8) (k := .int .u8 (k : Int)) rfl es.toList 0 hks with ⟨h1, _⟩ | ⟨j, e, _, h2, h3⟩
    · exact run_findKey Tryd.underlying5 h1
    · obtain ⟨j', e', hj, _⟩ := he e (List.mem_of_getElem? h2)
      rw [e'] at h3
      injection h3 with _ h3
      have : j' = k := by omega
      exact absurd (this ▸ hj) hk
  have hck : (Instr.checkKey false 10000 5 (.int .u8 (k : Int))).run Tryd.prog w = .ok () w := run_checkKey (d := .int .u8) Tryd.underlying5 (by exact rfl) false 9999
  have hset := heap_set (o' := .map (es.push { key := .int .u8 (k : Int), val := v, born := clock }) (clock + 1)) hm
  have hkc : Keep w { w with heap := w.heap.setIfInBounds bm (.map (es.push { key := .int .u8 (k : Int), val := v, born := clock }) (clock + 1)) } := ⟨by simp, fun g hg o x hc => by
    by_cases e : g = bm
    · subst e
      simp [World.cell?, hm] at hc
    · rw [World.cell?_of_block (hset.2 g e)]; exact hc⟩
  refine ⟨{ w with heap := w.heap.setIfInBounds bm (.map (es.push { key := .int .u8 (k : Int), val := v, born := clock }) (clock + 1)) }, ?_, ⟨_, _, hset.1, ?_, ?_⟩, ⟨rfl, rfl, rfl, by simp, fun i _ hi => hset.2 i fun e => hi (by rw [e])⟩, hkc⟩
  · simp only [Instr.mapUpdate, Sem.run_bind, run_underlying Tryd.underlying58, Result.andThen, MapKept.run_getObj_map hm, hck, hf, run_setObj_map _ hm]
  · intro e hx
    rw [Array.toList_push, List.mem_append] at hx
    rcases hx with hx | hx
    · obtain ⟨j, h1, h2, h3⟩ := he e hx
      exact ⟨j, h1, .inr h2, h3.keep hkc.1 hkc.2⟩
    · rw [List.mem_singleton.1 hx]
      exact ⟨k, rfl, .inl rfl, hv.keep hkc.1 hkc.2⟩
  · intro j hj
    rw [Array.toList_push]
    rcases hj with rfl | hj
    · exact ⟨_, List.mem_append.2 (.inr (List.mem_singleton.2 rfl)), rfl⟩
    · obtain ⟨e, h1, h2⟩ := hS j hj
      exact ⟨e, List.mem_append.2 (.inl h1), h2⟩

/-- Block bm is a map of all kinds' choices. -/
def CM (w : World) (bm : Nat) : Prop := MapS (fun k => 1 ≤ k ∧ k ≤ 24) w bm
theorem CM.call {w w' : World} {bm : Nat} (h : CM w bm) (hb : Below w.heap.size w w') : CM w' bm := MapS.call h hb
theorem CM.lt {w : World} {bm : Nat} (h : CM w bm) : bm < w.heap.size := MapS.lt h
/-- What the map answers at a kind. -/
theorem run_kind {w : World} {bm k : Nat} (h : CM w bm) (h1 : 1 ≤ k) (h2 : k ≤ 24) : ∃ v, (Instr.lookup 58 (.map (some bm)) (.int .u8 (k : Int)) false).run Tryd.prog w = .ok v w ∧ EntV w k v := by
  obtain ⟨es, clock, hm, he, hS⟩ := h
  have hck : (Instr.checkKey es.isEmpty 10000 5 (.int .u8 (k : Int))).run Tryd.prog w = .ok () w := run_checkKey (d := .int .u8) Tryd.underlying5 (by exact rfl) _ 9999
  have hks : ∀ x ∈ es.toList, IsKey (.int .u8) x.key := fun x hx => by
    obtain ⟨j, e, _⟩ := he x hx
    rw [e]; rfl
  rcases findNow_spec (d := .int .u8) (k := .int .u8 (k : Int)) rfl es.toList 0 hks with ⟨_, hno⟩ | ⟨j, e, hf, h2', h3⟩
  · obtain ⟨e, hx, hkey⟩ := hS k ⟨h1, h2⟩
    exact absurd hkey (hno e hx)
  · obtain ⟨j', hkey, _, hE⟩ := he e (List.mem_of_getElem? h2')
    rw [h3] at hkey
    injection hkey with _ hkey
    have hjk : k = j' := by omega
    rw [← hjk] at hE
    refine ⟨e.val, ?_, hE⟩
    have hfk := run_findKey (P := Tryd.prog) (w := w) Tryd.underlying5 hf
    simp only [Instr.lookup, Sem.run_bind, run_underlying Tryd.underlying58, Result.andThen, MapKept.run_getObj_map hm, hck, hfk, Sem.run_pure, Bool.false_eq_true, if_false]
end Go.Proofs.YtikjnbognjicdaaDoor.Enc

namespace Go.Proofs.YtikjnbognjicdaaDoor.Enc
set_option maxRecDepth 100000
open Go.RowKit Go.Proofs.YtikjnbognjicdaaDoor.Utf Go.Proofs.YtikjnbognjicdaaDoor.Val

def GivesB (p : Bool) (w : World) (e : Ending) (w' : World) : Prop := e = .returned (.bool p) ∧ Below w.heap.size w w'
section
variable (NA : Option Addr) (nl nc k n : Nat) (t : ByteArray) (VA : Option Addr) (vl vc code : Nat) (bb : Bool) (KA : Option Addr) (kl kc re im : Nat) (w : World)
theorem all_any : Calls Tryd.prog 40 #[.agg #[.slice NA nl nc, .int .u8 (k : Int), .int .u64 (n : Int), .string t, .slice VA vl vc, .int .u8 (code : Int), .bool bb, .slice KA kl kc, .complex .f64 (fb re) (fb im)]] w (GivesB true w) := by
  go_enter Tryd.func40, Tryd.ntmps40
  go_wp2
  go_ret
  exact ⟨rfl, (Below.refl _ _).alloc (Nat.le_refl _) _⟩
theorem none_any (h : im < 2 ^ 50) : Calls Tryd.prog 41 #[.agg #[.slice NA nl nc, .int .u8 (k : Int), .int .u64 (n : Int), .string t, .slice VA vl vc, .int .u8 (code : Int), .bool bb, .slice KA kl kc, .complex .f64 (fb re) (fb im)]] w (GivesB (decide (im = 0)) w) := by
  have hB : Below w.heap.size w (w.alloc (.cells #[.slice NA nl nc, .int .u8 (k : Int), .int .u64 (n : Int), .string t, .slice VA vl vc, .int .u8 (code : Int), .bool bb, .slice KA kl kc, .complex .f64 (fb re) (fb im)] 56)) := (Below.refl _ _).alloc (Nat.le_refl _) _
  have HC : ∀ wx : World, Calls Tryd.prog 42 #[.agg #[.slice NA nl nc, .int .u8 (k : Int), .int .u64 (n : Int), .string t, .slice VA vl vc, .int .u8 (code : Int), .bool bb, .slice KA kl kc, .complex .f64 (fb re) (fb im)]] wx (GivesI im wx) := fun wx => pcount_any NA nl nc k n t VA vl vc code bb KA kl kc re im wx h
  obtain ⟨b, hb⟩ : ∃ b, decide (im = 0) = b := ⟨_, rfl⟩
  have hd : ((im : Int) == 0) = b := by rw [← hb, Bool.eq_iff_iff]; simp
  rw [hb]
  clear hb h
  go_enter Tryd.func41, Tryd.ntmps41
  go_wp2_with (go_at_call 42; (with_reducible refine (HC _).mono ?_); rintro e w1 ⟨rfl, hb1⟩)
  go_ret
  exact ⟨rfl, below_next hB hb1⟩
theorem short_any : Calls Tryd.prog 43 #[.agg #[.slice NA nl nc, .int .u8 (k : Int), .int .u64 (n : Int), .string t, .slice VA vl vc, .int .u8 (code : Int), .bool bb, .slice KA kl kc, .complex .f64 (fb re) (fb im)]] w (GivesB (decide (t.size ≤ 255)) w) := by
  obtain ⟨b, hb⟩ : ∃ b, decide (t.size ≤ 255) = b := ⟨_, rfl⟩
  have hd : decide ((t.size : Int) ≤ 255) = b := by rw [← hb, Bool.eq_iff_iff]; simp; omega
  rw [hb]
  clear hb
  go_enter Tryd.func43, Tryd.ntmps43
  go_wp2
  go_ret
  exact ⟨rfl, (Below.refl _ _).alloc (Nat.le_refl _) _⟩
theorem small_any (h : re < 2 ^ 50) (h' : im < 2 ^ 50) : Calls Tryd.prog 44 #[.agg #[.slice NA nl nc, .int .u8 (k : Int), .int .u64 (n : Int), .string t, .slice VA vl vc, .int .u8 (code : Int), .bool bb, .slice KA kl kc, .complex .f64 (fb re) (fb im)]] w (GivesB (decide (1 + re ≤ 255) && decide (im ≤ 255)) w) := by
  have hB : Below w.heap.size w (w.alloc (.cells #[.slice NA nl nc, .int .u8 (k : Int), .int .u64 (n : Int), .string t, .slice VA vl vc, .int .u8 (code : Int), .bool bb, .slice KA kl kc, .complex .f64 (fb re) (fb im)] 56)) := (Below.refl _ _).alloc (Nat.le_refl _) _
  have hX := Bx.new w (.slice NA nl nc) (.int .u8 (k : Int)) (.int .u64 (n : Int)) (.string t) (.slice VA vl vc) (.int .u8 (code : Int)) (.bool bb) (.slice KA kl kc) (.complex .f64 (fb re) (fb im))
  have HC : ∀ wx : World, Calls Tryd.prog 42 #[.agg #[.slice NA nl nc, .int .u8 (k : Int), .int .u64 (n : Int), .string t, .slice VA vl vc, .int .u8 (code : Int), .bool bb, .slice KA kl kc, .complex .f64 (fb re) (fb im)]] wx (GivesI im wx) := fun wx => pcount_any NA nl nc k n t VA vl vc code bb KA kl kc re im wx h'
  have HS : ∀ wx : World, Calls Tryd.prog 45 #[.agg #[.slice NA nl nc, .int .u8 (k : Int), .int .u64 (n : Int), .string t, .slice VA vl vc, .int .u8 (code : Int), .bool bb, .slice KA kl kc, .complex .f64 (fb re) (fb im)], .int .i64 1] wx (GivesI (1 + re) wx) := fun wx => psize_any NA nl nc k n t VA vl vc code bb KA kl kc re im 1 wx (by omega) h
  obtain ⟨Z, hZ⟩ : ∃ Z, 1 + re = Z := ⟨_, rfl⟩
  simp only [hZ] at HS ⊢
  obtain ⟨b1, hb1⟩ : ∃ b, decide (Z ≤ 255) = b := ⟨_, rfl⟩
  have hd1 : decide ((Z : Int) ≤ 255) = b1 := by rw [← hb1, Bool.eq_iff_iff]; simp; omega
  obtain ⟨b2, hb2⟩ : ∃ b, decide (im ≤ 255) = b := ⟨_, rfl⟩
  have hd2 : decide ((im : Int) ≤ 255) = b2 := by rw [← hb2, Bool.eq_iff_iff]; simp; omega
  rw [hb1, hb2]
  clear hb1 hb2 h h' hZ
  have HX := Lib.hid hX
  clear hX
  cases b1
  · go_enter Tryd.func44, Tryd.ntmps44
    go_wp2_with (go_at_call 45; (with_reducible refine (HS _).mono ?_); rintro e w1 ⟨rfl, hb1⟩; obtain ⟨c0, c1, c2', c3, c4, c5, c6, c7, c8, cf⟩ := (HX.out.call hb1).all; have hB1 := below_next hB hb1)
    go_ret
    exact ⟨rfl, hB1⟩
  · go_enter Tryd.func44, Tryd.ntmps44
    go_wp2_with (first
      | (go_at_call 45; (with_reducible refine (HS _).mono ?_); rintro e w1 ⟨rfl, hb1⟩; obtain ⟨c0, c1, c2', c3, c4, c5, c6, c7, c8, cf⟩ := (HX.out.call hb1).all; have hB1 := below_next hB hb1)
      | (go_at_call 42; (with_reducible refine (HC _).mono ?_); rintro e w2 ⟨rfl, hb2⟩; have hB2 := below_next hB1 hb2))
    go_ret
    exact ⟨rfl, hB2⟩
theorem near_any : Calls Tryd.prog 46 #[.agg #[.slice NA nl nc, .int .u8 (k : Int), .int .u64 (n : Int), .string t, .slice VA vl vc, .int .u8 (code : Int), .bool bb, .slice KA kl kc, .complex .f64 (fb re) (fb im)]] w (GivesB (decide (n = sg1 n)) w) := by
  have HS : ∀ wx : World, Calls Tryd.prog 47 #[.int .u64 (n : Int), .int .i64 1] wx fun e w' => e = .returned (.int .u64 (sg1 n : Nat)) ∧ w' = wx := fun wx => sgn_any n wx
  obtain ⟨S, hS⟩ : ∃ S, sg1 n = S := ⟨_, rfl⟩
  simp only [hS] at HS ⊢
  obtain ⟨b, hb⟩ : ∃ b, decide (n = S) = b := ⟨_, rfl⟩
  have hd : ((n : Int) == (S : Int)) = b := by rw [← hb, Bool.eq_iff_iff]; simp; omega
  rw [hb]
  clear hb hS
  go_enter Tryd.func46, Tryd.ntmps46
  go_wp2_with fail
  go_quiet ((go_at_call 47; refine Calls.quiet_of_same (HS _)))
  go_wp2
  go_ret
  exact ⟨rfl, below_drewN ((Below.refl _ _).alloc (Nat.le_refl _) _) _⟩
theorem just_said (m g : Nat) (hc : w.cell? ⟨g, 0, none⟩ = some (.int .u64 (m : Int))) (hg : g < w.heap.size) : Calls Tryd.prog 49 #[.agg #[.slice NA nl nc, .int .u8 (k : Int), .int .u64 (n : Int), .string t, .slice VA vl vc, .int .u8 (code : Int), .bool bb, .slice KA kl kc, .complex .f64 (fb re) (fb im)], .pointer (some ⟨g, 0, none⟩)] w (GivesB (decide (n = m)) w) := by
  obtain ⟨b, hb⟩ : ∃ b, decide (n = m) = b := ⟨_, rfl⟩
  have hd : ((n : Int) == (m : Int)) = b := by rw [← hb, Bool.eq_iff_iff]; simp; omega
  have hc' : (w.alloc (.cells #[.slice NA nl nc, .int .u8 (k : Int), .int .u64 (n : Int), .string t, .slice VA vl vc, .int .u8 (code : Int), .bool bb, .slice KA kl kc, .complex .f64 (fb re) (fb im)] 56)).cell? ⟨g, 0, none⟩ = some (.int .u64 (m : Int)) := (((Below.refl w.heap.size w).alloc (Nat.le_refl _) _).cell (p := ⟨g, 0, none⟩) hg).trans hc
  rw [hb]
  clear hb
  go_enter Tryd.func49, Tryd.ntmps49
  go_wp2
  go_ret
  exact ⟨rfl, (Below.refl _ _).alloc (Nat.le_refl _) _⟩
theorem upto_said (m g : Nat) (hc : w.cell? ⟨g, 0, none⟩ = some (.int .u64 (m : Int))) (hg : g < w.heap.size) : Calls Tryd.prog 51 #[.agg #[.slice NA nl nc, .int .u8 (k : Int), .int .u64 (n : Int), .string t, .slice VA vl vc, .int .u8 (code : Int), .bool bb, .slice KA kl kc, .complex .f64 (fb re) (fb im)], .pointer (some ⟨g, 0, none⟩)] w (GivesB (decide (n ≤ m)) w) := by
  have hc' : (w.alloc (.cells #[.slice NA nl nc, .int .u8 (k : Int), .int .u64 (n : Int), .string t, .slice VA vl vc, .int .u8 (code : Int), .bool bb, .slice KA kl kc, .complex .f64 (fb re) (fb im)] 56)).cell? ⟨g, 0, none⟩ = some (.int .u64 (m : Int)) := (((Below.refl w.heap.size w).alloc (Nat.le_refl _) _).cell (p := ⟨g, 0, none⟩) hg).trans hc
  go_enter Tryd.func51, Tryd.ntmps51
  go_wp2
  go_ret
  exact ⟨rfl, (Below.refl _ _).alloc (Nat.le_refl _) _⟩
end
end Go.Proofs.YtikjnbognjicdaaDoor.Enc
