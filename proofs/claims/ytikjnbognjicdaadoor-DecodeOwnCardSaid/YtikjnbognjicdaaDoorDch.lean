/-
  Contract of the reader's head: a constructor. Condition: at most 2^40 bytes are left.
-/
import Derived.Test.YtikjnbognjicdaaDoorDcd
import Derived.Test.YtikjnbognjicdaaDoorFoldx
namespace Go.Proofs.YtikjnbognjicdaaDoor.Dec
set_option maxRecDepth 100000
open Go.RowKit Go.Proofs.YtikjnbognjicdaaDoor.Utf Go.Proofs.YtikjnbognjicdaaDoor.Val V

theorem Rdr.keep {w w' : World} {rb ib B n c sh it : Nat} {A : Option Addr} {L : List Nat} (h : Rdr w rb ib B A n c L sh it) (hk : ∀ i, (i = rb ∨ i = ib ∨ i < B) → w'.heap[i]? = w.heap[i]?) (hs : w.heap.size ≤ w'.heap.size) : Rdr w' rb ib B A n c L sh it := by
  have c1 : ∀ j, w'.cell? ⟨rb, j, none⟩ = w.cell? ⟨rb, j, none⟩ := fun j => World.cell?_of_block (w := w) (hk rb (.inl rfl))
  have c2 : ∀ j, w'.cell? ⟨ib, j, none⟩ = w.cell? ⟨ib, j, none⟩ := fun j => World.cell?_of_block (w := w) (hk ib (.inr (.inl rfl)))
  exact ⟨(c1 0).trans h.left, (c1 1).trans h.short, (c1 2).trans h.ptr, (c2 0).trans h.item, fun j => (World.frozen?_of_block (w := w) (hk rb (.inl rfl))).trans (h.fr j), fun j => (World.frozen?_of_block (w := w) (hk ib (.inr (.inl rfl)))).trans (h.fi j),
    h.rd.keep fun p hp => World.cell?_of_block (w := w) (hk p.block (.inr (.inr hp))), h.cap, h.lim, h.hr, h.hi, h.ne, Nat.lt_of_lt_of_le h.lr hs, Nat.lt_of_lt_of_le h.li hs⟩
theorem Rdr.grown {w w' : World} {rb ib B n c sh it : Nat} {A : Option Addr} {L : List Nat} {r : Option Nat} (h : Rdr w rb ib B A n c L sh it) (hg : w.grownBy w' r) (hr : ∀ k, r = some k → rb < k ∧ ib < k) : Rdr w' rb ib B A n c L sh it :=
  h.keep (fun i hi => hg.block i (by rcases hi with rfl | rfl | hi; exact h.lr; exact h.li; exact Nat.lt_of_lt_of_le hi h.low) (fun e => by
    have := hr i e.symm
    have h1 := h.hr
    have h2 := h.hi
    rcases hi with rfl | rfl | hi <;> omega)) hg.size
theorem Up.grown {a b : Nat} {w w1 w' : World} {r : Option Nat} (h : Up a b w w1) (hg : w1.grownBy w' r) (hr : ∀ k, r = some k → w.heap.size ≤ k) : Up a b w w' :=
  ⟨hg.os.trans h.os, hg.tape.trans h.tape, hg.output.trans h.output, Nat.le_trans h.size hg.size, fun i hi ha hb => (hg.block i (Nat.lt_of_lt_of_le hi h.size) (fun e => by have := hr i e.symm; omega)).trans (h.block i hi ha hb)⟩
theorem Up.far {a b g : Nat} {w w1 : World} (h : Up a b w w1) (hg : w.heap.size ≤ g) (j : Nat) (u : Value) : Up a b w (w1.setCell ⟨g, j, none⟩ u) :=
  ⟨h.os, h.tape, h.output, by simpa using h.size, fun i hi ha hb => (Below.heap_setCell w1 ⟨g, j, none⟩ u i (by simp; omega)).trans (h.block i hi ha hb)⟩
theorem own_same {w w' : World} {base : Nat} {e : TypeId} {size n : Nat} {v : Value} {xs : List Value} (h : w.ownsRow base e size v n xs) (hk : ∀ g, v.ownBlock = some g → w'.heap[g]? = w.heap[g]?) : w'.ownsRow base e size v n xs := by
  refine ⟨h.1, ?_⟩
  rcases h.2 with hn | ⟨g, cap, cur, hv, hg, hb, hrest⟩
  · exact .inl hn
  · exact .inr ⟨g, cap, cur, hv, hg, (hk g (by rw [hv]; rfl)).trans hb, hrest⟩
theorem _root_.Go.Proofs.YtikjnbognjicdaaDoor.Val.CS.keep {B : Nat} {wr w' : World} {A : Option Addr} {n c : Nat} {done : List V} {xs : List Value} (h : CS B wr A n c done xs) (hk : ∀ i, B ≤ i → i < wr.heap.size → w'.heap[i]? = wr.heap[i]?) (hs : wr.heap.size ≤ w'.heap.size) : CS B w' A n c done xs :=
  ⟨own_same h.own (fun g hg => hk g (h.own.lt g hg).1 (h.own.lt g hg).2), (h.cells.keep fun _ hi => hk _ hi.1 hi.2.1).mono fun _ hi => ⟨hi.1, Nat.lt_of_lt_of_le hi.2.1 hs, hi.2.2⟩⟩
theorem _root_.Go.Proofs.YtikjnbognjicdaaDoor.Val.CS.up {B a b : Nat} {wr w' : World} {A : Option Addr} {n c : Nat} {done : List V} {xs : List Value} (h : CS B wr A n c done xs) (hu : Up a b wr w') (ha : a < B) (hb : b < B) : CS B w' A n c done xs :=
  h.keep (fun i h1 h2 => hu.block i h2 (by omega) (by omega)) hu.size
theorem _root_.Go.Proofs.YtikjnbognjicdaaDoor.Val.CS.far {B g j : Nat} {wr : World} {A : Option Addr} {n c : Nat} {done : List V} {xs : List Value} (h : CS B wr A n c done xs) (hg : g < B) (u : Value) : CS B (wr.setCell ⟨g, j, none⟩ u) A n c done xs :=
  h.keep (fun i h1 _ => Below.heap_setCell wr ⟨g, j, none⟩ u i (by simp; omega)) (by simp)

/-- A constructor's variable. -/
def HBox (w : World) (g : Nat) (x0 x1 : Value) : Prop := w.heap[g]? = some (.cells #[x0, x1] 92 (0, 0))
section
variable {w w' : World} {g : Nat} {x0 x1 : Value}
theorem HBox.lt (h : HBox w g x0 x1) : g < w.heap.size := (Array.getElem?_eq_some_iff.1 h).1
theorem HBox.keep (h : HBox w g x0 x1) (e : w'.heap[g]? = w.heap[g]?) : HBox w' g x0 x1 := e.trans h
theorem HBox.all (h : HBox w g x0 x1) : w.cell? ⟨g, 0, none⟩ = some x0 ∧ w.cell? ⟨g, 1, none⟩ = some x1 ∧ ∀ j, w.frozen? ⟨g, j, none⟩ = false := by
  unfold HBox at h
  refine ⟨?_, ?_, fun j => ?_⟩
  · simp [World.cell?, h]
  · simp [World.cell?, h]
  · simp [World.frozen?, h]
theorem HBox.set0 (h : HBox w g x0 x1) (u : Value) : HBox (w.setCell ⟨g, 0, none⟩ u) g u x1 := by
  unfold HBox at h ⊢
  simp [World.setCell, Array.getElem?_modify, h]
theorem HBox.set1 (h : HBox w g x0 x1) (u : Value) : HBox (w.setCell ⟨g, 1, none⟩ u) g x0 u := by
  unfold HBox at h ⊢
  simp [World.setCell, Array.getElem?_modify, h]
end

/-- What stands ahead is put ahead. -/
def pre (all : List V) : Except Bool (List V × Nat × List Nat) → Except Bool (List V × Nat × List Nat)
  | .error s => .error s
  | .ok (ns, k, r) => .ok (all ++ ns, k, r)
/-- A constructor is read, or it is wrong. -/
def HeadR (rb ib B sh it : Nat) (R : Except Bool (List V × Nat × List Nat)) (w : World) (e : Ending) (w' : World) : Prop :=
  match R with
  | .error s => Fails (sel s sh) rb ib w e w'
  | .ok (ns, k, r) => ∃ An nn cn A2 n2 c2, e = .returned (.agg #[.slice An nn cn, .int .u8 (k : Int)]) ∧ Nw w.heap.size w' (ns.take 16) An nn cn ∧ Rdr w' rb ib B A2 n2 c2 r sh it ∧ Up rb ib w w'

structure HS (rb ib B sh it S : Nat) (w wr : World) (all : List V) (L : List Nat) (An : Option Addr) (nn cn code : Nat) (xs : List Value) : Prop where
  box : HBox wr (S + 1) (.slice An nn cn) (.int .u8 (code : Int))
  box2 : HBox wr S (.slice none 0 0) (.int .u8 0)
  row : CS (S + 2) wr An nn cn (all.take 16) xs
  rdr : ∃ A n c, Rdr wr rb ib B A n c L sh it
  up : Up rb ib w wr
  sz : S = w.heap.size
  low : rb < S ∧ ib < S

theorem take_more (all : List V) (v : V) : (all ++ [v]).take 16 = if (all.take 16).length < 16 then all.take 16 ++ [v] else all.take 16 := by
  rw [List.take_append, List.length_take]
  by_cases h : all.length < 16
  · rw [if_pos (by omega)]
    congr 1
    rw [List.take_of_length_le]
    simp; omega
  · have e : 16 - all.length = 0 := by omega
    rw [if_neg (by omega), e]
    simp

theorem pre_nil (R : Except Bool (List V × Nat × List Nat)) : pre [] R = R := by
  cases R with
  | error s => rfl
  | ok p => obtain ⟨a, b, c⟩ := p; rfl
theorem pre_snoc (all : List V) (v : V) (R : Except Bool (List V × Nat × List Nat)) : pre (all ++ [v]) R = pre all (match R with | .error s => .error s | .ok (ns, k, r) => .ok (v :: ns, k, r)) := by
  cases R with
  | error s => rfl
  | ok p => obtain ⟨a, b, c⟩ := p; simp [pre]

theorem sgw_lt (X k : Nat) (hX : X < 18446744073709551616) : sgw X k < 18446744073709551616 := by
  unfold sgw
  split
  · rename_i h
    obtain ⟨h1, h2⟩ := h
    have hp : (256 : Nat) ^ k ≤ 256 ^ 7 := Nat.pow_le_pow_right (by omega) h2
    have hq : 0 < (256 : Nat) ^ k := Nat.pow_pos (by omega)
    have hm := Nat.mod_lt X hq
    split <;> omega
  · exact hX
/-- A value without kids that memory can hold. -/
structure Fl (v : V) : Prop where
  kids : v.kids = []
  kind : v.kind < 256
  num : v.num < 18446744073709551616
theorem plain_fl (c : Nat) (d : List Nat) (hd : ∀ x ∈ d, x < 256) : Fl (plainV c d) := by
  have h1 := tn_lt d hd
  have h2 := sgw_lt (tn d) d.length h1
  have h3 := kof_le c
  refine ⟨plain_kids c d, ?_, ?_⟩
  · unfold plainV
    (repeat' split) <;> simp only [V.kind] <;> omega
  · unfold plainV
    (repeat' split) <;> simp only [V.num] <;> omega
theorem data_parts {c : Nat} {l d r : List Nat} (h : dataD c l = some (d, r)) : ∃ p, l = p ++ d ++ r := by
  unfold dataD at h
  by_cases h0 : sw c = 0
  · rw [if_pos h0] at h
    by_cases h1 : lg c ≤ l.length
    · rw [if_pos h1] at h
      injection h with h
      injection h with e1 e2
      subst e1 e2
      exact ⟨[], by simp⟩
    · rw [if_neg h1] at h; cases h
  · rw [if_neg h0] at h
    by_cases h1 : sw c ≤ l.length
    · rw [if_pos h1] at h
      by_cases h2 : tn (l.take (sw c)) ≤ (l.drop (sw c)).length
      · rw [if_pos h2] at h
        injection h with h
        injection h with e1 e2
        subst e1 e2
        exact ⟨l.take (sw c), by rw [List.append_assoc, List.take_append_drop, List.take_append_drop]⟩
      · rw [if_neg h2] at h; cases h
    · rw [if_neg h1] at h; cases h
theorem data_byte {c : Nat} {l d r : List Nat} (h : dataD c l = some (d, r)) (hl : ∀ x ∈ l, x < 256) : (∀ x ∈ d, x < 256) ∧ (∀ x ∈ r, x < 256) ∧ d.length + r.length ≤ l.length := by
  obtain ⟨p, e⟩ := data_parts h
  subst e
  exact ⟨fun x hx => hl x (by simp [hx]), fun x hx => hl x (by simp [hx]), by simp only [List.length_append]; omega⟩
theorem name_fl {l r : List Nat} {v : V} (h : nameD l = .ok (v, r)) (hl : ∀ x ∈ l, x < 256) : Fl v ∧ (∀ x ∈ r, x < 256) ∧ r.length < l.length := by
  cases l with
  | nil => cases h
  | cons c l =>
    simp only [nameD] at h
    split at h
    · cases hd : dataD c l with
      | none => rw [hd] at h; cases h
      | some q =>
        obtain ⟨d, q⟩ := q
        rw [hd] at h
        simp only [Except.ok.injEq, Prod.mk.injEq] at h
        obtain ⟨rfl, rfl⟩ := h
        obtain ⟨h1, h2, h3⟩ := data_byte hd fun x hx => hl x (by simp [hx])
        exact ⟨plain_fl c d h1, h2, by simp only [List.length_cons]; omega⟩
    · cases h

section
variable {w wr w1 w2 : World} {rb ib B sh it S nn cn code k : Nat} {all : List V} {l r : List Nat} {An : Option Addr} {xs : List Value}
theorem HS.bB (h : HS rb ib B sh it S w wr all l An nn cn code xs) : B ≤ S := by
  obtain ⟨A, n, c, hr⟩ := h.rdr
  have := hr.hr
  have := h.low
  omega
/-- Behind a code, a name and a place for it. -/
theorem HS.named (h : HS rb ib B sh it S w wr all l An nn cn code xs) (hu1 : Up rb ib wr w1) (hu2 : Up rb ib (w1.setCell ⟨S + 1, 1, none⟩ (.int .u8 (k : Int))) w2) (hR : ∃ A n c, Rdr w2 rb ib B A n c r sh it) (o : Obj) :
    HS rb ib B sh it S w (w2.alloc o) all r An nn cn k xs := by
  have hl := h.low
  have hs1 := hu1.size
  have hs2 := hu2.size
  have hsz := h.sz
  have hb1 := h.box.lt
  simp at hs2
  have e1 : (w2.alloc o).heap[S + 1]? = (w1.setCell ⟨S + 1, 1, none⟩ (.int .u8 (k : Int))).heap[S + 1]? := by
    rw [Below.heap_alloc _ _ _ (by omega)]
    exact hu2.block _ (by simp; omega) (by omega) (by omega)
  have e2 : (w2.alloc o).heap[S]? = wr.heap[S]? := by
    rw [Below.heap_alloc _ _ _ (by omega), hu2.block _ (by simp; omega) (by omega) (by omega), Below.heap_setCell _ _ _ _ (by simp)]
    exact hu1.block _ (by omega) (by omega) (by omega)
  refine ⟨((h.box.keep (hu1.block _ hb1 (by omega) (by omega))).set1 _).keep e1, h.box2.keep e2, ?_, ?_, ?_, hsz, hl⟩
  · exact (((h.row.up hu1 (by omega) (by omega)).far (by omega) _).up hu2 (by omega) (by omega)).call ((Below.refl _ _).alloc (Nat.le_refl _) o)
  · obtain ⟨A, n, c, hr⟩ := hR
    exact ⟨A, n, c, hr.call ((Below.refl _ _).alloc (Nat.le_refl _) o)⟩
  · exact (((h.up.trans hu1).far (by omega) _ _).trans hu2).call ((Below.refl _ _).alloc (Nat.le_refl _) o)
/-- One name too many. -/
theorem HS.skip (h : HS rb ib B sh it S w wr all l An nn cn code xs) (v : V) (hn : ¬ nn < 16) : HS rb ib B sh it S w wr (all ++ [v]) l An nn cn code xs :=
  ⟨h.box, h.box2, h.row.cast (by rw [take_more, if_neg (by rw [h.row.len]; exact hn)]), h.rdr, h.up, h.sz, h.low⟩
/-- One name more. -/
theorem HS.more (h : HS rb ib B sh it S w wr all l An nn cn code xs) {v : V} (hv : Fl v) (hn : nn < 16) {g cap : Nat} {w9 : World} (o : Obj)
    (hown : w9.ownsRow (S + 2) 25 4 (.slice (some ⟨g, 0, none⟩) (nn + 1) cap) (nn + 1) (xs ++ [.int .u8 (v.kind : Int), .int .u64 (v.num : Int), .string v.text, .slice none 0 0])) (hg : (wr.alloc o).grownBy w9 (Value.slice An nn cn).ownBlock) (hat : (Value.slice An nn cn).ownBlock = some g ∨ wr.heap.size ≤ g) :
    HS rb ib B sh it S w (w9.setCell ⟨S + 1, 0, none⟩ (.slice (some ⟨g, 0, none⟩) (nn + 1) cap)) (all ++ [v]) l (some ⟨g, 0, none⟩) (nn + 1) cap code (xs ++ [.int .u8 (v.kind : Int), .int .u64 (v.num : Int), .string v.text, .slice none 0 0]) := by
  obtain ⟨vk, vn, vt, vks⟩ := v
  obtain ⟨hk1, hk2, hk3⟩ := hv
  simp only [V.kids] at hk1
  subst hk1
  have hl := h.low
  have hsz := h.sz
  have hb1 := h.box.lt
  have hrow := h.row.own.lt
  have hold : ∀ i, i < S + 2 → w9.heap[i]? = wr.heap[i]? := fun i hi => by
    rw [hg.block i (by simp; omega) (fun e => by have := hrow i e.symm; omega)]
    exact Below.heap_alloc _ _ _ (by omega)
  have hs9 := hg.size
  simp at hs9
  have hB := h.bB
  have hp := h.row.push (k := vk) (m := vn) (t := vt) (ks := []) (A' := none) (l' := 0) (c' := 0) hk2 hk3 ⟨rfl, Nat.le_refl _, fun h => absurd h (by omega)⟩ o rfl hown hg hat
  refine ⟨(h.box.keep (hold _ (by omega))).set0 _, (h.box2.keep (hold _ (by omega))).keep (Below.heap_setCell _ _ _ _ (by simp)), ?_, ?_, ?_, hsz, hl⟩
  · refine (hp.far (by omega) _).cast ?_
    rw [take_more, if_pos (by rw [h.row.len]; exact hn)]
  · obtain ⟨A, n, c, hr⟩ := h.rdr
    refine ⟨A, n, c, (hr.keep (fun i hi => hold i (by have := hr.hr; rcases hi with rfl | rfl | hi <;> omega)) (by omega)).far (by omega) (by omega) (by omega) _⟩
  · exact ((h.up.call ((Below.refl _ _).alloc (Nat.le_refl _) o)).grown hg (fun i e => by have := hrow i e; omega)).far (by omega) _ _
end

set_option maxHeartbeats 2000000 in
theorem head_any {w : World} {rb ib B n c sh it : Nat} {A : Option Addr} {L : List Nat} (h : Rdr w rb ib B A n c L sh it) :
    Calls Tryd.prog 62 #[.pointer (some ⟨rb, 0, none⟩)] w (HeadR rb ib B sh it (headD L) w) := by
  unfold headD
  obtain ⟨W0, hW0⟩ : ∃ W0, W0 = (w.alloc (.cells #[.slice none 0 0, .int .u8 0] 92)).alloc (.cells #[.slice none 0 0, .int .u8 0] 92) := ⟨_, rfl⟩
  have hB0 : Below w.heap.size w W0 := by rw [hW0]; exact ((Below.refl _ _).alloc (Nat.le_refl _) _).alloc (by simp) _
  have hH : HS rb ib B sh it w.heap.size w W0 [] L none 0 0 0 [] :=
    ⟨by rw [hW0]; have := heap_alloc_new (w.alloc (.cells #[.slice none 0 0, .int .u8 0] 92)) (.cells #[.slice none 0 0, .int .u8 0] 92); simpa [HBox] using this,
      by rw [hW0]; exact (Below.heap_alloc _ _ _ (by simp)).trans (heap_alloc_new w _), CS.nil _ _, ⟨A, n, c, h.call hB0⟩, Up.of hB0, rfl, h.lr, h.li⟩
  have hR0 : headN (L.length + 1) L = pre [] (headN (L.length + 1) L) := (pre_nil _).symm
  obtain ⟨R, hR⟩ : ∃ R, headN (L.length + 1) L = R := ⟨_, rfl⟩
  rw [hR]
  rw [hR] at hR0
  have HR0 := Lib.hid hR0
  have HR := Lib.hid hR
  clear hR0 hR
  go_enter Tryd.func62, Tryd.ntmps62
  go_wp2
  rw [← hW0]
  have HW := Lib.hid hW0
  clear hW0
  go_loopg [4] (L.length + 1) (fun g s4 wr => ∃ all L' An nn cn code xs, L'.length < g ∧ HS rb ib B sh it w.heap.size w wr all L' An nn cn code xs ∧ R = pre all (headN g L'))
  case atStart => exact ⟨[], L, _, _, _, _, _, by omega, hH, by rw [HR0.out, HR.out]⟩
  case round =>
    obtain ⟨all, L', An, nn, cn, code, xs, hlt, hS, hRL⟩ := hrel
    obtain ⟨f, rfl⟩ : ∃ f, gk = f + 1 := ⟨gk - 1, by omega⟩
    obtain ⟨A1, n1, c1, hr1⟩ := hS.rdr
    obtain ⟨x0, x1, xf⟩ := hS.box.all
    have hrb := hS.low
    cases L' with
    | nil =>
      have hRe : R = .error true := by rw [hRL]; rfl
      subst hRe
      clear hRL
      go_wp2_with ((go_at_call 83; refine (take1_no hr1).mono ?_; rintro e w1 ⟨rfl, hu1⟩))
      exact ⟨rfl, rfl, hS.up.trans hu1⟩
    | cons k l =>
      have hl : l.length < f := by simpa using hlt
      have hbx : ∀ w1, Up rb ib wr w1 → HBox w1 (w.heap.size + 1) (.slice An nn cn) (.int .u8 (code : Int)) := fun w1 hu => hS.box.keep (hu.block _ hS.box.lt (by omega) (by omega))
      have hRs : ∀ w1 A2 n2 c2, Rdr w1 rb ib B A2 n2 c2 l sh it → Rdr (w1.setCell ⟨w.heap.size + 1, 1, none⟩ (.int .u8 (k : Int))) rb ib B A2 n2 c2 l sh it := fun w1 A2 n2 c2 hr => hr.far (by have := h.low; omega) (by omega) (by omega) _
      by_cases hk0 : k = 0
      · have d0 : ((k : Int) != 0) = false := by simp; omega
        have hRk : R = pre all (match nameD l with
          | .error s => .error s
          | .ok (v, r) => match headN f r with
            | .error s => .error s
            | .ok (ns, c', r') => .ok (v :: ns, c', r')) := by rw [hRL]; simp only [headN, if_pos hk0]; rfl
        clear hRL hk0
        cases hn : nameD l with
        | error s =>
          rw [hn] at hRk
          have hRe : R = .error s := hRk
          subst hRe
          clear hRk
          go_wp2_with (first
            | (go_at_call 83; refine (take1_ok hr1).mono ?_; rintro e w1 ⟨b1, o1, c1, A2, n2, c2, rfl, hc1, hx, h1c, hR1, hu1⟩; have hb1 := hbx w1 hu1; obtain ⟨y0, y1, yf⟩ := hb1.all; have hR1s := hRs _ _ _ _ hR1)
            | (go_at_call 84; refine (name_no hR1s hn).mono ?_; rintro e w2 ⟨rfl, hu2⟩))
          exact ⟨rfl, rfl, ((hS.up.trans hu1).far (by omega) _ _).trans hu2⟩
        | ok q =>
          obtain ⟨v, r⟩ := q
          rw [hn] at hRk
          obtain ⟨hfl, _, hrl⟩ := name_fl hn fun x hx => hr1.rd.lim x (by simp [hx])
          have HRK : Hid (R = pre (all ++ [v]) (headN f r)) := Lib.hid (by rw [pre_snoc]; exact hRk)
          have hnl := hS.row.own.lt
          have hncap := own_cap hS.row.own
          have hnn : nn ≤ 16 := by have := hS.row.len; rw [List.length_take] at this; omega
          have HHS := Lib.hid hS
          obtain ⟨i0, hi, hz0, hz1, hz2⟩ := info_parts infoV
          clear hRk hS
          by_cases hn16 : nn < 16
          · have d16 : ((nn : Int) < 16) := by omega
            go_wp2_with (first
              | (go_at_call 83; refine (take1_ok hr1).mono ?_; rintro e w1 ⟨b1, o1, c1, A2, n2, c2, rfl, hc1, hx, h1c, hR1, hu1⟩; have hb1 := hbx w1 hu1; obtain ⟨y0, y1, yf⟩ := hb1.all; have hR1s := hRs _ _ _ _ hR1)
              | (go_at_call 84; refine (name_ok hR1s hn).mono ?_; rintro e w2 ⟨A3, n3, c3, rfl, hR2, hu2⟩; have H3 := HHS.out.named hu1 hu2 ⟨A3, n3, c3, hR2⟩ (.cells #[.int .u8 (v.kind : Int), .int .u64 (v.num : Int), .string v.text, .slice none 0 0] 25); obtain ⟨z0, z1, zf⟩ := H3.box.all; have hvb := Box.new w2 (.int .u8 (v.kind : Int)) (.int .u64 (v.num : Int)) (.string v.text) (.slice none 0 0); obtain ⟨v0, v1, v2, v3, vf⟩ := hvb.all; have hs2 : w.heap.size + 1 < w2.heap.size + 1 := (by have := H3.box.lt; simpa using this))
              | (at_builtin; refine wpList_append_lies _ rfl _ _ 23 rfl (w.heap.size + 2) 25 i0 _ 4 56 Tryd.underlying23 hi hz0 hz1 hz2 rfl (by omega) _ _ _ rfl (H3.row.own.alloc _) ⟨w2.heap.size + 1, 0, none⟩ 1 1 [.int .u8 (v.kind : Int), .int .u64 (v.num : Int), .string v.text, .slice none 0 0] rfl rfl (news4 _ _ _ _ _ _ _ (by simp)) (fun u hu => (by simp at hu; rcases hu with rfl | rfl | rfl | rfl <;> rfl)) (by omega) (by unfold maxLen; omega) (by omega) (by simp; omega) _ rfl ?_; intro g9 cap9 w9 hown9 hgrow9 hat9 _; have hy9 := HBox.keep (w' := w9) H3.box ((hgrow9.block _ (by have := H3.box.lt; simp; omega) (fun e => by have := H3.row.own.lt _ e.symm; omega)).trans (Below.heap_alloc _ _ _ H3.box.lt)); obtain ⟨q0, q1, qf⟩ := hy9.all))
            go_roundg f
            case measure => omega
            case rel => exact ⟨all ++ [v], r, _, _, _, _, _, by omega, H3.more hfl hn16 _ hown9 hgrow9 (hat9.imp id fun h => by simp at h; simp; omega), HRK.out⟩
          · have d16 : ¬ ((nn : Int) < 16) := by omega
            go_wp2_with (first
              | (go_at_call 83; refine (take1_ok hr1).mono ?_; rintro e w1 ⟨b1, o1, c1, A2, n2, c2, rfl, hc1, hx, h1c, hR1, hu1⟩; have hb1 := hbx w1 hu1; obtain ⟨y0, y1, yf⟩ := hb1.all; have hR1s := hRs _ _ _ _ hR1)
              | (go_at_call 84; refine (name_ok hR1s hn).mono ?_; rintro e w2 ⟨A3, n3, c3, rfl, hR2, hu2⟩; have H3 := HHS.out.named hu1 hu2 ⟨A3, n3, c3, hR2⟩ (.cells #[.int .u8 (v.kind : Int), .int .u64 (v.num : Int), .string v.text, .slice none 0 0] 25); obtain ⟨z0, z1, zf⟩ := H3.box.all))
            go_roundg f
            case measure => omega
            case rel => exact ⟨all ++ [v], r, _, _, _, _, _, by omega, H3.skip v hn16, HRK.out⟩
      · have d0 : ((k : Int) != 0) = true := by simp; omega
        by_cases hk : kof k = 0
        · have hRe : R = .error false := by rw [hRL]; simp only [headN, if_neg hk0, if_pos hk]; rfl
          subst hRe
          have HK := Lib.hid hk
          clear hRL hk hk0
          go_wp2_with (first
            | (go_at_call 83; refine (take1_ok hr1).mono ?_; rintro e w1 ⟨b1, o1, c1, A2, n2, c2, rfl, hc1, hx, h1c, hR1, hu1⟩; have hb1 := hbx w1 hu1; obtain ⟨y0, y1, yf⟩ := hb1.all)
            | (go_at_call 85; refine (kind_any k _).mono ?_; rintro e w' ⟨rfl, rfl⟩; rw [HK.out]))
          exact ⟨rfl, rfl, (hS.up.trans hu1).far (by omega) _ _⟩
        · have hRe : R = .ok (all, k, l) := by rw [hRL]; simp only [headN, if_neg hk0, if_neg hk, pre, List.append_nil]
          subst hRe
          have dk : ((kof k : Int) == 0) = false := by simp; omega
          clear hRL hk hk0
          go_wp2_with (first
            | (go_at_call 83; refine (take1_ok hr1).mono ?_; rintro e w1 ⟨b1, o1, c1, A2, n2, c2, rfl, hc1, hx, h1c, hR1, hu1⟩; have hb1 := hbx w1 hu1; obtain ⟨y0, y1, yf⟩ := hb1.all; have hb2 : HBox w1 w.heap.size (.slice none 0 0) (.int .u8 0) := hS.box2.keep (hu1.block _ hS.box2.lt (by omega) (by omega)); obtain ⟨z0, z1, zf⟩ := hb2.all)
            | (go_at_call 85; refine (kind_any k _).mono ?_; rintro e w' ⟨rfl, rfl⟩))
          refine bodyPost_ret (v := .agg #[.slice An nn cn, .int .u8 (k : Int)]) (by simp [results, Tryd.results62, go_sem, z0, z1]) rfl ?_
          have hBS := hS.bB
          have hss := hS.sz
          exact ⟨An, nn, cn, A2, n2, c2, rfl, ((((hS.row.up hu1 (by omega) (by omega)).far (by omega) _).far (by omega) _).far (by omega) _).nw.less (by omega), ((hR1.far (by omega) (by omega) (by omega) _).far (by omega) (by omega) (by omega) _).far (by omega) (by omega) (by omega) _, (((hS.up.trans hu1).far (by omega) _ _).far (by omega) _ _).far (by omega) _ _⟩
end Go.Proofs.YtikjnbognjicdaaDoor.Dec
