/-
  Where a text may be cut: a text's first byte is none that goes on, all others of a character do. Uniform contracts of Chars, Text and Right. No condition but the table's and at most 2^40 bytes.
-/
import Derived.Test.YthplkkpcpkdbiaaDoorRow
import Derived.Test.YthplkkpcpkdbiaaDoorEq
namespace Go.Proofs.YthplkkpcpkdbiaaDoor.Utf
open Go.RowKit

theorem en_shape {c : Nat} (h : isC c = true) : ∃ x r, en c = x :: r ∧ cont x = false ∧ ∀ y ∈ r, cont y = true := by
  have hl := isC_lt h
  by_cases h1 : c < 128
  · exact ⟨c, [], by unfold en; rw [if_pos h1], by simp [cont] <;> omega, fun _ h => by cases h⟩
  by_cases h2 : c < 2048
  · exact ⟨_, _, by unfold en; rw [if_neg h1, if_pos h2], by simp [cont] <;> omega, fun y hy => by simp at hy; simp [cont] <;> omega⟩
  by_cases h3 : c < 65536
  · exact ⟨_, _, by unfold en; rw [if_neg h1, if_neg h2, if_pos h3], by simp [cont] <;> omega, fun y hy => by simp at hy; simp [cont] <;> omega⟩
  · exact ⟨_, _, by unfold en; rw [if_neg h1, if_neg h2, if_neg h3], by simp [cont] <;> omega, fun y hy => by simp at hy; simp [cont] <;> omega⟩

def Fresh (b : List Nat) : Prop := ∀ x, b.head? = some x → cont x = false

theorem txt_fresh {m : List Nat} (h : AllC m) : Fresh (txt m) := by
  cases m with
  | nil => intro x hx; simp [txt_nil] at hx
  | cons c m =>
    obtain ⟨x, r, e, hx, _⟩ := en_shape (h c (by simp))
    intro y hy
    rw [txt_cons, e] at hy
    simp at hy
    rw [← hy]
    exact hx

theorem cut_fresh : ∀ {l a b : List Nat}, AllC l → txt l = a ++ b → Fresh b → ∃ d m, l = d ++ m ∧ a = txt d ∧ b = txt m
  | [], a, b, _, h, _ => by
    rw [txt_nil] at h
    obtain ⟨rfl, rfl⟩ := List.append_eq_nil_iff.1 h.symm
    exact ⟨[], [], rfl, rfl, rfl⟩
  | c :: l, a, b, hl, h, hf => by
    rw [txt_cons] at h
    rcases List.append_eq_append_iff.1 h with ⟨a', rfl, h2⟩ | ⟨c', h1, h2⟩
    · obtain ⟨d, m, rfl, rfl, rfl⟩ := cut_fresh (fun x hx => hl x (by simp [hx])) h2 hf
      exact ⟨c :: d, m, rfl, by rw [txt_cons], rfl⟩
    · obtain ⟨x, r, e, _, hr⟩ := en_shape (hl c (by simp))
      cases a with
      | nil => exact ⟨[], c :: l, rfl, rfl, by rw [h2, txt_cons, h1]; rfl⟩
      | cons y a =>
        cases c' with
        | nil =>
          rw [List.append_nil] at h1
          exact ⟨[c], l, rfl, by rw [txt_cons, txt_nil, List.append_nil, h1], by simpa using h2⟩
        | cons z c' =>
          rw [h1] at e
          simp only [List.cons_append, List.cons.injEq] at e
          have hz := hr z (by rw [← e.2]; simp)
          have := hf z (by rw [h2]; rfl)
          rw [hz] at this
          cases this

/-- Texts one behind the other. -/
theorem join_yes {a b ca cb : List Nat} (ha : IsT a ca) (hb : IsT b cb) : IsT (a ++ b) (ca ++ cb) :=
  ⟨ha.1.append hb.1, by rw [txt_append, ← ha.2, ← hb.2]⟩
theorem join_left {a b cb : List Nat} (hb : IsT b cb) (ha : NoT a) : NoT (a ++ b) := fun cs h => by
  obtain ⟨d, m, e, e1, _⟩ := cut_fresh h.1 h.2.symm (by rw [hb.2]; exact txt_fresh hb.1)
  exact ha d ⟨(e ▸ h.1 : AllC (d ++ m)).left, e1⟩
theorem join_right {a b ca : List Nat} (ha : IsT a ca) (hb : NoT b) : NoT (a ++ b) := fun cs h => by
  have h2 := h.2
  rw [ha.2] at h2
  obtain ⟨m, e, e1⟩ := txt_cut ha.1 h.1 h2
  exact hb m ⟨(e ▸ h.1 : AllC (ca ++ m)).right, e1⟩
theorem isT_inj {b l m : List Nat} (hl : IsT b l) (hm : IsT b m) : l = m := txt_inj hl.1 hm.1 (hl.2.symm.trans hm.2)

def IsOr (l cs : List Nat) (p : Bool) : Prop := (p = true ∧ IsT l cs) ∨ (p = false ∧ NoT l ∧ cs = [])

theorem IsOr.len {l cs : List Nat} {p : Bool} (h : IsOr l cs p) : cs.length ≤ l.length := by
  rcases h with ⟨_, h⟩ | ⟨_, _, rfl⟩
  · rw [h.2]; exact (txt_len cs).1
  · simp

theorem chars_uni (A : Option Addr) (n c : Nat) (l : List Nat) (w : World) (ht : Tab w) (hr : Rd .u8 256 w w.heap.size A n l) (hnc : n ≤ c) (hn : n ≤ 1099511627776) :
    Calls Tryd.prog 12 #[.slice A n c] w fun e w' => ∃ cs A1 n1 c1 p, e = .returned (.tuple #[.slice A1 n1 c1, .bool p]) ∧ Own .u32 4294967296 36 w' w.heap.size A1 n1 c1 cs ∧ IsOr l cs p ∧ Below w.heap.size w w' := by
  refine (chars_any A n c l w ht hr hnc hn).mono ?_
  rintro e w' ⟨⟨cs, A1, n1, c1, hT, rfl, ho⟩ | ⟨hN, rfl⟩, hb⟩
  · exact ⟨cs, A1, n1, c1, true, rfl, ho, .inl ⟨rfl, hT⟩, hb⟩
  · exact ⟨[], none, 0, 0, false, rfl, Own.nil _ _ _ _ _, .inr ⟨rfl, hN, rfl⟩, hb⟩

def right (l : List Nat) (p : Bool) : Prop := (p = true ∧ ∃ cs, IsT l cs) ∨ (p = false ∧ NoT l)
theorem right.yes {l cs : List Nat} {p : Bool} (h : right l p) (hT : IsT l cs) : p = true := by
  rcases h with ⟨h, _⟩ | ⟨_, h⟩
  · exact h
  · exact absurd hT (h cs)
theorem right.no {l : List Nat} {p : Bool} (h : right l p) (hT : NoT l) : p = false := by
  rcases h with ⟨_, cs, h⟩ | ⟨h, _⟩
  · exact absurd h (hT cs)
  · exact h

theorem right_uni (A : Option Addr) (n c : Nat) (l : List Nat) (w : World) (ht : Tab w) (hr : Rd .u8 256 w w.heap.size A n l) (hnc : n ≤ c) (hn : n ≤ 1099511627776) :
    Calls Tryd.prog 15 #[.slice A n c] w fun e w' => ∃ p, e = .returned (.bool p) ∧ right l p ∧ Below w.heap.size w w' := by
  refine (right_any A n c l w ht hr hnc hn).mono ?_
  rintro e w' ⟨⟨hT, rfl⟩ | ⟨hN, rfl⟩, hb⟩
  · exact ⟨true, rfl, .inl ⟨rfl, hT⟩, hb⟩
  · exact ⟨false, rfl, .inr ⟨rfl, hN⟩, hb⟩
theorem right_true (A : Option Addr) (n c : Nat) (l cs : List Nat) (w : World) (ht : Tab w) (hr : Rd .u8 256 w w.heap.size A n l) (hnc : n ≤ c) (hn : n ≤ 1099511627776) (hT : IsT l cs) :
    Calls Tryd.prog 15 #[.slice A n c] w fun e w' => e = .returned (.bool true) ∧ Below w.heap.size w w' := by
  refine (right_uni A n c l w ht hr hnc hn).mono ?_
  rintro e w' ⟨p, rfl, h, hb⟩
  rw [h.yes hT]
  exact ⟨rfl, hb⟩
theorem right_false (A : Option Addr) (n c : Nat) (l : List Nat) (w : World) (ht : Tab w) (hr : Rd .u8 256 w w.heap.size A n l) (hnc : n ≤ c) (hn : n ≤ 1099511627776) (hT : NoT l) :
    Calls Tryd.prog 15 #[.slice A n c] w fun e w' => e = .returned (.bool false) ∧ Below w.heap.size w w' := by
  refine (right_uni A n c l w ht hr hnc hn).mono ?_
  rintro e w' ⟨p, rfl, h, hb⟩
  rw [h.no hT]
  exact ⟨rfl, hb⟩
theorem chars_true (A : Option Addr) (n c : Nat) (l cs : List Nat) (w : World) (ht : Tab w) (hr : Rd .u8 256 w w.heap.size A n l) (hnc : n ≤ c) (hn : n ≤ 1099511627776) (hT : IsT l cs) :
    Calls Tryd.prog 12 #[.slice A n c] w fun e w' => ∃ A1 c1, e = .returned (.tuple #[.slice A1 cs.length c1, .bool true]) ∧ Own .u32 4294967296 36 w' w.heap.size A1 cs.length c1 cs ∧ Below w.heap.size w w' := by
  refine (chars_uni A n c l w ht hr hnc hn).mono ?_
  rintro e w' ⟨cs', A1, n1, c1, p, rfl, ho, ⟨rfl, h⟩ | ⟨_, h, _⟩, hb⟩
  · obtain rfl := isT_inj hT h
    obtain rfl := ho.len
    exact ⟨A1, c1, rfl, ho, hb⟩
  · exact absurd hT (h cs)
theorem chars_false (A : Option Addr) (n c : Nat) (l : List Nat) (w : World) (ht : Tab w) (hr : Rd .u8 256 w w.heap.size A n l) (hnc : n ≤ c) (hn : n ≤ 1099511627776) (hT : NoT l) :
    Calls Tryd.prog 12 #[.slice A n c] w fun e w' => e = .returned (.tuple #[.slice none 0 0, .bool false]) ∧ Below w.heap.size w w' := by
  refine (chars_any A n c l w ht hr hnc hn).mono ?_
  rintro e w' ⟨⟨cs, A1, n1, c1, h, rfl, ho⟩ | ⟨hN, rfl⟩, hb⟩
  · exact absurd h (hT cs)
  · exact ⟨rfl, hb⟩
theorem text_true (A : Option Addr) (n c : Nat) (l : List Nat) (w : World) (ht : Tab w) (hr : Rd .u32 4294967296 w w.heap.size A n l) (hn : n ≤ 1099511627776) (hC : AllC l) :
    Calls Tryd.prog 19 #[.slice A n c] w fun e w' => ∃ A1 c1, e = .returned (.tuple #[.slice A1 (txt l).length c1, .bool true]) ∧ Own .u8 256 5 w' w.heap.size A1 (txt l).length c1 (txt l) ∧ Below w.heap.size w w' := by
  refine (text_any A n c l w ht hr hn).mono ?_
  rintro e w' ⟨⟨A1, n1, c1, _, rfl, ho⟩ | ⟨hN, _⟩, hb⟩
  · obtain rfl := ho.len
    exact ⟨A1, c1, rfl, ho, hb⟩
  · exact absurd hC hN
theorem text_false (A : Option Addr) (n c : Nat) (l : List Nat) (w : World) (ht : Tab w) (hr : Rd .u32 4294967296 w w.heap.size A n l) (hn : n ≤ 1099511627776) (hC : ¬ AllC l) :
    Calls Tryd.prog 19 #[.slice A n c] w fun e w' => e = .returned (.tuple #[.slice none 0 0, .bool false]) ∧ Below w.heap.size w w' := by
  refine (text_any A n c l w ht hr hn).mono ?_
  rintro e w' ⟨⟨A1, n1, c1, h, rfl, ho⟩ | ⟨hN, rfl⟩, hb⟩
  · exact absurd h hC
  · exact ⟨rfl, hb⟩
/-- A row of one's own that another one's growth leaves alone. -/
theorem Own.aside {K : IntKind} {M : Nat} {T : TypeId} {w w' : World} {base n c : Nat} {A : Option Addr} {l : List Nat} {row : Option Nat} (h : Own K M T w base A n c l) (hg : w.grownBy w' row) (hr : ∀ k, row = some k → k < base) : Rd K M w' w'.heap.size A n l := by
  refine ⟨h.len, h.1, fun hn => ?_⟩
  obtain ⟨g, rfl, hc⟩ := h.read hn
  obtain ⟨h1, h2⟩ := h.blk g rfl
  refine ⟨g, 0, rfl, Nat.lt_of_lt_of_le h2 hg.size, fun k hk => ?_⟩
  rw [World.cell?_of_block (w := w) (hg.block g h2 (fun e => by have := hr g e.symm; omega)), Nat.zero_add]
  exact hc k _ (List.getElem?_eq_getElem hk)
theorem Below.drewN {B : Nat} {w w' : World} (h : Below B w w') (k : Nat) : Below B w (w'.drewN k) := drewly h k
theorem Tab.drewN {w : World} (h : Tab w) (k : Nat) : Tab (w.drewN k) := h
theorem Rd.drewN {K : IntKind} {M : Nat} {w : World} {B n : Nat} {A : Option Addr} {l : List Nat} (h : Rd K M w B A n l) (k : Nat) : Rd K M (w.drewN k) B A n l := h
theorem Own.drewN {K : IntKind} {M : Nat} {T : TypeId} {w : World} {base n c : Nat} {A : Option Addr} {l : List Nat} (h : Own K M T w base A n c l) (k : Nat) : Own K M T (w.drewN k) base A n c l := h
theorem yes_or_no (l : List Nat) : (∃ cs, IsT l cs) ∨ NoT l := by
  by_cases h : ∃ cs, IsT l cs
  · exact .inl h
  · exact .inr fun cs hc => h ⟨cs, hc⟩
end Go.Proofs.YthplkkpcpkdbiaaDoor.Utf
