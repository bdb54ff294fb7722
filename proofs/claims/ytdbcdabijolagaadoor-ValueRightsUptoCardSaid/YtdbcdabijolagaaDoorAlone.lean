/-
  Contracts of small calls: sameAlone; isName and the document's Called; Null, Number, Text, Bool. Memory that was there stays.
-/
import Derived.Test.YtdbcdabijolagaaDoorXsame
namespace Go.Proofs.YtdbcdabijolagaaDoor.Val
open Go.RowKit Go.Proofs.YtdbcdabijolagaaDoor.Utf V

/-- Are two values the same, whatever their kids are, but as many? -/
def aloneB (k k' n n' : Nat) (t t' : ByteArray) (l l' : Nat) : Bool := k == k' && n == n' && t.data.toList == t'.data.toList && l == l'
theorem aloneB_no {k k' n n' : Nat} {t t' : ByteArray} {l l' : Nat} (h : ¬ (k = k' ∧ n = n' ∧ t = t' ∧ l = l')) : aloneB k k' n n' t t' l l' = false := by
  cases hb : aloneB k k' n n' t t' l l' with
  | false => rfl
  | true =>
    simp only [aloneB, Bool.and_eq_true, beq_iff_eq, ba_ext] at hb
    exact absurd ⟨hb.1.1.1, hb.1.1.2, hb.1.2, hb.2⟩ h
theorem aloneB_yes (k n : Nat) (t : ByteArray) (l : Nat) : aloneB k k n n t t l l = true := by simp [aloneB]
theorem aloneB_iff {k k' n n' : Nat} {t t' : ByteArray} {l l' : Nat} (h : aloneB k k' n n' t t' l l' = true) : k = k' ∧ n = n' ∧ t = t' ∧ l = l' := by
  simp only [aloneB, Bool.and_eq_true, beq_iff_eq, ba_ext] at h
  exact ⟨h.1.1.1, h.1.1.2, h.1.2, h.2⟩

theorem two_boxes (w : World) (o o' : Obj) : Below w.heap.size w ((w.alloc o).alloc o') := ((Below.refl _ _).alloc (Nat.le_refl _) _).alloc (by simp) _

set_option maxHeartbeats 800000 in
theorem sameAlone_any (k n : Nat) (t : ByteArray) (A : Option Addr) (l c : Nat) (k' n' : Nat) (t' : ByteArray) (A' : Option Addr) (l' c' : Nat) (w : World) :
    Calls Tryd.prog 36 #[.agg #[.int .u8 k, .int .u64 n, .string t, .slice A l c], .agg #[.int .u8 k', .int .u64 n', .string t', .slice A' l' c']] w (GivesB (aloneB k k' n n' t t' l l') w) := by
  by_cases e1 : k = k'
  · subst e1
    by_cases e2 : n = n'
    · subst e2
      by_cases e3 : t = t'
      · subst e3
        by_cases e4 : l = l'
        · subst e4
          have hB := Lib.hid (aloneB_yes k n t l)
          go_enter Tryd.func36, Tryd.ntmps36
          go_wp2
          go_ret
          exact ⟨by rw [hB.out]; rfl, two_boxes _ _ _⟩
        · have hB := Lib.hid (aloneB_no (k := k) (k' := k) (n := n) (n' := n) (t := t) (t' := t) (fun h => e4 h.2.2.2))
          have hd : ((l : Int) == (l' : Int)) = false := by rw [beq_eq_false_iff_ne]; omega
          go_enter Tryd.func36, Tryd.ntmps36
          go_wp2
          go_ret
          exact ⟨by rw [hB.out]; rfl, two_boxes _ _ _⟩
      · have hB := Lib.hid (aloneB_no (k := k) (k' := k) (n := n) (n' := n) (l := l) (l' := l') (fun h => e3 h.2.2.1))
        have hd : ¬ t.toList = t'.toList := fun h => e3 (ba_toList h)
        go_enter Tryd.func36, Tryd.ntmps36
        go_wp2
        go_ret
        exact ⟨by rw [hB.out]; rfl, two_boxes _ _ _⟩
    · have hB := Lib.hid (aloneB_no (k := k) (k' := k) (t := t) (t' := t') (l := l) (l' := l') (fun h => e2 h.2.1))
      have hd : ((n : Int) == (n' : Int)) = false := by rw [beq_eq_false_iff_ne]; omega
      go_enter Tryd.func36, Tryd.ntmps36
      go_wp2
      go_ret
      exact ⟨by rw [hB.out]; rfl, two_boxes _ _ _⟩
  · have hB := Lib.hid (aloneB_no (n := n) (n' := n') (t := t) (t' := t') (l := l) (l' := l') (fun h => e1 h.1))
    have hd : ((k : Int) == (k' : Int)) = false := by rw [beq_eq_false_iff_ne]; omega
    go_enter Tryd.func36, Tryd.ntmps36
    go_wp2
    go_ret
    exact ⟨by rw [hB.out]; rfl, two_boxes _ _ _⟩

def nameB (k : Nat) : Bool := k == 6 || k == 21
theorem isName_any (k n : Nat) (t : ByteArray) (A : Option Addr) (l c : Nat) (w : World) :
    Calls Tryd.prog 55 #[.agg #[.int .u8 k, .int .u64 n, .string t, .slice A l c]] w (GivesB (nameB k) w) := by
  by_cases h6 : k = 6
  · subst h6
    go_enter Tryd.func55, Tryd.ntmps55
    go_wp2
    go_ret
    exact ⟨rfl, (Below.refl _ _).alloc (Nat.le_refl _) _⟩
  · have d6 : ((k : Int) == 6) = false := by rw [beq_eq_false_iff_ne]; omega
    by_cases h21 : k = 21
    · subst h21
      go_enter Tryd.func55, Tryd.ntmps55
      go_wp2
      go_ret
      exact ⟨rfl, (Below.refl _ _).alloc (Nat.le_refl _) _⟩
    · have d21 : ((k : Int) == 21) = false := by rw [beq_eq_false_iff_ne]; omega
      have hB : Hid (nameB k = false) := Lib.hid (by simp [nameB, h6, h21])
      go_enter Tryd.func55, Tryd.ntmps55
      go_wp2
      go_ret
      exact ⟨by rw [hB.out]; rfl, (Below.refl _ _).alloc (Nat.le_refl _) _⟩
theorem xcalled_any (k n : Nat) (t : ByteArray) (A : Option Addr) (l c : Nat) (w : World) :
    Calls Tryd.prog 48 #[.agg #[.int .u8 k, .int .u64 n, .string t, .slice A l c]] w (GivesB (nameB k) w) := by
  by_cases h6 : k = 6
  · subst h6
    go_enter Tryd.func48, Tryd.ntmps48
    go_wp2
    go_ret
    exact ⟨rfl, (Below.refl _ _).alloc (Nat.le_refl _) _⟩
  · have d6 : ((k : Int) == 6) = false := by rw [beq_eq_false_iff_ne]; omega
    by_cases h21 : k = 21
    · subst h21
      go_enter Tryd.func48, Tryd.ntmps48
      go_wp2
      go_ret
      exact ⟨rfl, (Below.refl _ _).alloc (Nat.le_refl _) _⟩
    · have d21 : ((k : Int) == 21) = false := by rw [beq_eq_false_iff_ne]; omega
      have hB : Hid (nameB k = false) := Lib.hid (by simp [nameB, h6, h21])
      go_enter Tryd.func48, Tryd.ntmps48
      go_wp2
      go_ret
      exact ⟨by rw [hB.out]; rfl, (Below.refl _ _).alloc (Nat.le_refl _) _⟩

/-- A value without kids is answered. -/
def GivesV (k n : Nat) (t : ByteArray) (w : World) (e : Ending) (w' : World) : Prop := e = .returned (.agg #[.int .u8 k, .int .u64 n, .string t, .slice none 0 0]) ∧ Below w.heap.size w w'

theorem number_any (k n : Nat) (w : World) : Calls Tryd.prog 19 #[.int .u8 k, .int .u64 n] w (GivesV k n ⟨#[]⟩ w) := by
  go_enter Tryd.func19, Tryd.ntmps19
  go_wp2
  exact bodyPost_ret (v := .agg #[.int .u8 k, .int .u64 n, .string ⟨#[]⟩, .slice none 0 0]) (by simp [results, Tryd.results19, go_sem]) rfl ⟨rfl, (Below.refl _ _).alloc (Nat.le_refl _) _⟩
theorem text_any' (k : Nat) (t : ByteArray) (w : World) : Calls Tryd.prog 20 #[.int .u8 k, .string t] w (GivesV k 0 t w) := by
  go_enter Tryd.func20, Tryd.ntmps20
  go_wp2
  exact bodyPost_ret (v := .agg #[.int .u8 k, .int .u64 0, .string t, .slice none 0 0]) (by simp [results, Tryd.results20, go_sem]) rfl ⟨rfl, (Below.refl _ _).alloc (Nat.le_refl _) _⟩
theorem null_any (w : World) : Calls Tryd.prog 22 #[] w (GivesV 1 0 ⟨#[]⟩ w) := by
  go_enter Tryd.func22, Tryd.ntmps22
  go_wp2
  exact bodyPost_ret (v := .agg #[.int .u8 1, .int .u64 0, .string ⟨#[]⟩, .slice none 0 0]) (by simp [results, Tryd.results22, go_sem]) rfl ⟨rfl, (Below.refl _ _).alloc (Nat.le_refl _) _⟩
/-- A call's own box of a value. -/
def Box (w : World) (g : Nat) (x0 x1 x2 x3 : Value) : Prop := w.heap[g]? = some (.cells #[x0, x1, x2, x3] 25 (0, 0))
section
variable {w w' : World} {g B : Nat} {x0 x1 x2 x3 : Value}
theorem Box.lt (h : Box w g x0 x1 x2 x3) : g < w.heap.size := (Array.getElem?_eq_some_iff.1 h).1
theorem Box.new (w : World) (x0 x1 x2 x3 : Value) : Box (w.alloc (.cells #[x0, x1, x2, x3] 25)) w.heap.size x0 x1 x2 x3 := heap_alloc_new w _
theorem Box.below (h : Box w g x0 x1 x2 x3) (hb : Below B w w') (hg : g < B) : Box w' g x0 x1 x2 x3 := (hb.block g hg).trans h
theorem Box.call (h : Box w g x0 x1 x2 x3) (hb : Below w.heap.size w w') : Box w' g x0 x1 x2 x3 := h.below hb h.lt
theorem Box.alloc (h : Box w g x0 x1 x2 x3) (o : Obj) : Box (w.alloc o) g x0 x1 x2 x3 := h.call ((Below.refl _ _).alloc (Nat.le_refl _) _)
theorem Box.all (h : Box w g x0 x1 x2 x3) : w.cell? ⟨g, 0, none⟩ = some x0 ∧ w.cell? ⟨g, 1, none⟩ = some x1 ∧ w.cell? ⟨g, 2, none⟩ = some x2 ∧ w.cell? ⟨g, 3, none⟩ = some x3 ∧ ∀ j, w.frozen? ⟨g, j, none⟩ = false := by
  refine ⟨cell_of_row w g 0 _ _ _ h, cell_of_row w g 1 _ _ _ h, cell_of_row w g 2 _ _ _ h, cell_of_row w g 3 _ _ _ h, fun j => ?_⟩
  unfold Box at h
  simp [World.frozen?, h]
end

theorem below_set4 {B : Nat} {w w1 : World} (h : Below B w w1) {g : Nat} (hg : B ≤ g) (a b c d : Value) : Below B w ((((w1.setCell ⟨g, 0, none⟩ a).setCell ⟨g, 1, none⟩ b).setCell ⟨g, 2, none⟩ c).setCell ⟨g, 3, none⟩ d) :=
  (((h.setCell (p := ⟨g, 0, none⟩) hg _).setCell (p := ⟨g, 1, none⟩) hg _).setCell (p := ⟨g, 2, none⟩) hg _).setCell (p := ⟨g, 3, none⟩) hg _
theorem Box.set4 {w : World} {g : Nat} {x0 x1 x2 x3 : Value} (h : Box w g x0 x1 x2 x3) (a b c d : Value) : Box ((((w.setCell ⟨g, 0, none⟩ a).setCell ⟨g, 1, none⟩ b).setCell ⟨g, 2, none⟩ c).setCell ⟨g, 3, none⟩ d) g a b c d := by
  unfold Box at h ⊢
  simp [World.setCell, Array.getElem?_modify, h]
theorem Box.far {w : World} {g : Nat} {x0 x1 x2 x3 : Value} (h : Box w g x0 x1 x2 x3) {p : Addr} (hp : g ≠ p.block) (u : Value) : Box (w.setCell p u) g x0 x1 x2 x3 := (Below.heap_setCell w p u g hp).trans h
theorem Box.far4 {w : World} {g g' : Nat} {x0 x1 x2 x3 : Value} (h : Box w g x0 x1 x2 x3) (hp : g ≠ g') (a b c d : Value) : Box ((((w.setCell ⟨g', 0, none⟩ a).setCell ⟨g', 1, none⟩ b).setCell ⟨g', 2, none⟩ c).setCell ⟨g', 3, none⟩ d) g x0 x1 x2 x3 :=
  (((h.far (p := ⟨g', 0, none⟩) hp _).far (p := ⟨g', 1, none⟩) hp _).far (p := ⟨g', 2, none⟩) hp _).far (p := ⟨g', 3, none⟩) hp _

theorem bool_any (p : Bool) (w : World) : Calls Tryd.prog 23 #[.bool p] w (GivesV 2 (if p then 1 else 0) ⟨#[]⟩ w) := by
  have h0 := Box.new w (.int .u8 0) (.int .u64 0) (.string ⟨#[]⟩) (.slice none 0 0)
  have hb0 : Below w.heap.size w (w.alloc (.cells #[.int .u8 0, .int .u64 0, .string ⟨#[]⟩, .slice none 0 0] 25)) := (Below.refl _ _).alloc (Nat.le_refl _) _
  cases p
  · go_enter Tryd.func23, Tryd.ntmps23
    go_wp2_with fail
    refine (number_any 2 0 _).mono ?_
    rintro e w1 ⟨rfl, hb⟩
    have hb1 := below_next hb0 hb
    obtain ⟨c0, c1, c2, c3, f⟩ := (h0.call hb).all
    go_wp2
    exact bodyPost_ret (v := .agg #[.int .u8 2, .int .u64 0, .string ⟨#[]⟩, .slice none 0 0]) (by simp [results, Tryd.results23, go_sem, c0, c1, c2, c3]) rfl ⟨rfl, below_set4 hb1 (Nat.le_refl _) _ _ _ _⟩
  · go_enter Tryd.func23, Tryd.ntmps23
    go_wp2_with fail
    refine (number_any 2 1 _).mono ?_
    rintro e w1 ⟨rfl, hb⟩
    have hb1 := below_next hb0 hb
    obtain ⟨c0, c1, c2, c3, f⟩ := (h0.call hb).all
    go_wp2
    exact bodyPost_ret (v := .agg #[.int .u8 2, .int .u64 1, .string ⟨#[]⟩, .slice none 0 0]) (by simp [results, Tryd.results23, go_sem, c0, c1, c2, c3]) rfl ⟨rfl, below_set4 hb1 (Nat.le_refl _) _ _ _ _⟩
end Go.Proofs.YtdbcdabijolagaaDoor.Val
