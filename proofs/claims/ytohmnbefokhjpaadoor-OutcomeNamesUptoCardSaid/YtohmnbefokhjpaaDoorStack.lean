/-
  Contracts of the document's Items and Depth of a value. Memory that was there stays. Condition: a value of bulk at most 2^40.
  Contract of the document's Same of two values. Memory that was there stays. Condition: a value of bulk at most 2^40.
  Contracts of small calls: sameAlone; isName and the document's Called; Null, Number, Text, Bool. Memory that was there stays.
  A slice that the call itself made, used as a stack: its top, taking it off; cutting slices of values from the front. No condition.
-/
import Derived.Test.YtohmnbefokhjpaaDoorTree
import Derived.WalkLawsBesides
import Derived.StillTailTactics
namespace Go.Proofs.YtohmnbefokhjpaaDoor.Val
open Go.RowKit Go.Proofs.YtohmnbefokhjpaaDoor.Utf V

/-- What a call's own box holds, behind whatever left old memory alone. -/
theorem box_kept {wr w' : World} {b o : Nat} {v : Value} (h : wr.cell? ⟨b, o, none⟩ = some v) (hb : Below wr.heap.size wr w') (hlt : b < wr.heap.size) : w'.cell? ⟨b, o, none⟩ = some v := (hb.cell (p := ⟨b, o, none⟩) hlt).trans h
theorem ret_int {k : IntKind} {a b : Int} (h : a = b) : Ending.returned (.int k a) = .returned (.int k b) := by rw [h]
theorem below_next {w wr w' : World} (hb : Below w.heap.size w wr) (h : Below wr.heap.size wr w') : Below w.heap.size w w' := hb.trans (h.mono hb.size)

end Go.Proofs.YtohmnbefokhjpaaDoor.Val

namespace Go.Proofs.YtohmnbefokhjpaaDoor.Val
open Go.RowKit Go.Proofs.YtohmnbefokhjpaaDoor.Utf V

/-- What is told of two values before their kids are gone through. -/
def heads (k k' n n' : Nat) (t t' : ByteArray) (l l' : Nat) : Prop := k = k' ∧ n = n' ∧ t = t' ∧ l = l'

theorem ba_toList {s t : ByteArray} (h : s.toList = t.toList) : s = t := by
  obtain ⟨⟨a⟩⟩ := s
  obtain ⟨⟨b⟩⟩ := t
  simpa using h

def GivesB (p : Bool) (w : World) (e : Ending) (w' : World) : Prop := e = .returned (.bool p) ∧ Below w.heap.size w w'

end Go.Proofs.YtohmnbefokhjpaaDoor.Val

namespace Go.Proofs.YtohmnbefokhjpaaDoor.Val
open Go.RowKit Go.Proofs.YtohmnbefokhjpaaDoor.Utf V

/-- Are two values the same, whatever their kids are, but as many? -/
def aloneB (k k' n n' : Nat) (t t' : ByteArray) (l l' : Nat) : Bool := k == k' && n == n' && t.data.toList == t'.data.toList && l == l'
theorem aloneB_no {k k' n n' : Nat} {t t' : ByteArray} {l l' : Nat} (h : ¬ (k = k' ∧ n = n' ∧ t = t' ∧ l = l')) : aloneB k k' n n' t t' l l' = false := by
  cases hb : aloneB k k' n n' t t' l l' with
  | false => rfl
  | true =>
    simp only [aloneB, Bool.and_eq_true, beq_iff_eq, ba_ext] at hb
    exact absurd ⟨hb.1.1.1, hb.1.1.2, hb.1.2, hb.2⟩ h
theorem aloneB_yes (k n : Nat) (t : ByteArray) (l : Nat) : aloneB k k n n t t l l = true := by simp [aloneB]
theorem aloneB_iff {k k' n n' : Nat} {t t' : ByteArray} {l l' : Nat} (h : aloneB k k' n n' t t' l l' = true) : k = k' ∧ n = n' ∧ t = t' ∧ l = l' := by
  simp only [aloneB, Bool.and_eq_true, beq_iff_eq, ba_ext] at h
  exact ⟨h.1.1.1, h.1.1.2, h.1.2, h.2⟩

theorem two_boxes (w : World) (o o' : Obj) : Below w.heap.size w ((w.alloc o).alloc o') := ((Below.refl _ _).alloc (Nat.le_refl _) _).alloc (by simp) _

set_option maxHeartbeats 800000 in
theorem sameAlone_any (k n : Nat) (t : ByteArray) (A : Option Addr) (l c : Nat) (k' n' : Nat) (t' : ByteArray) (A' : Option Addr) (l' c' : Nat) (w : World) :
    Calls Tryd.prog 43 #[.agg #[.int .u8 k, .int .u64 n, .string t, .slice A l c], .agg #[.int .u8 k', .int .u64 n', .string t', .slice A' l' c']] w (GivesB (aloneB k k' n n' t t' l l') w) := by
  by_cases e1 : k = k'
  · subst e1
    by_cases e2 : n = n'
    · subst e2
      by_cases e3 : t = t'
      · subst e3
        by_cases e4 : l = l'
        · subst e4
          have hB := Lib.hid (aloneB_yes k n t l)
          go_enter Tryd.func43, Tryd.ntmps43
          go_wp2
          go_ret
          exact ⟨by rw [hB.out]; rfl, two_boxes _ _ _⟩
        · have hB := Lib.hid (aloneB_no (k := k) (k' := k) (n := n) (n' := n) (t := t) (t' := t) (fun h => e4 h.2.2.2))
          have hd : ((l : Int) == (l' : Int)) = false := by rw [beq_eq_false_iff_ne]; omega
          go_enter Tryd.func43, Tryd.ntmps43
          go_wp2
          go_ret
          exact ⟨by rw [hB.out]; rfl, two_boxes _ _ _⟩
      · have hB := Lib.hid (aloneB_no (k := k) (k' := k) (n := n) (n' := n) (l := l) (l' := l') (fun h => e3 h.2.2.1))
        have hd : ¬ t.toList = t'.toList := fun h => e3 (ba_toList h)
        go_enter Tryd.func43, Tryd.ntmps43
        go_wp2
        go_ret
        exact ⟨by rw [hB.out]; rfl, two_boxes _ _ _⟩
    · have hB := Lib.hid (aloneB_no (k := k) (k' := k) (t := t) (t' := t') (l := l) (l' := l') (fun h => e2 h.2.1))
      have hd : ((n : Int) == (n' : Int)) = false := by rw [beq_eq_false_iff_ne]; omega
      go_enter Tryd.func43, Tryd.ntmps43
      go_wp2
      go_ret
      exact ⟨by rw [hB.out]; rfl, two_boxes _ _ _⟩
  · have hB := Lib.hid (aloneB_no (n := n) (n' := n') (t := t) (t' := t') (l := l) (l' := l') (fun h => e1 h.1))
    have hd : ((k : Int) == (k' : Int)) = false := by rw [beq_eq_false_iff_ne]; omega
    go_enter Tryd.func43, Tryd.ntmps43
    go_wp2
    go_ret
    exact ⟨by rw [hB.out]; rfl, two_boxes _ _ _⟩

def nameB (k : Nat) : Bool := k == 6 || k == 21
theorem isName_any (k n : Nat) (t : ByteArray) (A : Option Addr) (l c : Nat) (w : World) :
    Calls Tryd.prog 61 #[.agg #[.int .u8 k, .int .u64 n, .string t, .slice A l c]] w (GivesB (nameB k) w) := by
  by_cases h6 : k = 6
  · subst h6
    go_enter Tryd.func61, Tryd.ntmps61
    go_wp2
    go_ret
    exact ⟨rfl, (Below.refl _ _).alloc (Nat.le_refl _) _⟩
  · have d6 : ((k : Int) == 6) = false := by rw [beq_eq_false_iff_ne]; omega
    by_cases h21 : k = 21
    · subst h21
      go_enter Tryd.func61, Tryd.ntmps61
      go_wp2
      go_ret
      exact ⟨rfl, (Below.refl _ _).alloc (Nat.le_refl _) _⟩
    · have d21 : ((k : Int) == 21) = false := by rw [beq_eq_false_iff_ne]; omega
      have hB : Hid (nameB k = false) := Lib.hid (by simp [nameB, h6, h21])
      go_enter Tryd.func61, Tryd.ntmps61
      go_wp2
      go_ret
      exact ⟨by rw [hB.out]; rfl, (Below.refl _ _).alloc (Nat.le_refl _) _⟩
/-- A value without kids is answered. -/
def GivesV (k n : Nat) (t : ByteArray) (w : World) (e : Ending) (w' : World) : Prop := e = .returned (.agg #[.int .u8 k, .int .u64 n, .string t, .slice none 0 0]) ∧ Below w.heap.size w w'

theorem number_any (k n : Nat) (w : World) : Calls Tryd.prog 10 #[.int .u8 k, .int .u64 n] w (GivesV k n ⟨#[]⟩ w) := by
  go_enter Tryd.func10, Tryd.ntmps10
  go_wp2
  exact bodyPost_ret (v := .agg #[.int .u8 k, .int .u64 n, .string ⟨#[]⟩, .slice none 0 0]) (by simp [results, Tryd.results10, go_sem]) rfl ⟨rfl, (Below.refl _ _).alloc (Nat.le_refl _) _⟩
theorem text_any' (k : Nat) (t : ByteArray) (w : World) : Calls Tryd.prog 7 #[.int .u8 k, .string t] w (GivesV k 0 t w) := by
  go_enter Tryd.func7, Tryd.ntmps7
  go_wp2
  exact bodyPost_ret (v := .agg #[.int .u8 k, .int .u64 0, .string t, .slice none 0 0]) (by simp [results, Tryd.results7, go_sem]) rfl ⟨rfl, (Below.refl _ _).alloc (Nat.le_refl _) _⟩
theorem null_any (w : World) : Calls Tryd.prog 9 #[] w (GivesV 1 0 ⟨#[]⟩ w) := by
  go_enter Tryd.func9, Tryd.ntmps9
  go_wp2
  exact bodyPost_ret (v := .agg #[.int .u8 1, .int .u64 0, .string ⟨#[]⟩, .slice none 0 0]) (by simp [results, Tryd.results9, go_sem]) rfl ⟨rfl, (Below.refl _ _).alloc (Nat.le_refl _) _⟩
/-- A call's own box of a value. -/
def Box (w : World) (g : Nat) (x0 x1 x2 x3 : Value) : Prop := w.heap[g]? = some (.cells #[x0, x1, x2, x3] 27 (0, 0))
section
variable {w w' : World} {g B : Nat} {x0 x1 x2 x3 : Value}
theorem Box.lt (h : Box w g x0 x1 x2 x3) : g < w.heap.size := (Array.getElem?_eq_some_iff.1 h).1
theorem Box.new (w : World) (x0 x1 x2 x3 : Value) : Box (w.alloc (.cells #[x0, x1, x2, x3] 27)) w.heap.size x0 x1 x2 x3 := heap_alloc_new w _
theorem Box.below (h : Box w g x0 x1 x2 x3) (hb : Below B w w') (hg : g < B) : Box w' g x0 x1 x2 x3 := (hb.block g hg).trans h
theorem Box.call (h : Box w g x0 x1 x2 x3) (hb : Below w.heap.size w w') : Box w' g x0 x1 x2 x3 := h.below hb h.lt
theorem Box.alloc (h : Box w g x0 x1 x2 x3) (o : Obj) : Box (w.alloc o) g x0 x1 x2 x3 := h.call ((Below.refl _ _).alloc (Nat.le_refl _) _)
theorem Box.all (h : Box w g x0 x1 x2 x3) : w.cell? ⟨g, 0, none⟩ = some x0 ∧ w.cell? ⟨g, 1, none⟩ = some x1 ∧ w.cell? ⟨g, 2, none⟩ = some x2 ∧ w.cell? ⟨g, 3, none⟩ = some x3 ∧ ∀ j, w.frozen? ⟨g, j, none⟩ = false := by
  refine ⟨cell_of_row w g 0 _ _ _ h, cell_of_row w g 1 _ _ _ h, cell_of_row w g 2 _ _ _ h, cell_of_row w g 3 _ _ _ h, fun j => ?_⟩
  unfold Box at h
  simp [World.frozen?, h]
end

theorem below_set4 {B : Nat} {w w1 : World} (h : Below B w w1) {g : Nat} (hg : B ≤ g) (a b c d : Value) : Below B w ((((w1.setCell ⟨g, 0, none⟩ a).setCell ⟨g, 1, none⟩ b).setCell ⟨g, 2, none⟩ c).setCell ⟨g, 3, none⟩ d) :=
  (((h.setCell (p := ⟨g, 0, none⟩) hg _).setCell (p := ⟨g, 1, none⟩) hg _).setCell (p := ⟨g, 2, none⟩) hg _).setCell (p := ⟨g, 3, none⟩) hg _
theorem Box.set4 {w : World} {g : Nat} {x0 x1 x2 x3 : Value} (h : Box w g x0 x1 x2 x3) (a b c d : Value) : Box ((((w.setCell ⟨g, 0, none⟩ a).setCell ⟨g, 1, none⟩ b).setCell ⟨g, 2, none⟩ c).setCell ⟨g, 3, none⟩ d) g a b c d := by
  unfold Box at h ⊢
  simp [World.setCell, Array.getElem?_modify, h]
theorem Box.far {w : World} {g : Nat} {x0 x1 x2 x3 : Value} (h : Box w g x0 x1 x2 x3) {p : Addr} (hp : g ≠ p.block) (u : Value) : Box (w.setCell p u) g x0 x1 x2 x3 := (Below.heap_setCell w p u g hp).trans h
theorem Box.far4 {w : World} {g g' : Nat} {x0 x1 x2 x3 : Value} (h : Box w g x0 x1 x2 x3) (hp : g ≠ g') (a b c d : Value) : Box ((((w.setCell ⟨g', 0, none⟩ a).setCell ⟨g', 1, none⟩ b).setCell ⟨g', 2, none⟩ c).setCell ⟨g', 3, none⟩ d) g x0 x1 x2 x3 :=
  (((h.far (p := ⟨g', 0, none⟩) hp _).far (p := ⟨g', 1, none⟩) hp _).far (p := ⟨g', 2, none⟩) hp _).far (p := ⟨g', 3, none⟩) hp _

theorem bool_any (p : Bool) (w : World) : Calls Tryd.prog 50 #[.bool p] w (GivesV 2 (if p then 1 else 0) ⟨#[]⟩ w) := by
  have h0 := Box.new w (.int .u8 0) (.int .u64 0) (.string ⟨#[]⟩) (.slice none 0 0)
  have hb0 : Below w.heap.size w (w.alloc (.cells #[.int .u8 0, .int .u64 0, .string ⟨#[]⟩, .slice none 0 0] 27)) := (Below.refl _ _).alloc (Nat.le_refl _) _
  cases p
  · go_enter Tryd.func50, Tryd.ntmps50
    go_wp2_with fail
    refine (number_any 2 0 _).mono ?_
    rintro e w1 ⟨rfl, hb⟩
    have hb1 := below_next hb0 hb
    obtain ⟨c0, c1, c2, c3, f⟩ := (h0.call hb).all
    go_wp2
    exact bodyPost_ret (v := .agg #[.int .u8 2, .int .u64 0, .string ⟨#[]⟩, .slice none 0 0]) (by simp [results, Tryd.results50, go_sem, c0, c1, c2, c3]) rfl ⟨rfl, below_set4 hb1 (Nat.le_refl _) _ _ _ _⟩
  · go_enter Tryd.func50, Tryd.ntmps50
    go_wp2_with fail
    refine (number_any 2 1 _).mono ?_
    rintro e w1 ⟨rfl, hb⟩
    have hb1 := below_next hb0 hb
    obtain ⟨c0, c1, c2, c3, f⟩ := (h0.call hb).all
    go_wp2
    exact bodyPost_ret (v := .agg #[.int .u8 2, .int .u64 1, .string ⟨#[]⟩, .slice none 0 0]) (by simp [results, Tryd.results50, go_sem, c0, c1, c2, c3]) rfl ⟨rfl, below_set4 hb1 (Nat.le_refl _) _ _ _ _⟩
end Go.Proofs.YtohmnbefokhjpaaDoor.Val

namespace Go.Proofs.YtohmnbefokhjpaaDoor.Val
set_option maxRecDepth 100000
open Go.RowKit Go.Proofs.YtohmnbefokhjpaaDoor.Utf V

theorem own_pop {w : World} {base : Nat} {e : TypeId} {size n m c : Nat} {A : Option Addr} {xs ys : List Value} (h : w.ownsRow base e size (.slice A n c) n (xs ++ ys)) (hx : xs.length = m * size) (hm : m < n) :
    w.ownsRow base e size (.slice A m c) m xs := by
  refine ⟨hx, ?_⟩
  rcases h.2 with ⟨_, h0⟩ | ⟨g, cap, cur, hv, hb, hg, hnc, hcm, hcs, htake⟩
  · omega
  · injection hv with h1 _ h3
    subst h1
    subst h3
    refine .inr ⟨g, c, cur, rfl, hb, hg, by omega, hcm, hcs, ?_⟩
    have hle : m * size ≤ n * size := Nat.mul_le_mul_right _ (by omega)
    have := congrArg (List.take (m * size)) htake
    have e2 : (xs ++ ys).take (m * size) = xs := by rw [← hx]; simp
    rw [List.take_take, Nat.min_eq_left hle, e2] at this
    exact this

theorem own_form {w : World} {base : Nat} {e : TypeId} {size n c : Nat} {A : Option Addr} {xs : List Value} (h : w.ownsRow base e size (.slice A n c) n xs) (hn : 0 < n) : ∃ g, A = some ⟨g, 0, none⟩ ∧ base ≤ g ∧ g < w.heap.size := by
  obtain ⟨g, cap, hv, hb, hlt⟩ := h.form hn
  injection hv with h1
  exact ⟨g, h1, hb, hlt⟩
theorem own_cap {w : World} {base : Nat} {e : TypeId} {size n c : Nat} {A : Option Addr} {xs : List Value} (h : w.ownsRow base e size (.slice A n c) n xs) : n ≤ c := by
  rcases h.2 with ⟨e, h0⟩ | ⟨g, cap, cur, hv, hb, hg, hnc, _⟩
  · omega
  · injection hv with _ _ h3
    omega

/-- x[:k], of whatever slice. -/
theorem cut_top {T e : TypeId} {size : Nat} (hT : Tryd.prog.underlying T = some (.slice e)) (he : Tryd.prog.elem T = e) (hi : (Tryd.prog.info? e).map (·.size) = some size) (A : Option Addr) (n c k : Nat) (hk : k ≤ n) (hnc : n ≤ c) :
    (∀ (W : World) (i : Int), i = k → (Instr.slice T (.slice A n c) none (some (.int .i64 i)) none).run Tryd.prog W = .ok (.slice A k c) W) ∧ (∀ (W : World) (i : Int), i = k → (Instr.sliceAt T (.slice A n c) none (some (.int .i64 i)) none).run Tryd.prog W = .ok (.slice A k c) W) := by
  have hT' : Tryd.prog.underlying T = some (.slice (Tryd.prog.elem T)) := by rw [he]; exact hT
  have hsz : ∀ W : World, (sizeOf e).run Tryd.prog W = .ok size W := fun W => by
    cases hq : Tryd.prog.info? e with
    | none => rw [hq] at hi; cases hi
    | some x => rw [hq] at hi; injection hi with hi; simp [sizeOf, typeInfo, hq, hi]
  have h1 : ∀ (W : World) (i : Int), i = k → (Instr.slice T (.slice A n c) none (some (.int .i64 i)) none).run Tryd.prog W = .ok (.slice A k c) W := fun W i hi => by
    subst hi
    rw [run_slice_h (P := Tryd.prog) (w := W) T A n c hT' .i64 (k : Int) (by omega) (by omega), he, hsz]
    simp only [Result.andThen, sliced]
    cases A <;> simp [Addr.add]
  refine ⟨h1, fun W i hi => ?_⟩
  rw [run_sliceAt_slice (P := Tryd.prog) (w := W) T _ _ _ _ hT']; exact h1 W i hi

theorem elemVals : Tryd.prog.elem 25 = 27 := by kernel_rfl
theorem sizeVal : (Tryd.prog.info? 27).map (·.size) = some 4 := by kernel_rfl

/-- x[k:] of values, under a name of its own. -/
theorem cut_vals (A : Option Addr) (n c k : Nat) (hk : k ≤ n) (hnc : n ≤ c) : ∃ A1 c1, n - k ≤ c1 ∧
    (∀ (W : World) (i : Int), i = k → (Instr.slice 25 (.slice A n c) (some (.int .i64 i)) none none).run Tryd.prog W = .ok (.slice A1 (n - k) c1) W) ∧ (∀ (W : World) (i : Int), i = k → (Instr.sliceAt 25 (.slice A n c) (some (.int .i64 i)) none none).run Tryd.prog W = .ok (.slice A1 (n - k) c1) W) ∧
    ∀ own w P ks, Kids own w P ks A n c → Kids own w P (ks.drop k) A1 (n - k) c1 := by
  have hT' : Tryd.prog.underlying 25 = some (.slice (Tryd.prog.elem 25)) := by rw [elemVals]; exact Tryd.underlying25
  have hsz : ∀ W : World, (sizeOf 27).run Tryd.prog W = .ok 4 W := fun W => by
    have hi := sizeVal
    cases hq : Tryd.prog.info? 27 with
    | none => rw [hq] at hi; cases hi
    | some x => rw [hq] at hi; injection hi with hi; simp [sizeOf, typeInfo, hq, hi]
  have h1 : ∀ (W : World) (i : Int), i = k → (Instr.slice 25 (.slice A n c) (some (.int .i64 i)) none none).run Tryd.prog W = .ok (.slice (if c = k then A else A.map (·.add (k * 4))) (n - k) (c - k)) W := fun W i hi => by
    subst hi
    rw [run_slice_l (P := Tryd.prog) (w := W) 25 A n c hT' .i64 (k : Int) (by omega) (by omega), elemVals, hsz]
    simp only [Result.andThen, sliced, Int.toNat_natCast]
  refine ⟨_, _, ?_, h1, fun W i hi => ?_, fun own w P ks h => ⟨by rw [List.length_drop, ← h.1], ?_, fun hl => ?_⟩⟩
  · omega
  · rw [run_sliceAt_slice (P := Tryd.prog) (w := W) 25 _ _ _ _ hT']; exact h1 W i hi
  · omega
  · obtain ⟨b, o, rfl, hP, ho, hrow⟩ := h.2.2 (by omega)
    rw [if_neg (by omega)]
    refine ⟨b, o + k * 4, ?_, hP, ho, rowL_mk fun i v hi => ?_⟩
    · simp only [Option.map_some]
      unfold Addr.add
      split
      · rename_i h0; rw [h0]; rfl
      · rfl
    · rw [List.getElem?_drop] at hi
      have := rowL_at hrow hi
      rwa [show o + (k + i) * 4 = o + k * 4 + i * 4 by omega] at this
end Go.Proofs.YtohmnbefokhjpaaDoor.Val
