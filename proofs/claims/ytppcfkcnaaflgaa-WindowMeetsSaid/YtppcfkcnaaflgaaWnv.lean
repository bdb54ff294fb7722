/-
  Two windows that meet, with what is on its way to each: as plain mathematics, step for step; and in memory. No other condition.
-/
import Derived.Test.YtppcfkcnaaflgaaWnc
namespace Go.Proofs.Ytppcfkcnaaflgaa.Wn
set_option maxRecDepth 100000
open Go.RowKit Go.Proofs.Ytppcfkcnaaflgaa.Utf Go.Proofs.Ytppcfkcnaaflgaa.Ob

def upd {α : Type} (f : Bool → α) (k : Bool) (v : α) : Bool → α := fun j => if j = k then v else f j
theorem upd_at {α : Type} (f : Bool → α) (k : Bool) (v : α) : upd f k v k = v := if_pos rfl
theorem upd_not {α : Type} (f : Bool → α) (k : Bool) (v : α) : upd f k v (!k) = f (!k) := if_neg (by simp)
theorem upd_off {α : Type} (f : Bool → α) (k : Bool) (v : α) : upd f (!k) v k = f k := if_neg (by simp)
theorem upd_same {α : Type} (f : Bool → α) (k : Bool) : upd f k (f k) = f := by funext j; unfold upd; split <;> simp_all
/-- Two windows that have begun with one another, behind n things: W k is end k's, q k what is on its way to k. -/
structure Pl (n : Nat) (W : Bool → Wn) (q : Bool → List It) : Prop where
  known : ∀ k, (W k).known = true
  dir : ∀ k, Dir (W k) (W !k) (q !k) (q k)
  no : ∀ k, (W k).no ≤ n
  len : ∀ k, (q k).length ≤ n
  its : ∀ k, ∀ x ∈ q k, x.n < 4294967296 ∧ x.g < 4294967296 ∧ x.o < 4294967296
  ok : ∀ k, Ok (W k)
section
variable {n : Nat} {W : Bool → Wn} {q : Bool → List It}
theorem Pl.ni (h : Pl n W q) (k : Bool) : (W k).ni ≤ n := by
  have h1 := (h.dir (!k)).no
  have h2 := h.no (!k)
  rw [Bool.not_not] at h1
  omega
theorem Pl.up (h : Pl n W q) : Pl (n + 1) W q := ⟨h.known, h.dir, fun k => Nat.le_succ_of_le (h.no k), fun k => Nat.le_succ_of_le (h.len k), h.its, h.ok⟩
theorem Pl.begin (f : Bool → Nat) : Pl 0 (fun k => begW (newW (f k)) 0 (newW (f !k)).inn) (fun _ => []) :=
  ⟨fun _ => rfl, fun k => by
    have := Dir.begin (f k) (f !k)
    simp only [Bool.not_not]
    exact this, fun _ => Nat.le_refl _, fun _ => Nat.le_refl _, fun k x hx => by simp at hx, fun k => (Ok.new _).beg _ _ (by omega)⟩
/-- A transfer goes. -/
theorem Pl.send (h : Pl n W q) (hn : n ≤ 1000) (k : Bool) (hb : sentB (W k) = true) : Pl (n + 1) (upd W k (sentW (W k))) (upd q (!k) (q (!k) ++ [⟨false, 0, 0, 0⟩])) := by
  have hx : (It.mk false 0 0 0).flow = false := rfl
  have hno := h.no k
  have ho : 0 < (W k).out := by simpa [sentB] using hb
  have e : sentW (W k) = { (W k) with out := (W k).out - 1, no := (W k).no + 1 } := by simp only [sentW, if_pos ho]; rw [Nat.mod_eq_of_lt (by omega)]
  refine ⟨fun j => ?_, fun j => ?_, fun j => ?_, fun j => ?_, fun j x hx' => ?_, fun j => ?_⟩
  · by_cases hj : j = k
    · subst hj; rw [upd_at, e]; exact h.known j
    · obtain rfl : j = !k := by cases j <;> cases k <;> simp_all
      rw [upd_not]; exact h.known _
  · by_cases hj : j = k
    · subst hj
      rw [upd_at, upd_not, upd_at, upd_off]
      exact (h.dir j).sends hb hx (by omega)
    · obtain rfl : j = !k := by cases j <;> cases k <;> simp_all
      rw [upd_not, upd_at, Bool.not_not, upd_at, upd_off]
      have := h.dir (!k)
      rw [Bool.not_not] at this
      exact this.sent hx
  · by_cases hj : j = k
    · subst hj; rw [upd_at, e]; simp; omega
    · obtain rfl : j = !k := by cases j <;> cases k <;> simp_all
      rw [upd_not]; exact Nat.le_succ_of_le (h.no _)
  · by_cases hj : j = k
    · subst hj; rw [upd_off]; exact Nat.le_succ_of_le (h.len _)
    · obtain rfl : j = !k := by cases j <;> cases k <;> simp_all
      rw [upd_at]; have := h.len (!k); simp; omega
  · by_cases hj : j = k
    · subst hj; rw [upd_off] at hx'; exact h.its _ x hx'
    · obtain rfl : j = !k := by cases j <;> cases k <;> simp_all
      rw [upd_at] at hx'
      rcases List.mem_append.1 hx' with hx' | hx'
      · exact h.its _ x hx'
      · rw [List.mem_singleton.1 hx']; exact ⟨by simp, by simp, by simp⟩
  · by_cases hj : j = k
    · subst hj; rw [upd_at]; exact (h.ok j).sent
    · obtain rfl : j = !k := by cases j <;> cases k <;> simp_all
      rw [upd_not]; exact h.ok _
/-- A flow goes. -/
theorem Pl.flow (h : Pl n W q) (k : Bool) : Pl (n + 1) (upd W k (grantW (W k))) (upd q (!k) (q (!k) ++ [⟨true, (W k).ni, (W k).most, (W k).no⟩])) := by
  have hx : (It.mk true (W k).ni (W k).most (W k).no) = ⟨true, (W k).ni, (W k).most, (W k).no⟩ := rfl
  refine ⟨fun j => ?_, fun j => ?_, fun j => ?_, fun j => ?_, fun j x hx' => ?_, fun j => ?_⟩
  · by_cases hj : j = k
    · subst hj; rw [upd_at]; exact h.known j
    · obtain rfl : j = !k := by cases j <;> cases k <;> simp_all
      rw [upd_not]; exact h.known _
  · by_cases hj : j = k
    · subst hj
      rw [upd_at, upd_not, upd_at, upd_off]
      exact (h.dir j).granted hx
    · obtain rfl : j = !k := by cases j <;> cases k <;> simp_all
      rw [upd_not, upd_at, Bool.not_not, upd_at, upd_off]
      have := h.dir (!k)
      rw [Bool.not_not] at this
      exact this.grants (h.ok k) hx
  · by_cases hj : j = k
    · subst hj; rw [upd_at]; exact Nat.le_succ_of_le (h.no j)
    · obtain rfl : j = !k := by cases j <;> cases k <;> simp_all
      rw [upd_not]; exact Nat.le_succ_of_le (h.no _)
  · by_cases hj : j = k
    · subst hj; rw [upd_off]; exact Nat.le_succ_of_le (h.len _)
    · obtain rfl : j = !k := by cases j <;> cases k <;> simp_all
      rw [upd_at]; have := h.len (!k); simp; omega
  · by_cases hj : j = k
    · subst hj; rw [upd_off] at hx'; exact h.its _ x hx'
    · obtain rfl : j = !k := by cases j <;> cases k <;> simp_all
      rw [upd_at] at hx'
      rcases List.mem_append.1 hx' with hx' | hx'
      · exact h.its _ x hx'
      · rw [List.mem_singleton.1 hx']; exact ⟨(h.ok k).ni, by have := (h.ok k).m2; show (W k).most < _; omega, (h.ok k).no⟩
  · by_cases hj : j = k
    · subst hj; rw [upd_at]; exact (h.ok j).grant
    · obtain rfl : j = !k := by cases j <;> cases k <;> simp_all
      rw [upd_not]; exact h.ok _
/-- What came first is not refused. -/
theorem Pl.may (h : Pl n W q) (k : Bool) {x : It} {p : List It} (hq : q k = x :: p) : comeB (W k) x = true := by
  unfold comeB
  split
  · rfl
  · rename_i hf
    have h1 := h.dir (!k)
    rw [Bool.not_not, hq] at h1
    exact h1.may (by simpa using hf) (h.known k)
/-- What went first comes. -/
theorem Pl.come (h : Pl n W q) (hn : n ≤ 1000) (k : Bool) {x : It} {p : List It} (hq : q k = x :: p) : Pl n (upd W k (comeW (W k) x)) (upd q k p) := by
  have hi := h.its k x (by rw [hq]; exact List.mem_cons_self ..)
  have hni := h.ni k
  have hno := h.no k
  have hfl : (comeW (W k) x).known = true ∧ (comeW (W k) x).no = (W k).no ∧ Ok (comeW (W k) x) := by
    unfold comeW
    split
    · exact ⟨rfl, rfl, (h.ok k).told _ _ _ hi.2.2⟩
    · exact ⟨by unfold gotW; split <;> exact h.known k, by unfold gotW; split <;> rfl, (h.ok k).got⟩
  have d1 := h.dir k
  have d2 := h.dir (!k)
  rw [Bool.not_not] at d2
  rw [hq] at d1 d2
  refine ⟨fun j => ?_, fun j => ?_, fun j => ?_, fun j => ?_, fun j y hy => ?_, fun j => ?_⟩
  · by_cases hj : j = k
    · subst hj; rw [upd_at]; exact hfl.1
    · obtain rfl : j = !k := by cases j <;> cases k <;> simp_all
      rw [upd_not]; exact h.known _
  · by_cases hj : j = k
    · subst hj
      rw [upd_at, upd_not, upd_not, upd_at]
      unfold comeW
      split
      · rename_i hf
        exact d1.tells hf (by omega)
      · rename_i hf
        exact d1.came (by simpa using hf)
    · obtain rfl : j = !k := by cases j <;> cases k <;> simp_all
      rw [upd_not, Bool.not_not, upd_at, upd_at, upd_not]
      unfold comeW
      split
      · rename_i hf
        exact d2.tell hf (h.known k)
      · rename_i hf
        exact d2.comes (by simpa using hf) (h.known k) (by omega)
  · by_cases hj : j = k
    · subst hj; rw [upd_at, hfl.2.1]; exact h.no j
    · obtain rfl : j = !k := by cases j <;> cases k <;> simp_all
      rw [upd_not]; exact h.no _
  · by_cases hj : j = k
    · subst hj; rw [upd_at]; have := h.len j; rw [hq] at this; simp at this; omega
    · obtain rfl : j = !k := by cases j <;> cases k <;> simp_all
      rw [upd_not]; exact h.len _
  · by_cases hj : j = k
    · subst hj; rw [upd_at] at hy; exact h.its j y (by rw [hq]; exact List.mem_cons_of_mem _ hy)
    · obtain rfl : j = !k := by cases j <;> cases k <;> simp_all
      rw [upd_not] at hy; exact h.its _ y hy
  · by_cases hj : j = k
    · subst hj; rw [upd_at]; exact hfl.2.2
    · obtain rfl : j = !k := by cases j <;> cases k <;> simp_all
      rw [upd_not]; exact h.ok _
theorem Pl.fits (h : Pl n W q) (k : Bool) : (W k).out + und (q !k) ≤ (W !k).inn := (h.dir k).fits
/-- Where all has come: k grants, and the other one is told so. -/
theorem Pl.last (h : Pl n W q) (hn : n ≤ 1000) (k : Bool) (hq : q k = []) : (toldW (W !k) ((W k).ni : Int) (W k).most (W k).no).out = (W k).most := by
  have h1 := h.dir (!k)
  rw [Bool.not_not, hq] at h1
  exact h1.last (h.ok k) (by have := h.no (!k); omega) _
end
theorem Pl.settle {n : Nat} {W : Bool → Wn} (h : Pl n W (fun _ => [])) (hn : n + 1 ≤ 1000) (k : Bool) : Pl (n + 1) (upd (upd W k (grantW (W k))) (!k) (toldW (W !k) ((W k).ni : Int) (W k).most (W k).no)) (fun _ => []) := by
  have h1 := (h.flow k).come hn (!k) (x := ⟨true, (W k).ni, (W k).most, (W k).no⟩) (p := []) (by rw [upd_at]; rfl)
  have e1 : comeW (upd W k (grantW (W k)) (!k)) ⟨true, (W k).ni, (W k).most, (W k).no⟩ = toldW (W !k) ((W k).ni : Int) (W k).most (W k).no := by rw [upd_not]; rfl
  have e2 : upd (upd (fun _ => ([] : List It)) (!k) ([] ++ [⟨true, (W k).ni, (W k).most, (W k).no⟩])) (!k) [] = fun _ => [] := by funext j; unfold upd; split <;> rfl
  rw [e1] at h1
  rw [e2] at h1
  exact h1
theorem und_le (q : List It) : und q ≤ q.length := by
  induction q with
  | nil => exact Nat.le_refl _
  | cons x q ih => simp only [und, List.length_cons]; split <;> omega
theorem und_take (q : List It) (m : Nat) (h : m < q.length) : und (q.take (m + 1)) = und (q.take m) + (if (q[m]'h).flow then 0 else 1) := by
  induction q generalizing m with
  | nil => simp at h
  | cons x q ih =>
    cases m with
    | zero => simp [und]
    | succ m =>
      simp only [List.length_cons] at h
      have := ih m (by omega)
      simp only [List.take_succ_cons, und, List.getElem_cons_succ] at this ⊢
      omega
theorem itc_at (q : List It) (m : Nat) (h : m < q.length) : (itc q)[m * 4]? = some (.bool (q[m]'h).flow) := by
  induction q generalizing m with
  | nil => simp at h
  | cons x q ih =>
    rw [itc_cons]
    cases m with
    | zero => rfl
    | succ m =>
      simp only [List.length_cons] at h
      rw [List.getElem?_append_right (by simp [itv]; omega), show (m + 1) * 4 - (itv x).length = m * 4 by simp [itv]; omega, ih m (by omega)]
      rfl
def Bk (A : Option Addr) (i : Nat) : Prop := ∃ a, A = some a ∧ a.block = i
/-- Two windows in memory: an array r of pointers to them (p k), an array t of the rows of what is on its way to each. -/
structure Mx (w : World) (B r t : Nat) (p : Bool → Nat) (W : Bool → Wn) (q : Bool → List It) (A : Bool → Option Addr) (c : Bool → Nat) : Prop where
  robj : w.heap[r]? = some (.cells #[.pointer (some ⟨p false, 0, none⟩), .pointer (some ⟨p true, 0, none⟩)] 39 (0, 0))
  tobj : w.heap[t]? = some (.cells #[.slice (A false) (q false).length (c false), .slice (A true) (q true).length (c true)] 42 (0, 0))
  win : ∀ k, Win w (p k) (W k)
  row : ∀ k, Rown w B (A k) (c k) (q k)
  far : ∀ k i, Bk (A k) i → ¬ (i = r ∨ i = t ∨ i = p false ∨ i = p true) ∧ ¬ Bk (A !k) i
  ne : ¬ r = t ∧ (∀ k, ¬ p k = r ∧ ¬ p k = t) ∧ ¬ p false = p true
  ge : B ≤ r ∧ B ≤ t ∧ ∀ k, B ≤ p k
section
variable {w w' : World} {B r t : Nat} {p : Bool → Nat} {W : Bool → Wn} {q : Bool → List It} {A : Bool → Option Addr} {c : Bool → Nat} {X : Nat → Prop}
theorem Mx.rlt (h : Mx w B r t p W q A c) : r < w.heap.size := (Array.getElem?_eq_some_iff.1 h.robj).1
theorem Mx.tlt (h : Mx w B r t p W q A c) : t < w.heap.size := (Array.getElem?_eq_some_iff.1 h.tobj).1
theorem Mx.r0 (h : Mx w B r t p W q A c) : w.cell? ⟨r, 0, none⟩ = some (.pointer (some ⟨p false, 0, none⟩)) := cell_of_row _ _ 0 _ _ _ h.robj
theorem Mx.r1 (h : Mx w B r t p W q A c) : w.cell? ⟨r, 1, none⟩ = some (.pointer (some ⟨p true, 0, none⟩)) := cell_of_row _ _ 1 _ _ _ h.robj
theorem Mx.t0 (h : Mx w B r t p W q A c) : w.cell? ⟨t, 0, none⟩ = some (.slice (A false) (q false).length (c false)) := cell_of_row _ _ 0 _ _ _ h.tobj
theorem Mx.t1 (h : Mx w B r t p W q A c) : w.cell? ⟨t, 1, none⟩ = some (.slice (A true) (q true).length (c true)) := cell_of_row _ _ 1 _ _ _ h.tobj
theorem Mx.tf (h : Mx w B r t p W q A c) (j : Nat) : w.frozen? ⟨t, j, none⟩ = false := frz_of j h.tobj
theorem Mx.off (h : Mx w B r t p W q A c) (ho : Off X w w') (h1 : ¬ X r) (h2 : ¬ X t) (h3 : ∀ k, ¬ X (p k)) (h4 : ∀ k i, Bk (A k) i → ¬ X i) : Mx w' B r t p W q A c :=
  ⟨(ho.block r h.rlt h1).trans h.robj, (ho.block t h.tlt h2).trans h.tobj, fun k => (h.win k).off ho (h3 k), fun k => (h.row k).off ho fun a ha => h4 k _ ⟨a, ha, rfl⟩, h.far, h.ne, h.ge⟩
theorem Mx.call (h : Mx w B r t p W q A c) (hb : Below w.heap.size w w') : Mx w' B r t p W q A c := h.off (X := fun _ => False) (Off.of _ hb) id id (fun _ => id) (fun _ _ _ => id)
/-- One of the windows is turned. -/
theorem Mx.turn (h : Mx w B r t p W q A c) (k : Bool) (V : Wn) (hw : Win w' (p k) V) (ho : Off (fun i => i = p k) w w') : Mx w' B r t p (upd W k V) q A c := by
  refine ⟨(ho.block r h.rlt fun e => (h.ne.2.1 k).1 e.symm).trans h.robj, (ho.block t h.tlt fun e => (h.ne.2.1 k).2 e.symm).trans h.tobj, fun j => ?_, fun j => (h.row j).off ho fun a ha e => ?_, h.far, h.ne, h.ge⟩
  · by_cases hj : j = k
    · subst hj; rw [upd_at]; exact hw
    · obtain rfl : j = !k := by cases j <;> cases k <;> simp_all
      rw [upd_not]
      refine (h.win _).off ho fun e => ?_
      have := h.ne.2.2
      cases k <;> simp_all
  · have := (h.far j _ ⟨a, ha, rfl⟩).1
    cases k <;> simp_all
def idx (k : Bool) : Nat := if k then 1 else 0
/-- A row is another one. -/
theorem Mx.put {V : Bool → Wn} (h : Mx w B r t p W q A c) (k : Bool) (Q : List It) (A2 : Option Addr) (c2 : Nat) (hr : w'.heap[r]? = w.heap[r]?) (hp : ∀ j, Win w' (p j) (V j)) (ht : w'.heap[t]? = (w.setCell ⟨t, idx k, none⟩ (.slice A2 Q.length c2)).heap[t]?)
    (row : Rown w' B A2 c2 Q) (hrow : Rown w' B (A !k) (c !k) (q !k)) (hf : ∀ i, Bk A2 i → ¬ (i = r ∨ i = t ∨ i = p false ∨ i = p true) ∧ ¬ Bk (A !k) i) : Mx w' B r t p V (upd q k Q) (upd A k A2) (upd c k c2) := by
  refine ⟨hr.trans h.robj, ?_, hp, fun j => ?_, fun j i => ?_, h.ne, h.ge⟩
  · rw [ht]
    cases k <;> simp [World.setCell, Array.getElem?_modify, h.tobj, idx, upd]
  · by_cases hj : j = k
    · subst hj; rw [upd_at, upd_at, upd_at]; exact row
    · obtain rfl : j = !k := by cases j <;> cases k <;> simp_all
      rw [upd_not, upd_not, upd_not]; exact hrow
  · by_cases hj : j = k
    · subst hj; rw [upd_at, upd_not]; exact hf i
    · obtain rfl : j = !k := by cases j <;> cases k <;> simp_all
      rw [upd_not, Bool.not_not, upd_at]
      intro hb
      exact ⟨(h.far _ i hb).1, fun hb2 => (hf i hb2).2 hb⟩
/-- What went first came: behind the law's come. -/
theorem Mx.come (h : Mx w B r t p W q A c) (k : Bool) (x : It) (Q : List It) (hB : B ≤ w.heap.size) {v : Bool} (hg : GivesCome (p k) t (idx k) (W k) x Q w (.returned (.bool v)) w') :
    ∃ A2 c2, Mx w' B r t p (upd W k (comeW (W k) x)) (upd q k Q) (upd A k A2) (upd c k c2) ∧ Off (fun i => i = p k ∨ i = t) w w' := by
  obtain ⟨_, A2, c2, hw, ht, row, ho⟩ := hg
  have hkr := (h.ne.2.1 k).1
  have hnk : ¬ p (!k) = p k := by have := h.ne.2.2; cases k <;> simp_all <;> omega
  refine ⟨A2, c2, ?_, ho⟩
  have hwin : ∀ j, Win w' (p j) (upd W k (comeW (W k) x) j) := fun j => by
    by_cases hj : j = k
    · subst hj; rw [upd_at]; exact hw
    · obtain rfl : j = !k := by cases j <;> cases k <;> simp_all
      rw [upd_not]
      exact (h.win _).off ho fun e => e.elim (fun e => hnk e) (fun e => (h.ne.2.1 _).2 e)
  have hfresh : ∀ i, Bk A2 i → w.heap.size ≤ i := fun i ⟨a, ha, hi⟩ => hi ▸ (row.block ha).1
  refine h.put k Q A2 c2 (ho.block r h.rlt fun e => e.elim (fun e => hkr e.symm) (fun e => h.ne.1 e)) hwin ht ?_ ((h.row _).off ho fun a ha e => ?_) (fun i hi => ⟨fun e => ?_, fun ⟨a, ha, hb⟩ => ?_⟩)
  · refine ⟨row.1, ?_⟩
    rcases row.2 with h1 | ⟨g, cap, cur, h1, h2, h3⟩
    · exact .inl h1
    · exact .inr ⟨g, cap, cur, h1, Nat.le_trans hB h2, h3⟩
  · have := (h.far _ _ ⟨a, ha, rfl⟩).1
    cases k <;> simp_all
  · have h1 := hfresh i hi
    have h2 := h.rlt
    have h3 := h.tlt
    have h4 := (h.win false).lt
    have h5 := (h.win true).lt
    omega
  · have h1 := hfresh i hi
    have h2 := ((h.row _).block ha).2
    omega
/-- One more is on its way to k: behind the append, and the store. -/
theorem Mx.push (h : Mx w B r t p W q A c) (k : Bool) (x : It) {A2 : Option Addr} {c2 : Nat} (row : Rown w' B A2 c2 (q k ++ [x])) (ho : Off (Bk (A k)) w w') (hi : ∀ i, Bk A2 i → Bk (A k) i ∨ w.heap.size ≤ i) :
    Mx (w'.setCell ⟨t, idx k, none⟩ (.slice A2 (q k ++ [x]).length c2)) B r t p W (upd q k (q k ++ [x])) (upd A k A2) (upd c k c2) := by
  have s4 := Off.set (X := fun i => i = t) (g := t) w' (idx k) (.slice A2 (q k ++ [x]).length c2) rfl
  have hfar : ∀ i, Bk (A k) i → ¬ (i = r ∨ i = t ∨ i = p false ∨ i = p true) := fun i hb => (h.far k i hb).1
  have hin : ∀ i, Bk A2 i → ¬ (i = r ∨ i = t ∨ i = p false ∨ i = p true) := fun i hb => by
    rcases hi i hb with h1 | h1
    · exact hfar i h1
    · have h2 := h.rlt
      have h3 := h.tlt
      have h4 := (h.win false).lt
      have h5 := (h.win true).lt
      omega
  have sz := ho.size
  refine h.put k (q k ++ [x]) A2 c2 ?_ (fun j => ?_) (setCell_at (ho.block t h.tlt fun e => hfar t e (by simp))) (row.off s4 fun a ha e => hin _ ⟨a, ha, rfl⟩ (by simp [e])) (((h.row _).off ho fun a ha e => (h.far _ _ ⟨a, ha, rfl⟩).2 (by rw [Bool.not_not]; exact e)).off s4 fun a ha e => (h.far _ _ ⟨a, ha, rfl⟩).1 (by simp [e])) (fun i hb => ⟨hin i hb, fun hb2 => ?_⟩)
  · rw [s4.block r (Nat.lt_of_lt_of_le h.rlt sz) h.ne.1]
    exact ho.block r h.rlt fun e => hfar r e (by simp)
  · refine ((h.win j).off ho fun e => hfar _ e ?_).off s4 (h.ne.2.1 j).2
    cases j <;> simp
  · rcases hi i hb with h1 | h1
    · exact (h.far _ i hb2).2 (by rw [Bool.not_not]; exact h1)
    · obtain ⟨a, ha, rfl⟩ := hb2
      have := ((h.row _).block ha).2
      omega
end
theorem Mx.pushes {w0 w w' : World} {B r t : Nat} {p : Bool → Nat} {W : Bool → Wn} {q : Bool → List It} {A : Bool → Option Addr} {c : Bool → Nat} (h : Mx w B r t p W q A c) (k : Bool) (x : It) {A2 : Option Addr} {c2 : Nat} (row : Rown w' B A2 c2 (q k ++ [x])) (ho : Off (Bk (A k)) w w') (hi : ∀ i, Bk A2 i → Bk (A k) i ∨ w.heap.size ≤ i) (hB : w0.heap.size = B) (hb : Below w0.heap.size w0 w) :
    Mx (w'.setCell ⟨t, idx k, none⟩ (.slice A2 ((q k).length + 1) c2)) B r t p W (upd q k (q k ++ [x])) (upd A k A2) (upd c k c2) ∧ Below w0.heap.size w0 (w'.setCell ⟨t, idx k, none⟩ (.slice A2 ((q k).length + 1) c2)) := by
  have m := h.push k x row ho hi
  rw [show (q k ++ [x]).length = (q k).length + 1 by simp] at m
  refine ⟨m, bo (bo hb ho fun i hi' ⟨a, ha, e⟩ => ?_) (Off.set (X := fun i => i = t) (g := t) w' (idx k) _ rfl) fun i hi' e => ?_⟩
  · have := ((h.row k).block ha).1; omega
  · have := h.ge.2.1; omega
theorem Mx.turned {w0 w w' : World} {B r t : Nat} {p : Bool → Nat} {W : Bool → Wn} {q : Bool → List It} {A : Bool → Option Addr} {c : Bool → Nat} (h : Mx w B r t p W q A c) (k : Bool) (V : Wn) (hw : Win w' (p k) V) (ho : Off (fun i => i = p k) w w') (hB : w0.heap.size = B) (hb : Below w0.heap.size w0 w) : Mx w' B r t p (upd W k V) q A c ∧ Below w0.heap.size w0 w' :=
  ⟨h.turn k V hw ho, bo hb ho fun i hi e => by have := h.ge.2.2 k; omega⟩
theorem Mx.comes {w0 w w' : World} {B r t : Nat} {p : Bool → Nat} {W : Bool → Wn} {q : Bool → List It} {A : Bool → Option Addr} {c : Bool → Nat} (h : Mx w B r t p W q A c) (k : Bool) (x : It) (Q : List It) {v : Bool} (hg : GivesCome (p k) t (idx k) (W k) x Q w (.returned (.bool v)) w') (hB : w0.heap.size = B) (hb : Below w0.heap.size w0 w) :
    ∃ A2 c2, Mx w' B r t p (upd W k (comeW (W k) x)) (upd q k Q) (upd A k A2) (upd c k c2) ∧ Below w0.heap.size w0 w' := by
  obtain ⟨A2, c2, m, o⟩ := h.come k x Q (by have := hb.size; omega) hg
  exact ⟨A2, c2, m, bo hb o fun i hi e => by have h1 := h.ge.2.2 k; have h2 := h.ge.2.1; omega⟩
/-- What comes is not refused. -/
theorem come_yes {w : World} {B r t n : Nat} {p : Bool → Nat} {W : Bool → Wn} {q : Bool → List It} {A : Bool → Option Addr} {c : Bool → Nat} (h : Mx w B r t p W q A c) (hp : Pl n W q) (hn : n ≤ 1000) (k : Bool) (x : It) (Q : List It) (hq : q k = x :: Q) : Calls Try.prog 19 #[.pointer (some ⟨p k, 0, none⟩), .pointer (some ⟨t, idx k, none⟩)] w fun e w' => e = .returned (.bool true) ∧ GivesCome (p k) t (idx k) (W k) x Q w (.returned (.bool true)) w' := by
  have hx := hp.its k x (by rw [hq]; exact List.mem_cons_self ..)
  have hl : (q k).length = Q.length + 1 := by rw [hq]; rfl
  have hc : w.cell? ⟨t, idx k, none⟩ = some (.slice (A k) (Q.length + 1) (c k)) := by
    rw [← hl]
    cases k
    · exact h.t0
    · exact h.t1
  refine (come_one x Q (A k) (c k) B w (h.win k) h.tlt (h.ne.2.1 k).2 hc (h.tf _) (hq ▸ h.row k) (by have := hp.len k; omega) hx.1 hx.2.1 hx.2.2).mono fun e w' hg => ?_
  obtain ⟨he, rest⟩ := hg
  rw [hp.may k hq] at he
  subst he
  exact ⟨rfl, by rw [hp.may k hq], rest⟩
theorem come_no {w : World} {B r t : Nat} {p : Bool → Nat} {W : Bool → Wn} {q : Bool → List It} {A : Bool → Option Addr} {c : Bool → Nat} (h : Mx w B r t p W q A c) (k : Bool) (hq : q k = []) : Calls Try.prog 19 #[.pointer (some ⟨p k, 0, none⟩), .pointer (some ⟨t, idx k, none⟩)] w fun e w' => e = .returned (.bool true) ∧ w = w' := by
  refine come_nil (A k) (c k) w ?_
  have hl : (q k).length = 0 := by rw [hq]; rfl
  rw [← hl]
  cases k
  · exact h.t0
  · exact h.t1
/-- The kind of one that is on its way. -/
theorem Mx.cellf {w : World} {B r t : Nat} {p : Bool → Nat} {W : Bool → Wn} {q : Bool → List It} {A : Bool → Option Addr} {c : Bool → Nat} (h : Mx w B r t p W q A c) (k : Bool) {m : Nat} (hm : m < (q k).length) : ∃ g, A k = some ⟨g, 0, none⟩ ∧ w.cell? ⟨g, m * 4, none⟩ = some (.bool ((q k)[m]'hm).flow) := by
  have hr : w.ownsRow B 46 4 (.slice (A k) (q k).length (c k)) (q k).length (itc (q k)) := h.row k
  obtain ⟨g, cap, e, _, _⟩ := hr.form (by omega)
  injection e with e1 _ e2
  rw [e1, e2] at hr
  exact ⟨g, e1, by rw [World.ownsRow.cellAt hr (m * 4) (by omega)]; exact itc_at _ _ hm⟩
theorem left_at {w : World} {b : Nat} {W : Wn} (x y : Int) (h : Win w b W) (hx : (W.out : Int) = x) (hy : (W.inn : Int) = y) : Calls Try.prog 14 #[.pointer (some ⟨b, 0, none⟩)] w fun e w' => e = .returned (.tuple #[.int .u32 x, .int .u32 y]) ∧ Below w.heap.size w w' := by
  subst hx hy
  exact left_any w h
/-- append(row, x). -/
theorem wpList_it {w : World} {ops : Array Oper} {rest : List Oper} {o : Oper} {a : Act} {Q : Exit → Act → World → Prop} (hgd : o.guard = none) (s x : Operand) (ho : o.op = .call { callee := .builtin .append, args := #[s, x], argTypes := #[41, 41] })
    {B c g0 n : Nat} {A : Option Addr} {q : List It} (y : It) (hn : n = q.length) (hs : a.eval s = .slice A n c) (h : Rown w B A c q) (hx : a.eval x = .slice (some ⟨g0, 0, none⟩) 1 1) (hg0 : w.heap[g0]? = some (.cells (itv y).toArray 46 (0, 0))) (hq : n ≤ 1000) (hB : B ≤ w.heap.size)
    (hK : ∀ A2 c2 w', Rown w' B A2 c2 (q ++ [y]) → Off (Bk A) w w' → (∀ i, Bk A2 i → Bk A i ∨ w.heap.size ≤ i) → wpList Try.prog ops Q rest (a.put o.dst (.slice A2 (n + 1) c2)) w') : wpList Try.prog ops Q (o :: rest) a w := by
  subst hn
  obtain ⟨i0, hi, hz0, hz1, hz2⟩ := info_parts infoS
  have hone : ∀ u ∈ itv y, u.oneCell' = true := fun u hu => by simp [itv] at hu; rcases hu with rfl | rfl | rfl | rfl <;> rfl
  refine wpList_append_lies w hgd s x 41 ho B 46 i0 _ 4 16 Try.underlying41 hi hz0 hz1 hz2 rfl (by omega) (.slice A q.length c) q.length (itc q) hs h ⟨g0, 0, none⟩ 1 1 (itv y) hx rfl (fun j u hu => World.news_of_block hg0 j u (by simpa using hu)) hone (by omega) (by unfold maxLen; omega) (by omega) hB _ rfl fun g cap w' h1 h2 h3 h4 => ?_
  have hoff : Off (Bk A) w w' := ⟨h2.os, h2.tape, h2.output, h2.size, fun i hi hX => h2.block i hi fun e => hX (by
    cases A with
    | none => cases e
    | some a => exact ⟨a, rfl, by simpa [Value.ownBlock] using e.symm⟩)⟩
  refine hK (some ⟨g, 0, none⟩) cap w' ?_ hoff fun i ⟨a, ha, hia⟩ => ?_
  · unfold Rown
    rw [List.length_append, List.length_singleton, itc_app, show itc [y] = itv y by simp [itc]]
    exact h1
  · injection ha with ha
    subst ha
    rcases h3 with h3 | h3
    · left
      cases A with
      | none => cases h3
      | some a => exact ⟨a, rfl, by simp [Value.ownBlock] at h3; rw [h3]; exact hia⟩
    · right
      simp at hia
      omega
end Go.Proofs.Ytppcfkcnaaflgaa.Wn
