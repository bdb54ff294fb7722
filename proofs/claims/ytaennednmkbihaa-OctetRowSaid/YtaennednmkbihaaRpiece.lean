/-
  Contract of the document's Piece: what it answers reads as the piece and the rest; memory that was there stays. Condition: fewer than 2^40 bytes come in.
-/
import Derived.Test.YtaennednmkbihaaPiece
import Derived.Deep.RegionLawGrows
namespace Go.Proofs.Ytaennednmkbihaa.Oct
open Go.RowKit

/-- append([]byte{}, x...) as a step of a region that draws its order: what comes reads as x, old memory stays. -/
theorem step_new {w : World} {ops : Array Oper} {o : Oper} {a : Act} {K : Act → World → Prop} {Q : Exit → Act → World → Prop} {E : Prop} (hgd : o.guard = none) (s x : Operand)
    (ho : o.op = .call { callee := .builtin .append, args := #[s, x], argTypes := #[22, 22] }) (g : Addr) (hs : a.eval s = .slice (some g) 0 0)
    {B m d : Nat} {A' : Option Addr} {l : List UInt8} (hx : a.eval x = .slice A' m d) (hr : Rd w B A' m l) (hsz : m ≤ 140737488355328)
    (h : ∀ A2 c2 w', Rd w' w'.heap.size A2 m l → Below w.heap.size w w' → K (a.put o.dst (.slice A2 m c2)) w') :
    if Region.wanted o (yielded ops a.tmps) = true then Oper.wp Try.prog o a w K Q else E := by
  obtain ⟨i0, hi, hz0, hz1, hz2⟩ := info_parts info5
  have hw : Region.wanted o (yielded ops a.tmps) = true := by simp [Region.wanted, hgd]
  rcases Nat.eq_zero_or_pos m with h0 | h0
  · subst h0
    have hl : l = [] := List.eq_nil_of_length_eq_zero hr.1
    subst hl
    rw [if_pos hw]
    have hrun : (Builtin.append_ #[22, 22] o.type #[.slice (some g) 0 0, .slice A' 0 d]).run Try.prog w = .ok (.slice (some g) 0 0) w := by
      cases A' with
      | none => simp [Builtin.append_, run_underlying Try.underlying22, sizeOf, typeInfo, hi, Builtin.lenOf, Builtin.firstCells, storeCells]
      | some b => simp [Builtin.append_, run_underlying Try.underlying22, sizeOf, typeInfo, hi, Builtin.lenOf, Builtin.firstCells, storeCells, loadCells, loadCellsFrom]
    unfold Oper.wp execOp
    simp only [ho, resolve, invoke, builtin, Sem.run_bind, Sem.run_pure, Result.andThen_ok, List.map_toArray, List.map_cons, List.map_nil, hs, hx, hrun]
    exact h (some g) 0 w (Rd.zero _ _ _) (Below.refl _ _)
  · obtain ⟨b, o', rfl, hb, hc⟩ := hr.2 h0
    refine step_append_grows hgd s x 22 ho 5 i0 (.int .u8 0) 1 1 Try.underlying22 hi hz0 hz1 hz2 rfl (by decide) (some g) 0 0 [] hs (fun h => by cases h) rfl (fun _ _ j u hu => by simp at hu) ⟨b, o', none⟩ m d (bs l) hx (by rw [bs_length, hr.1]; omega) ?_ (bs_one l) (by omega) (by unfold maxLen; omega) (by omega) ?_
    · intro j u hu
      have hj : j < l.length := by
        have := (List.getElem?_eq_some_iff.1 hu).1
        rwa [bs_length] at this
      rw [bs_at l j hj] at hu
      injection hu with hu
      subst hu
      rw [← hc j hj]
      unfold Addr.add
      split
      · rename_i h0; subst h0; rfl
      · rfl
    · intro v' w' hown hg
      rw [List.nil_append, Nat.zero_add] at hown
      obtain ⟨A2, c2, rfl, ho2⟩ := own_of_row hown
      exact h A2 c2 w' ho2.rd ((Below.refl _ _).grown hg (Nat.le_refl _) fun _ h => by cases h)

/-- The call answers two slices that read as p and r, and an error's number. -/
def GivesR (p r : List UInt8) (err : Int) (w : World) (e : Ending) (w' : World) : Prop :=
  ∃ A n c A' n' c', e = .returned (.tuple #[.slice A n c, .slice A' n' c', .int .i64 err]) ∧ Rd w' w'.heap.size A n p ∧ Rd w' w'.heap.size A' n' r ∧ Below w.heap.size w w'

theorem GivesR.none (err : Int) (w w' : World) (hb : Below w.heap.size w w') : GivesR [] [] err w (.returned (.tuple #[.slice none 0 0, .slice none 0 0, .int .i64 err])) w' :=
  ⟨Option.none, 0, 0, Option.none, 0, 0, rfl, Rd.zero _ _ _, Rd.zero _ _ _, hb⟩

theorem rpiece_no (A : Option Addr) (n c : Nat) (k : Int) (w : World) (h1 : k ≠ 1) (h4 : k ≠ 4) : Calls Try.prog 21 #[.slice A n c, .int .i64 k] w (GivesR [] [] 1 w) := by
  have F := Lib.hid (GivesR.none 1 w w (Below.refl _ _))
  have d1 : (k != 1) = true := by simpa using h1
  have d4 : (k != 4) = true := by simpa using h4
  go_enter Try.func21, Try.ntmps21
  go_wp2
  go_ret3
  exact F.out

theorem rpiece_short (A : Option Addr) (n c k : Nat) (w : World) (hk : k = 1 ∨ k = 4) (h : n < k) : Calls Try.prog 21 #[.slice A n c, .int .i64 k] w (GivesR [] [] 7 w) := by
  have F := Lib.hid (GivesR.none 7 w w (Below.refl _ _))
  rcases hk with rfl | rfl
  all_goals
    go_enter Try.func21, Try.ntmps21
    go_wp2
    go_ret3
    exact F.out

theorem rpiece_bad (A : Option Addr) (n c k : Nat) (l : List UInt8) (w : World) (hk : k = 1 ∨ k = 4) (hr : Rd w w.heap.size A n l) (hkn : k ≤ n) (hnc : n ≤ c) (hn : n ≤ 1099511627776) (t : Nat) (ht : tl (l.take k) = t) (h : n - k < t ∨ 2147483647 < t) :
    Calls Try.prog 21 #[.slice A n c, .int .i64 k] w (GivesR [] [] 7 w) := by
  have F := Lib.hid (GivesR.none 7 w w (Below.refl _ _))
  have htk := Lib.hid (told_some (l.take k) (by rw [List.length_take]; omega))
  have HT := Lib.hid ht
  have htb : t < 18446744073709551616 := by
    have hlt := tl_lt (l.take k)
    have h1 : (256 : Nat) ^ (l.take k).length ≤ 256 ^ 8 := Nat.pow_le_pow_right (by omega) (by rw [List.length_take]; omega)
    omega
  have hrt := hr.take hkn
  clear ht
  have hk1 : ((k : Int) != 1) = false ∨ ((k : Int) != 4) = false := by rcases hk with rfl | rfl <;> simp
  by_cases h2 : n - k < t
  · rcases hk with rfl | rfl
    all_goals
      clear h hk1
      go_enter Try.func21, Try.ntmps21
      go_wp2_with (go_at_call 13; refine (rtell_any _ A _ c _ _ hrt).mono ?_; rw [htk.out, HT.out]; rintro e w' ⟨rfl, rfl⟩)
      go_ret3
      exact F.out
  · have h3 : 2147483647 < t := by omega
    rcases hk with rfl | rfl
    all_goals
      clear h hk1
      go_enter Try.func21, Try.ntmps21
      go_wp2_with (go_at_call 13; refine (rtell_any _ A _ c _ _ hrt).mono ?_; rw [htk.out, HT.out]; rintro e w' ⟨rfl, rfl⟩)
      go_ret3
      exact F.out

theorem Rd.to {w w' : World} {A : Option Addr} {n : Nat} {l : List UInt8} (h : Rd w w.heap.size A n l) (hb : Below w.heap.size w w') : Rd w' w'.heap.size A n l := (h.below hb).mono hb.size
theorem bel_alloc {w w' : World} {o : Obj} (h : Below (w.alloc o).heap.size (w.alloc o) w') : Below w.heap.size w w' := ((Below.refl _ _).alloc (Nat.le_refl _) o).trans (h.mono (by simp))

theorem rpiece_1 (A : Option Addr) (n c : Nat) (l : List UInt8) (w : World) (hr : Rd w w.heap.size A n l) (hkn : 1 ≤ n) (hnc : n ≤ c) (hn : n ≤ 1099511627776) (t : Nat) (ht : tl (l.take 1) = t) (h1 : t ≤ n - 1) (h2 : t ≤ 2147483647) :
    Calls Try.prog 21 #[.slice A n c, .int .i64 1] w (GivesR ((l.drop 1).take t) (l.drop (1 + t)) 0 w) := by
  have htk := Lib.hid (told_some (l.take 1) (by rw [List.length_take]; omega))
  have HT := Lib.hid ht
  have hrt := hr.take hkn
  clear ht
  obtain ⟨A1, c1, g1, g2, s1, s1', r1⟩ := cut_mid A n c 1 t (by omega) hnc
  obtain ⟨A2, c2, g3, g4, s2, s2', r2⟩ := cut_from A n c (1 + t) (by omega) hnc
  have R1 := Lib.hid (r1 w w.heap.size l hr)
  have R2 := Lib.hid (r2 w w.heap.size l hr)
  have q1 : ∀ W : World, (Instr.slice 22 (.slice A n c) (some (.int .i64 1)) (some (.int .i64 (1 + (t : Int)))) none).run Try.prog W = .ok (.slice A1 t c1) W := s1
  have q1' : ∀ W : World, (Instr.sliceAt 22 (.slice A n c) (some (.int .i64 1)) (some (.int .i64 (1 + (t : Int)))) none).run Try.prog W = .ok (.slice A1 t c1) W := s1'
  have q2 : ∀ W : World, (Instr.slice 22 (.slice A n c) (some (.int .i64 (1 + (t : Int)))) none none).run Try.prog W = .ok (.slice A2 (n - (1 + t)) c2) W := fun W => s2 W _ (by simp)
  have q2' : ∀ W : World, (Instr.sliceAt 22 (.slice A n c) (some (.int .i64 (1 + (t : Int)))) none none).run Try.prog W = .ok (.slice A2 (n - (1 + t)) c2) W := fun W => s2' W _ (by simp)
  clear s1 s1' s2 s2' r1 r2
  go_enter Try.func21, Try.ntmps21
  go_wp2_with (go_at_call 13; refine (rtell_any _ A _ c _ _ hrt).mono ?_; rw [htk.out, HT.out]; rintro e w' ⟨rfl, rfl⟩)
  go_region_held3 (fun w' => Below w.heap.size w w')
    (first
      | exact (Below.refl _ _).drew
      | exact hS5
      | exact hS10
      | exact hS5.alloc hS5.size _
      | exact hS10.alloc hS10.size _
      | exact ((Below.refl _ _).alloc (Nat.le_refl _) _).drew
      | exact (((Below.refl _ _).alloc (Nat.le_refl _) _).alloc (by simp) _).drew)
    (first
      | (have hq : Below w.heap.size w _ := (by assumption); refine step_new (A' := A1) (m := t) (d := c1) (l := (l.drop 1).take t) (B := w.heap.size) (by rfl) _ _ (by rfl) _ (by rfl) (by rfl) (by exact R1.out.below hq) (by omega) ?_; intro P cp w5 hR5 hb5; have hS5 := hq.trans (hb5.mono hq.size))
      | (have hq : Below w.heap.size w _ := (by assumption); refine step_new (A' := A2) (m := n - (1 + t)) (d := c2) (l := l.drop (1 + t)) (B := w.heap.size) (by rfl) _ _ (by rfl) _ (by rfl) (by rfl) (by exact R2.out.below hq) (by omega) ?_; intro R cr w10 hR10 hb10; have hS10 := hq.trans (hb10.mono hq.size)))
  all_goals
    go_wp2
    go_ret3
    refine ⟨P, t, cp, R, _, cr, rfl, ?_, hR10, hS10⟩
    first | exact hR5.to hb10 | exact hR5.to (bel_alloc hb10)

theorem rpiece_4 (A : Option Addr) (n c : Nat) (l : List UInt8) (w : World) (hr : Rd w w.heap.size A n l) (hkn : 4 ≤ n) (hnc : n ≤ c) (hn : n ≤ 1099511627776) (t : Nat) (ht : tl (l.take 4) = t) (h1 : t ≤ n - 4) (h2 : t ≤ 2147483647) :
    Calls Try.prog 21 #[.slice A n c, .int .i64 4] w (GivesR ((l.drop 4).take t) (l.drop (4 + t)) 0 w) := by
  have htk := Lib.hid (told_some (l.take 4) (by rw [List.length_take]; omega))
  have HT := Lib.hid ht
  have hrt := hr.take hkn
  clear ht
  obtain ⟨A1, c1, g1, g2, s1, s1', r1⟩ := cut_mid A n c 4 t (by omega) hnc
  obtain ⟨A2, c2, g3, g4, s2, s2', r2⟩ := cut_from A n c (4 + t) (by omega) hnc
  have R1 := Lib.hid (r1 w w.heap.size l hr)
  have R2 := Lib.hid (r2 w w.heap.size l hr)
  have q1 : ∀ W : World, (Instr.slice 22 (.slice A n c) (some (.int .i64 4)) (some (.int .i64 (4 + (t : Int)))) none).run Try.prog W = .ok (.slice A1 t c1) W := s1
  have q1' : ∀ W : World, (Instr.sliceAt 22 (.slice A n c) (some (.int .i64 4)) (some (.int .i64 (4 + (t : Int)))) none).run Try.prog W = .ok (.slice A1 t c1) W := s1'
  have q2 : ∀ W : World, (Instr.slice 22 (.slice A n c) (some (.int .i64 (4 + (t : Int)))) none none).run Try.prog W = .ok (.slice A2 (n - (4 + t)) c2) W := fun W => s2 W _ (by simp)
  have q2' : ∀ W : World, (Instr.sliceAt 22 (.slice A n c) (some (.int .i64 (4 + (t : Int)))) none none).run Try.prog W = .ok (.slice A2 (n - (4 + t)) c2) W := fun W => s2' W _ (by simp)
  clear s1 s1' s2 s2' r1 r2
  go_enter Try.func21, Try.ntmps21
  go_wp2_with (go_at_call 13; refine (rtell_any _ A _ c _ _ hrt).mono ?_; rw [htk.out, HT.out]; rintro e w' ⟨rfl, rfl⟩)
  go_region_held3 (fun w' => Below w.heap.size w w')
    (first
      | exact (Below.refl _ _).drew
      | exact hS5
      | exact hS10
      | exact hS5.alloc hS5.size _
      | exact hS10.alloc hS10.size _
      | exact ((Below.refl _ _).alloc (Nat.le_refl _) _).drew
      | exact (((Below.refl _ _).alloc (Nat.le_refl _) _).alloc (by simp) _).drew)
    (first
      | (have hq : Below w.heap.size w _ := (by assumption); refine step_new (A' := A1) (m := t) (d := c1) (l := (l.drop 4).take t) (B := w.heap.size) (by rfl) _ _ (by rfl) _ (by rfl) (by rfl) (by exact R1.out.below hq) (by omega) ?_; intro P cp w5 hR5 hb5; have hS5 := hq.trans (hb5.mono hq.size))
      | (have hq : Below w.heap.size w _ := (by assumption); refine step_new (A' := A2) (m := n - (4 + t)) (d := c2) (l := l.drop (4 + t)) (B := w.heap.size) (by rfl) _ _ (by rfl) _ (by rfl) (by rfl) (by exact R2.out.below hq) (by omega) ?_; intro R cr w10 hR10 hb10; have hS10 := hq.trans (hb10.mono hq.size)))
  all_goals
    go_wp2
    go_ret3
    refine ⟨P, t, cp, R, _, cr, rfl, ?_, hR10, hS10⟩
    first | exact hR5.to hb10 | exact hR5.to (bel_alloc hb10)

theorem rpiece_any (A : Option Addr) (n c : Nat) (l : List UInt8) (k : Int) (w : World) (hr : Rd w w.heap.size A n l) (hnc : n ≤ c) (hn : n ≤ 1099511627776) :
    Calls Try.prog 21 #[.slice A n c, .int .i64 k] w (GivesR (ppc l k) (prs l k) (perr l k) w) := by
  have hl := hr.len
  by_cases h1 : k = 1
  · subst h1
    by_cases hg : pgood l 1
    · have hg' := hg
      obtain ⟨_, g1, g2, g3⟩ := hg'
      unfold ppc prs perr
      rw [if_pos hg, if_pos hg, if_pos hg]
      exact rpiece_1 A n c l w hr (by rw [← hl]; exact g1) hnc hn _ rfl (by rw [← hl]; exact g3) g2
    · unfold ppc prs perr
      rw [if_neg hg, if_neg hg, if_neg hg, if_pos (.inl rfl)]
      by_cases hs : n < 1
      · exact rpiece_short A n c 1 w (.inl rfl) hs
      · refine rpiece_bad A n c 1 l w (.inl rfl) hr (by omega) hnc hn _ rfl ?_
        apply Classical.byContradiction
        intro hle
        exact hg ⟨.inl rfl, by rw [hl]; exact Nat.le_of_not_lt hs, Nat.le_of_not_lt fun h => hle (.inr h), by rw [hl]; exact Nat.le_of_not_lt fun h => hle (.inl h)⟩
  by_cases h4 : k = 4
  · subst h4
    by_cases hg : pgood l 4
    · have hg' := hg
      obtain ⟨_, g1, g2, g3⟩ := hg'
      unfold ppc prs perr
      rw [if_pos hg, if_pos hg, if_pos hg]
      exact rpiece_4 A n c l w hr (by rw [← hl]; exact g1) hnc hn _ rfl (by rw [← hl]; exact g3) g2
    · unfold ppc prs perr
      rw [if_neg hg, if_neg hg, if_neg hg, if_pos (.inr rfl)]
      by_cases hs : n < 4
      · exact rpiece_short A n c 4 w (.inr rfl) hs
      · refine rpiece_bad A n c 4 l w (.inr rfl) hr (by omega) hnc hn _ rfl ?_
        apply Classical.byContradiction
        intro hle
        exact hg ⟨.inr rfl, by rw [hl]; exact Nat.le_of_not_lt hs, Nat.le_of_not_lt fun h => hle (.inr h), by rw [hl]; exact Nat.le_of_not_lt fun h => hle (.inl h)⟩
  have hg : ¬ pgood l k := fun h => by rcases h.1 with h | h <;> contradiction
  unfold ppc prs perr
  rw [if_neg hg, if_neg hg, if_neg hg, if_neg (by omega)]
  exact rpiece_no A n c k w h1 h4

end Go.Proofs.Ytaennednmkbihaa.Oct
