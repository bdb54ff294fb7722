/-
  The anchor of decode's statements: it answers true. Condition: the table of utf.
-/
import Derived.Test.YtikjnbognjicdaaDoorDcl
import Derived.Test.YtikjnbognjicdaaDoorElem
namespace Go.Proofs.YtikjnbognjicdaaDoor.Dec
set_option maxRecDepth 100000
open Go.RowKit Go.Proofs.YtikjnbognjicdaaDoor.Utf Go.Proofs.YtikjnbognjicdaaDoor.Val V

theorem GivesD.leaf {k n m x : Nat} {t : ByteArray} {w : World} {e : Ending} {w' : World} (h : GivesD (.mk k n t [], m, x) w e w') : ∃ A c, e = .returned (.tuple #[.agg #[.int .u8 (k : Int), .int .u64 (n : Int), .string t, .slice A 0 c], .int .i64 (m : Int), .int .i64 (x : Int)]) ∧ Below w.heap.size w w' := by
  obtain ⟨A, l, c, rfl, _, _, hk, hb⟩ := h
  have hl : l = 0 := hk.len
  subst hl
  exact ⟨A, c, rfl, hb⟩
theorem dec_l1 (w : World) (ht : Tab w) (g : Nat) (hg : w.heap.size = g) : Calls Tryd.prog 18 #[.slice (some ⟨g, 0, none⟩) 6 6] (w.alloc (.cells #[.int .u8 112, .int .u8 0, .int .u8 0, .int .u8 0, .int .u8 5, .int .u8 255] 5)) fun e w' =>
    ∃ A c, e = .returned (.tuple #[.agg #[.int .u8 5, .int .u64 5, .string ⟨#[]⟩, .slice A 0 c], .int .i64 5, .int .i64 0]) ∧ Below w.heap.size w w' := by
  subst hg
  have hb : Below w.heap.size w (w.alloc (.cells #[.int .u8 112, .int .u8 0, .int .u8 0, .int .u8 0, .int .u8 5, .int .u8 255] 5)) := (Below.refl _ _).alloc (Nat.le_refl _) _
  have h := dec_any (c := 6) (by have := rd_lit8 w [112, 0, 0, 0, 5, 255] 6 rfl (by decide); rw [← World.size_alloc] at this; exact this) (by decide) (by decide) (ht.call hb)
  rw [dec_w1] at h
  exact h.mono fun e w' he => by
    obtain ⟨A, c, rfl, hb'⟩ := GivesD.leaf he
    exact ⟨A, c, rfl, below_next hb hb'⟩
theorem dec_l2 (w : World) (ht : Tab w) (g : Nat) (hg : w.heap.size = g) : Calls Tryd.prog 18 #[.slice (some ⟨g, 0, none⟩) 5 5] (w.alloc (.cells #[.int .u8 192, .int .u8 4, .int .u8 2, .int .u8 65, .int .u8 80] 5)) fun e w' =>
    ∃ A c, e = .returned (.tuple #[.agg #[.int .u8 0, .int .u64 0, .string ⟨#[]⟩, .slice A 0 c], .int .i64 0, .int .i64 7]) ∧ Below w.heap.size w w' := by
  subst hg
  have hb : Below w.heap.size w (w.alloc (.cells #[.int .u8 192, .int .u8 4, .int .u8 2, .int .u8 65, .int .u8 80] 5)) := (Below.refl _ _).alloc (Nat.le_refl _) _
  have h := dec_any (c := 5) (by have := rd_lit8 w [192, 4, 2, 65, 80] 5 rfl (by decide); rw [← World.size_alloc] at this; exact this) (by decide) (by decide) (ht.call hb)
  rw [dec_w2] at h
  exact h.mono fun e w' he => by
    obtain ⟨A, c, rfl, hb'⟩ := GivesD.leaf he
    exact ⟨A, c, rfl, below_next hb hb'⟩
theorem dec_l3 (w : World) (ht : Tab w) (g : Nat) (hg : w.heap.size = g) : Calls Tryd.prog 18 #[.slice (some ⟨g, 0, none⟩) 2 2] (w.alloc (.cells #[.int .u8 86, .int .u8 2] 5)) fun e w' =>
    ∃ A c, e = .returned (.tuple #[.agg #[.int .u8 0, .int .u64 0, .string ⟨#[]⟩, .slice A 0 c], .int .i64 0, .int .i64 6]) ∧ Below w.heap.size w w' := by
  subst hg
  have hb : Below w.heap.size w (w.alloc (.cells #[.int .u8 86, .int .u8 2] 5)) := (Below.refl _ _).alloc (Nat.le_refl _) _
  have h := dec_any (c := 2) (by have := rd_lit8 w [86, 2] 2 rfl (by decide); rw [← World.size_alloc] at this; exact this) (by decide) (by decide) (ht.call hb)
  rw [dec_w3] at h
  exact h.mono fun e w' he => by
    obtain ⟨A, c, rfl, hb'⟩ := GivesD.leaf he
    exact ⟨A, c, rfl, below_next hb hb'⟩
theorem num_5 (w : World) : Calls Tryd.prog 26 #[.int .u8 5, .int .u64 5] w fun e w' => e = .returned (.agg #[.int .u8 5, .int .u64 5, .string ⟨#[]⟩, .slice none 0 0]) ∧ Below w.heap.size w w' := num_any 5 5 w
theorem same_5 (A : Option Addr) (c : Nat) (w : World) : Calls Tryd.prog 19 #[.agg #[.int .u8 5, .int .u64 5, .string ⟨#[]⟩, .slice A 0 c], .agg #[.int .u8 5, .int .u64 5, .string ⟨#[]⟩, .slice none 0 0]] w (GivesB true w) :=
  vsame_any 5 5 ⟨#[]⟩ [] A 0 c 5 5 ⟨#[]⟩ [] none 0 0 w (by decide) (Kd.none_ _ _ _) (Kd.none_ _ _ _)
set_option maxHeartbeats 2000000 in
theorem works_any (w : World) (ht : Tab w) : Calls Tryd.prog 17 #[] w (GivesB true w) := by
  go_enter Tryd.func17, Tryd.ntmps17
  go_wp2_with fail
  refine (dec_l1 w ht _ rfl).mono ?_
  rintro e w1 ⟨A1, c1, rfl, hb1⟩
  have hx1 := Box.new w1 (.int .u8 5) (.int .u64 5) (.string ⟨#[]⟩) (.slice A1 0 c1)
  obtain ⟨v1, hv1⟩ : ∃ v1, w1.alloc (.cells #[.int .u8 5, .int .u64 5, .string ⟨#[]⟩, .slice A1 0 c1] 25) = v1 := ⟨_, rfl⟩
  obtain ⟨g, hg⟩ : ∃ g, w1.heap.size = g := ⟨_, rfl⟩
  have hB1 : Below w.heap.size w v1 := by rw [← hv1]; exact hb1.alloc hb1.size _
  rw [hv1, hg] at hx1
  go_wp2_with fail
  refine (dec_l2 v1 (ht.call hB1) _ rfl).mono ?_
  rintro e w2 ⟨A2, c2, rfl, hb2⟩
  have hx2 := hx1.call hb2
  obtain ⟨v2, hv2⟩ : ∃ v2, w2.alloc (.cells #[.int .u8 0, .int .u64 0, .string ⟨#[]⟩, .slice A2 0 c2] 25) = v2 := ⟨_, rfl⟩
  have hB2 : Below w.heap.size w v2 := by rw [← hv2]; exact (below_next hB1 hb2).alloc (below_next hB1 hb2).size _
  have hx2 : Box v2 g (.int .u8 5) (.int .u64 5) (.string ⟨#[]⟩) (.slice A1 0 c1) := by rw [← hv2]; exact hx2.alloc _
  clear hv1 hx1 hb1 hb2
  go_wp2_with fail
  refine (dec_l3 v2 (ht.call hB2) _ rfl).mono ?_
  rintro e w3 ⟨A3, c3, rfl, hb3⟩
  have hx3 := hx2.call hb3
  obtain ⟨v3, hv3⟩ : ∃ v3, w3.alloc (.cells #[.int .u8 0, .int .u64 0, .string ⟨#[]⟩, .slice A3 0 c3] 25) = v3 := ⟨_, rfl⟩
  have hB3 : Below w.heap.size w v3 := by rw [← hv3]; exact (below_next hB2 hb3).alloc (below_next hB2 hb3).size _
  have hx3 : Box v3 g (.int .u8 5) (.int .u64 5) (.string ⟨#[]⟩) (.slice A1 0 c1) := by rw [← hv3]; exact hx3.alloc _
  have HX3 := Lib.hid hx3
  clear hv2 hx2 hb3 hx3
  go_wp2_with fail

  clear hv3
  have hx3 := HX3.out
  refine wp_region_noPanic ?_
  try simp only [Act.put, List.setIfInBounds_toArray, List.set_cons_zero, List.set_cons_succ]
  refine wp_region_held_drew (S := fun wx => Below v3.heap.size v3 wx) (by kernel_rfl) (by exact (Below.refl _ _).drew) (fun hHeld => ?_)
  try simp only [Act.put, List.setIfInBounds_toArray, List.set_cons_zero, List.set_cons_succ]
  (refine wpAnyH_take (i := 0) (oi := ⟨some 28, _, _, _, _, _⟩) (v := ?_) rfl (by kernel_rfl) (by kernel_rfl) (by kernel_rfl) (fun _ _ _ h => h) (Or.inl ⟨by kernel_rfl, ?_⟩) (by assumption) ?_; rotate_left 1; (· intro wx hSw; (try dsimp only at hSw); go_simp; (try with_reducible rfl)))
  try simp only [Act.put, List.setIfInBounds_toArray, List.set_cons_zero, List.set_cons_succ]
  (refine wpAnyH_take (i := 1) (oi := ⟨some 29, _, _, _, _, _⟩) (v := ?_) rfl (by kernel_rfl) (by kernel_rfl) (by kernel_rfl) (fun _ _ _ h => h) (Or.inl ⟨by kernel_rfl, ?_⟩) (by assumption) ?_; rotate_left 1; (· intro wx hSw; (try dsimp only at hSw); go_simp; (try with_reducible rfl)))
  try simp only [Act.put, List.setIfInBounds_toArray, List.set_cons_zero, List.set_cons_succ]
  (refine wpAnyH_take (i := 2) (oi := ⟨some 30, _, _, _, _, _⟩) (v := ?_) rfl (by kernel_rfl) (by kernel_rfl) (by kernel_rfl) (fun _ _ _ h => h) (Or.inl ⟨by kernel_rfl, ?_⟩) (by assumption) ?_; rotate_left 1; (· intro wx hSw; (try dsimp only at hSw); go_simp; (try with_reducible rfl)))
  try simp only [Act.put, List.setIfInBounds_toArray, List.set_cons_zero, List.set_cons_succ]
  (refine wpAnyH_take (i := 3) (oi := ⟨some 31, _, _, _, _, _⟩) (v := ?_) rfl (by kernel_rfl) (by kernel_rfl) (by kernel_rfl) (fun _ _ _ h => h) (Or.inl ⟨by kernel_rfl, ?_⟩) (by assumption) ?_; rotate_left 1; (· intro wx hSw; (try dsimp only at hSw); go_simp; (try with_reducible rfl)))
  try simp only [Act.put, List.setIfInBounds_toArray, List.set_cons_zero, List.set_cons_succ]
  (refine wpAnyH_take (i := 4) (oi := ⟨some 32, _, _, _, _, _⟩) (v := ?_) rfl (by kernel_rfl) (by kernel_rfl) (by kernel_rfl) (fun _ _ _ h => h) (Or.inl ⟨by kernel_rfl, ?_⟩) (by assumption) ?_; rotate_left 1; (· intro wx hSw; (try dsimp only at hSw); go_simp; (try with_reducible rfl)))
  try simp only [Act.put, List.setIfInBounds_toArray, List.set_cons_zero, List.set_cons_succ]
  (refine wpAnyH_take (i := 5) (oi := ⟨some 33, _, _, _, _, _⟩) (v := ?_) rfl (by kernel_rfl) (by kernel_rfl) (by kernel_rfl) (fun _ _ _ h => h) (Or.inl ⟨by kernel_rfl, ?_⟩) (by assumption) ?_; rotate_left 1; (· intro wx hSw; (try dsimp only at hSw); go_simp; (try with_reducible rfl)))
  try simp only [Act.put, List.setIfInBounds_toArray, List.set_cons_zero, List.set_cons_succ]
  (refine wpAnyH_take (i := 6) (oi := ⟨some 34, _, _, _, _, _⟩) (v := ?_) rfl (by kernel_rfl) (by kernel_rfl) (by kernel_rfl) (fun _ _ _ h => h) (Or.inl ⟨by kernel_rfl, ?_⟩) (by assumption) ?_; rotate_left 1; (· intro wx hSw; (try dsimp only at hSw); go_simp; (try with_reducible rfl)))
  try simp only [Act.put, List.setIfInBounds_toArray, List.set_cons_zero, List.set_cons_succ]
  (refine wpAnyH_take (i := 7) (oi := ⟨some 35, _, _, _, _, _⟩) (v := ?_) rfl (by kernel_rfl) (by kernel_rfl) (by kernel_rfl) (fun _ _ _ h => h) (Or.inl ⟨by kernel_rfl, ?_⟩) (by assumption) ?_; rotate_left 1; (· intro wx hSw; (try dsimp only at hSw); go_simp; (try with_reducible rfl)))
  try simp only [Act.put, List.setIfInBounds_toArray, List.set_cons_zero, List.set_cons_succ]
  (refine wpAnyH_take (i := 8) (oi := ⟨some 36, _, _, _, _, _⟩) (v := ?_) rfl (by kernel_rfl) (by kernel_rfl) (by kernel_rfl) (fun _ _ _ h => h) (Or.inl ⟨by kernel_rfl, ?_⟩) (by assumption) ?_; rotate_left 1; (· intro wx hSw; (try dsimp only at hSw); go_simp; (try with_reducible rfl)))
  try simp only [Act.put, List.setIfInBounds_toArray, List.set_cons_zero, List.set_cons_succ]
  (refine wpAnyH_take (i := 9) (oi := ⟨some 37, _, _, _, _, _⟩) (v := ?_) rfl (by kernel_rfl) (by kernel_rfl) (by kernel_rfl) (fun _ _ _ h => h) (Or.inl ⟨by kernel_rfl, ?_⟩) (by assumption) ?_; rotate_left 1; (· intro wx hSw; (try dsimp only at hSw); go_simp; (try with_reducible rfl)))
  try simp only [Act.put, List.setIfInBounds_toArray, List.set_cons_zero, List.set_cons_succ]
  (refine wpAnyH_take (i := 10) (oi := ⟨some 38, _, _, _, _, _⟩) (v := ?_) rfl (by kernel_rfl) (by kernel_rfl) (by kernel_rfl) (fun _ _ _ h => h) (Or.inl ⟨by kernel_rfl, ?_⟩) (by assumption) ?_; rotate_left 1; (· intro wx hSw; (try dsimp only at hSw); go_simp; (try with_reducible rfl)))
  try simp only [Act.put, List.setIfInBounds_toArray, List.set_cons_zero, List.set_cons_succ]
  (refine wpAnyH_take (i := 11) (oi := ⟨some 39, _, _, _, _, _⟩) (v := ?_) rfl (by kernel_rfl) (by kernel_rfl) (by kernel_rfl) (fun _ _ _ h => h) (Or.inl ⟨by kernel_rfl, ?_⟩) (by assumption) ?_; rotate_left 1; (· intro wx hSw; (try dsimp only at hSw); go_simp; (try with_reducible rfl)))
  try simp only [Act.put, List.setIfInBounds_toArray, List.set_cons_zero, List.set_cons_succ]
  (refine wpAnyH_take (i := 12) (oi := ⟨some 40, _, _, _, _, _⟩) (v := ?_) rfl (by kernel_rfl) (by kernel_rfl) (by kernel_rfl) (fun _ _ _ h => h) (Or.inl ⟨by kernel_rfl, ?_⟩) (by assumption) ?_; rotate_left 1; (· intro wx hSw; (try dsimp only at hSw); go_simp; (try with_reducible rfl)))
  try simp only [Act.put, List.setIfInBounds_toArray, List.set_cons_zero, List.set_cons_succ]
  (refine wpAnyH_take (i := 13) (oi := ⟨some 41, _, _, _, _, _⟩) (v := ?_) rfl (by kernel_rfl) (by kernel_rfl) (by kernel_rfl) (fun _ _ _ h => h) (Or.inl ⟨by kernel_rfl, ?_⟩) (by assumption) ?_; rotate_left 1; (· intro wx hSw; (try dsimp only at hSw); go_simp; (try with_reducible rfl)))
  try simp only [Act.put, List.setIfInBounds_toArray, List.set_cons_zero, List.set_cons_succ]
  (refine wpAnyH_take (i := 14) (oi := ⟨some 42, _, _, _, _, _⟩) (v := ?_) rfl (by kernel_rfl) (by kernel_rfl) (by kernel_rfl) (fun _ _ _ h => h) (Or.inl ⟨by kernel_rfl, ?_⟩) (by assumption) ?_; rotate_left 1; (· intro wx hSw; (try dsimp only at hSw); go_simp; (try with_reducible rfl)))
  try simp only [Act.put, List.setIfInBounds_toArray, List.set_cons_zero, List.set_cons_succ]
  (refine wpAnyH_take (i := 15) (oi := ⟨some 43, _, _, _, _, _⟩) (v := ?_) rfl (by kernel_rfl) (by kernel_rfl) (by kernel_rfl) (fun _ _ _ h => h) (Or.inl ⟨by kernel_rfl, ?_⟩) (by assumption) ?_; rotate_left 1; (· intro wx hSw; (try dsimp only at hSw); obtain ⟨y0, y1, y2, y3, yf⟩ := (hx3.call hSw).all; go_simp; (try with_reducible rfl)))
  try simp only [Act.put, List.setIfInBounds_toArray, List.set_cons_zero, List.set_cons_succ]
  (refine wpAnyH_ready (rs := [16]) (by kernel_rfl) (by simp) ?_; refine AllReadyH.cons (o := ⟨some 44, _, _, _, _, _⟩) rfl (fun K hK => ?_) AllReadyH.nil; go_simp; (go_at_call 26; refine (num_5 _).mono ?_; rintro e w4 ⟨rfl, hb4⟩; have hc4 := below_next ((Below.refl _ v3).drew) hb4); go_wp2_with fail; refine hK.out _ _ ?_ (fun hHeld => ?_); (· exact hc4); clear hK K)
  try simp only [Act.put, List.setIfInBounds_toArray, List.set_cons_zero, List.set_cons_succ]
  (refine wpAnyH_ready (rs := [17]) (by kernel_rfl) (by simp) ?_; refine AllReadyH.cons (o := ⟨some 45, _, _, _, _, _⟩) rfl (fun K hK => ?_) AllReadyH.nil; go_simp; (go_at_call 19; refine (same_5 A1 c1 _).mono ?_; rintro e w5 ⟨rfl, hb5⟩; have hc5 := below_next hc4 hb5); go_wp2_with fail; refine hK.out _ _ ?_ (fun hHeld => ?_); (· exact hc5); clear hK K)
  try simp only [Act.put, List.setIfInBounds_toArray, List.set_cons_zero, List.set_cons_succ]
  (refine wpAnyH_take (i := 18) (oi := ⟨some 46, _, _, _, _, _⟩) (v := ?_) rfl (by kernel_rfl) (by kernel_rfl) (by kernel_rfl) (fun _ _ _ h => h) (Or.inl ⟨by kernel_rfl, ?_⟩) (by assumption) ?_; rotate_left 1; (· intro wx hSw; (try dsimp only at hSw); go_simp; (try with_reducible rfl)))
  try simp only [Act.put, List.setIfInBounds_toArray, List.set_cons_zero, List.set_cons_succ]
  (refine wpAnyH_take (i := 19) (oi := ⟨some 0, _, _, _, _, _⟩) (v := ?_) rfl (by kernel_rfl) (by kernel_rfl) (by kernel_rfl) (fun _ _ _ h => h) (Or.inl ⟨by kernel_rfl, ?_⟩) (by assumption) ?_; rotate_left 1; (· intro wx hSw; (try dsimp only at hSw); go_simp; (try with_reducible rfl)))
  try simp only [Act.put, List.setIfInBounds_toArray, List.set_cons_zero]
  refine wpAnyH_done (by kernel_rfl) ?_ _
  try simp only [Act.put, List.setIfInBounds_toArray, List.set_cons_zero, List.set_cons_succ]
  refine NoPanic.normal ?_
  try simp only [Act.put, List.setIfInBounds_toArray, List.set_cons_zero, List.set_cons_succ]
  go_wp2_with fail
  go_ret
  exact ⟨rfl, below_next hB3 hc5⟩
end Go.Proofs.YtikjnbognjicdaaDoor.Dec
