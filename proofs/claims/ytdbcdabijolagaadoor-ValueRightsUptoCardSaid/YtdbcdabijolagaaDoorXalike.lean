/-
  Contract of the document's alike, of values that may be. Memory that was there stays. Condition: values of bulk at most 2^30.
-/
import Derived.Test.YtdbcdabijolagaaDoorElem
import Derived.Deep.RegionHeld3
import Derived.Deep.QuietTactic
import Derived.BigQuiet
import Derived.Deep.DeepCutAuto
namespace Go.Proofs.YtdbcdabijolagaaDoor.Val
open Go.RowKit Go.Proofs.YtdbcdabijolagaaDoor.Utf V

section
variable {W0 w' : World} {g1 g2 b o c b' o' c' n n' xk xn yk yn xk' xn' yk' yn' : Nat} {t t' xt yt xt' yt' : ByteArray} {xs ys xs' ys' : List V} {B1 B2 B1' B2' : Option Addr} {l1 c1 l2 c2 l1' c1' l2' c2' : Nat}
theorem xal_held (B1x : Box W0 g1 (.int .u8 25) (.int .u64 n) (.string t) (.slice (some ⟨b, o, none⟩) 2 c)) (B2x : Box W0 g2 (.int .u8 25) (.int .u64 n') (.string t') (.slice (some ⟨b', o', none⟩) 2 c'))
    (E1 : El W0 b o xk xn xt xs B1 l1 c1) (E2 : El W0 b (o + 4) yk yn yt ys B2 l2 c2) (E1' : El W0 b' o' xk' xn' xt' xs' B1' l1' c1') (E2' : El W0 b' (o' + 4) yk' yn' yt' ys' B2' l2' c2') (hb : Below W0.heap.size W0 w') :
    w'.cell? ⟨g1, 0, none⟩ = some (.int .u8 25) ∧ w'.cell? ⟨g1, 1, none⟩ = some (.int .u64 (n : Int)) ∧ w'.cell? ⟨g1, 2, none⟩ = some (.string t) ∧ w'.cell? ⟨g1, 3, none⟩ = some (.slice (some ⟨b, o, none⟩) 2 c) ∧ w'.cell? ⟨g2, 0, none⟩ = some (.int .u8 25) ∧ w'.cell? ⟨g2, 1, none⟩ = some (.int .u64 (n' : Int)) ∧ w'.cell? ⟨g2, 2, none⟩ = some (.string t') ∧ w'.cell? ⟨g2, 3, none⟩ = some (.slice (some ⟨b', o', none⟩) 2 c') ∧ w'.cell? ⟨b, o, none⟩ = some (.int .u8 (xk : Int)) ∧ w'.cell? ⟨b, o + 1, none⟩ = some (.int .u64 (xn : Int)) ∧ w'.cell? ⟨b, o + 2, none⟩ = some (.string xt) ∧ w'.cell? ⟨b, o + 3, none⟩ = some (.slice B1 l1 c1) ∧ w'.cell? ⟨b, o + 4, none⟩ = some (.int .u8 (yk : Int)) ∧ w'.cell? ⟨b, o + 5, none⟩ = some (.int .u64 (yn : Int)) ∧ w'.cell? ⟨b, o + 6, none⟩ = some (.string yt) ∧ w'.cell? ⟨b, o + 7, none⟩ = some (.slice B2 l2 c2) ∧ w'.cell? ⟨b', o', none⟩ = some (.int .u8 (xk' : Int)) ∧ w'.cell? ⟨b', o' + 1, none⟩ = some (.int .u64 (xn' : Int)) ∧ w'.cell? ⟨b', o' + 2, none⟩ = some (.string xt') ∧ w'.cell? ⟨b', o' + 3, none⟩ = some (.slice B1' l1' c1') ∧ w'.cell? ⟨b', o' + 4, none⟩ = some (.int .u8 (yk' : Int)) ∧ w'.cell? ⟨b', o' + 5, none⟩ = some (.int .u64 (yn' : Int)) ∧ w'.cell? ⟨b', o' + 6, none⟩ = some (.string yt') ∧ w'.cell? ⟨b', o' + 7, none⟩ = some (.slice B2' l2' c2') ∧ Below W0.heap.size W0 w' := by
  obtain ⟨p0, p1, p2, p3, _⟩ := (B1x.call hb).all
  obtain ⟨q0, q1, q2, q3, _⟩ := (B2x.call hb).all
  obtain ⟨a0, a1, a2, a3⟩ := (E1.call hb).cells
  obtain ⟨d0, d1, d2, d3⟩ := (E2.call hb).cells
  obtain ⟨r0, r1, r2, r3⟩ := (E1'.call hb).cells
  exact ⟨p0, p1, p2, p3, q0, q1, q2, q3, a0, a1, a2, a3, d0, d1, d2, d3, r0, r1, r2, r3, E2'.held hb⟩
end
/-- The two kids of what is called something. -/
theorem kd_pair {w : World} {xk xn yk yn : Nat} {xt yt : ByteArray} {xs ys : List V} {A : Option Addr} {l c : Nat} (h : Kd w [.mk xk xn xt xs, .mk yk yn yt ys] A l c) : l = 2 ∧ ∃ b o B1 l1 c1 B2 l2 c2, A = some ⟨b, o, none⟩ ∧ El w b o xk xn xt xs B1 l1 c1 ∧ El w b (o + 4) yk yn yt ys B2 l2 c2 ∧ xk < 256 ∧ xn < 18446744073709551616 := by
  have hl : l = 2 := h.len
  subst hl
  obtain ⟨b, o, k, n, t, ks, B1, l1, c1, rfl, hx, hk, hn, _, E1⟩ := h.el (i := 0) (by omega)
  obtain ⟨b', o', k', n', t', ks', B2, l2, c2, e, hy, _, _, _, E2⟩ := h.el (i := 1) (by omega)
  simp only [Option.some.injEq, Addr.mk.injEq, and_true] at e
  obtain ⟨rfl, rfl⟩ := e
  simp only [List.getElem?_cons_zero, List.getElem?_cons_succ, Option.some.injEq, V.mk.injEq] at hx hy
  obtain ⟨rfl, rfl, rfl, rfl⟩ := hx
  obtain ⟨rfl, rfl, rfl, rfl⟩ := hy
  rw [Nat.zero_mul, Nat.add_zero] at E1
  rw [Nat.one_mul] at E2
  exact ⟨rfl, b, o, B1, l1, c1, B2, l2, c2, rfl, E1, E2, hk, hn⟩

set_option maxRecDepth 100000 in
set_option maxHeartbeats 2000000 in
theorem xalike_any (N : Nat) : ∀ (k n : Nat) (t : ByteArray) (ks : List V) (A : Option Addr) (l c : Nat) (k' n' : Nat) (t' : ByteArray) (ks' : List V) (A' : Option Addr) (l' c' : Nat) (w : World), bulkL ks ≤ N → N ≤ 1073741824 →
    mayB (.mk k n t ks) = true → mayB (.mk k' n' t' ks') = true → Kd w ks A l c → Kd w ks' A' l' c' →
    Calls Tryd.prog 47 #[.agg #[.int .u8 k, .int .u64 n, .string t, .slice A l c], .agg #[.int .u8 k', .int .u64 n', .string t', .slice A' l' c']] w (GivesB (alikeB (.mk k n t ks) (.mk k' n' t' ks')) w) := by
  induction N using Nat.strongRecOn with
  | ind N ih =>
  intro k n t ks A l c k' n' t' ks' A' l' c' w hN hN2 hM hM' hK hK'
  have hB := two_boxes w (.cells #[.int .u8 k, .int .u64 n, .string t, .slice A l c] 25) (.cells #[.int .u8 k', .int .u64 n', .string t', .slice A' l' c'] 25)
  by_cases e1 : k = k'
  · subst e1
    by_cases e2 : k = 25
    · subst e2
      obtain ⟨⟨xk, xn, xt, xs⟩, ⟨yk, yn, yt, ys⟩, rfl, _, hx, hy⟩ := may_desc hM
      obtain ⟨⟨xk', xn', xt', xs'⟩, ⟨yk', yn', yt', ys'⟩, rfl, _, hx', hy'⟩ := may_desc hM'
      have HA := Lib.hid (alikeB_desc n n' t t' (.mk xk xn xt xs) (.mk yk yn yt ys) (.mk xk' xn' xt' xs') (.mk yk' yn' yt' ys') [] [])
      simp only [bulkL, bulk] at hN
      obtain ⟨rfl, b, o, B1, l1, c1, B2, l2, c2, rfl, E1, E2, hk1, hn1⟩ := kd_pair hK
      obtain ⟨rfl, b', o', B1', l1', c1', B2', l2', c2', rfl, E1', E2', hk1', hn1'⟩ := kd_pair hK'
      have B1x : Box ((w.alloc (.cells #[.int .u8 (25 : Nat), .int .u64 n, .string t, .slice (some ⟨b, o, none⟩) 2 c] 25)).alloc (.cells #[.int .u8 (25 : Nat), .int .u64 n', .string t', .slice (some ⟨b', o', none⟩) 2 c'] 25)) w.heap.size (.int .u8 25) (.int .u64 n) (.string t) (.slice (some ⟨b, o, none⟩) 2 c) := (Box.new w _ _ _ _).alloc _
      have B2x : Box ((w.alloc (.cells #[.int .u8 (25 : Nat), .int .u64 n, .string t, .slice (some ⟨b, o, none⟩) 2 c] 25)).alloc (.cells #[.int .u8 (25 : Nat), .int .u64 n', .string t', .slice (some ⟨b', o', none⟩) 2 c'] 25)) (w.heap.size + 1) (.int .u8 25) (.int .u64 n') (.string t') (.slice (some ⟨b', o', none⟩) 2 c') := Box.new2 w _ _ _ _ _
      replace E1 := E1.call hB
      replace E2 := E2.call hB
      replace E1' := E1'.call hB
      replace E2' := E2'.call hB
      obtain ⟨W0, hW0⟩ : ∃ W0, (w.alloc (.cells #[.int .u8 (25 : Nat), .int .u64 n, .string t, .slice (some ⟨b, o, none⟩) 2 c] 25)).alloc (.cells #[.int .u8 (25 : Nat), .int .u64 n', .string t', .slice (some ⟨b', o', none⟩) 2 c'] 25) = W0 := ⟨_, rfl⟩
      rw [hW0] at B1x B2x E1 E2 E1' E2' hB
      have HW0 := Lib.hid hW0
      obtain ⟨q, hq⟩ : ∃ q, same (.mk xk xn xt xs) (.mk xk' xn' xt' xs') = q := ⟨_, rfl⟩
      obtain ⟨r, hr⟩ : ∃ r, alikeB (.mk yk yn yt ys) (.mk yk' yn' yt' ys') = r := ⟨_, rfl⟩
      have HSA : ∀ {W : World}, Below W0.heap.size W0 W → Calls Tryd.prog 15 #[.agg #[.int .u8 xk, .int .u64 xn, .string xt, .slice B1 l1 c1], .agg #[.int .u8 xk', .int .u64 xn', .string xt', .slice B1' l1' c1']] W (GivesB q W) := fun h => hq ▸ xsame_any (bulkL xs) xk xn xt xs B1 l1 c1 xk' xn' xt' xs' B1' l1' c1' _ (Nat.le_refl _) (by omega) hk1 hk1' hn1 hn1' (E1.kd.call h) (E1'.kd.call h)
      have HAL : ∀ {W : World}, Below W0.heap.size W0 W → Calls Tryd.prog 47 #[.agg #[.int .u8 yk, .int .u64 yn, .string yt, .slice B2 l2 c2], .agg #[.int .u8 yk', .int .u64 yn', .string yt', .slice B2' l2' c2']] W (GivesB r W) := fun h => hr ▸ ih (bulkL ys) (by omega) yk yn yt ys B2 l2 c2 yk' yn' yt' ys' B2' l2' c2' _ (Nat.le_refl _) (by omega) hy hy' (E2.kd.call h) (E2'.kd.call h)
      rw [hq, hr] at HA
      clear ih hM hM' hK hK' hx hx' hy hy' hN hq hr hW0
      have hH0 : Below W0.heap.size W0 W0.drew := (Below.refl _ _).drew
      simp only [Int.cast_ofNat_Int] at HW0
      go_enter Tryd.func47, Tryd.ntmps47
      go_upto_region 3 with fail
      rw [HW0.out]
      obtain ⟨g1, hg1⟩ : ∃ g, w.heap.size = g := ⟨_, rfl⟩
      obtain ⟨g2, hg2⟩ : ∃ g, w.heap.size + 1 = g := ⟨_, rfl⟩
      rw [hg2] at B2x
      rw [hg1] at B1x
      rw [hg2, hg1]
      go_cut [4] (fun s4 wx => s4 = .bool (q && r) ∧ Below W0.heap.size W0 wx)
      case first =>
        cases q
        · refine wp_region_noPanic ?_
          refine wp_region_held_drew (S := fun wx => wx.cell? ⟨g1, 0, none⟩ = some (.int .u8 25) ∧ wx.cell? ⟨g1, 1, none⟩ = some (.int .u64 (n : Int)) ∧ wx.cell? ⟨g1, 2, none⟩ = some (.string t) ∧ wx.cell? ⟨g1, 3, none⟩ = some (.slice (some ⟨b, o, none⟩) 2 c) ∧ wx.cell? ⟨g2, 0, none⟩ = some (.int .u8 25) ∧ wx.cell? ⟨g2, 1, none⟩ = some (.int .u64 (n' : Int)) ∧ wx.cell? ⟨g2, 2, none⟩ = some (.string t') ∧ wx.cell? ⟨g2, 3, none⟩ = some (.slice (some ⟨b', o', none⟩) 2 c') ∧ wx.cell? ⟨b, o, none⟩ = some (.int .u8 (xk : Int)) ∧ wx.cell? ⟨b, o + 1, none⟩ = some (.int .u64 (xn : Int)) ∧ wx.cell? ⟨b, o + 2, none⟩ = some (.string xt) ∧ wx.cell? ⟨b, o + 3, none⟩ = some (.slice B1 l1 c1) ∧ wx.cell? ⟨b, o + 4, none⟩ = some (.int .u8 (yk : Int)) ∧ wx.cell? ⟨b, o + 5, none⟩ = some (.int .u64 (yn : Int)) ∧ wx.cell? ⟨b, o + 6, none⟩ = some (.string yt) ∧ wx.cell? ⟨b, o + 7, none⟩ = some (.slice B2 l2 c2) ∧ wx.cell? ⟨b', o', none⟩ = some (.int .u8 (xk' : Int)) ∧ wx.cell? ⟨b', o' + 1, none⟩ = some (.int .u64 (xn' : Int)) ∧ wx.cell? ⟨b', o' + 2, none⟩ = some (.string xt') ∧ wx.cell? ⟨b', o' + 3, none⟩ = some (.slice B1' l1' c1') ∧ wx.cell? ⟨b', o' + 4, none⟩ = some (.int .u8 (yk' : Int)) ∧ wx.cell? ⟨b', o' + 5, none⟩ = some (.int .u64 (yn' : Int)) ∧ wx.cell? ⟨b', o' + 6, none⟩ = some (.string yt') ∧ wx.cell? ⟨b', o' + 7, none⟩ = some (.slice B2' l2' c2') ∧ Below W0.heap.size W0 wx) (by kernel_rfl) (by exact xal_held B1x B2x E1 E2 E1' E2' hH0) (fun hHeld => ?_)
          (refine wpAnyH_take (i := 0) (oi := ⟨some 10, _, _, _, _, _⟩) (v := ?_) rfl (by kernel_rfl) (by kernel_rfl) (by kernel_rfl) (fun _ _ _ h => h) (Or.inl ⟨by kernel_rfl, ?_⟩) (by assumption) ?_; rotate_left 1; (· intro w hSw; (try dsimp only at hSw); go_simp; (try with_reducible rfl)))
          try simp only [Act.put, List.setIfInBounds_toArray, List.set_cons_zero, List.set_cons_succ]
          (refine wpAnyH_take (i := 1) (oi := ⟨some 11, _, _, _, _, _⟩) (v := ?_) rfl (by kernel_rfl) (by kernel_rfl) (by kernel_rfl) (fun _ _ _ h => h) (Or.inl ⟨by kernel_rfl, ?_⟩) (by assumption) ?_; rotate_left 1; (· intro w hSw; (try dsimp only at hSw); go_simp; (try with_reducible rfl)))
          try simp only [Act.put, List.setIfInBounds_toArray, List.set_cons_zero, List.set_cons_succ]
          (refine wpAnyH_take (i := 2) (oi := ⟨some 12, _, _, _, _, _⟩) (v := ?_) rfl (by kernel_rfl) (by kernel_rfl) (by kernel_rfl) (fun _ _ _ h => h) (Or.inl ⟨by kernel_rfl, ?_⟩) (by assumption) ?_; rotate_left 1; (· intro w hSw; (try dsimp only at hSw); go_simp; (try with_reducible rfl)))
          try simp only [Act.put, List.setIfInBounds_toArray, List.set_cons_zero, List.set_cons_succ]
          (refine wpAnyH_take (i := 3) (oi := ⟨some 13, _, _, _, _, _⟩) (v := ?_) rfl (by kernel_rfl) (by kernel_rfl) (by kernel_rfl) (fun _ _ _ h => h) (Or.inl ⟨by kernel_rfl, ?_⟩) (by assumption) ?_; rotate_left 1; (· intro w hSw; (try dsimp only at hSw); go_simp; (try with_reducible rfl)))
          try simp only [Act.put, List.setIfInBounds_toArray, List.set_cons_zero, List.set_cons_succ]
          (refine wpAnyH_take (i := 4) (oi := ⟨some 14, _, _, _, _, _⟩) (v := ?_) rfl (by kernel_rfl) (by kernel_rfl) (by kernel_rfl) (fun _ _ _ h => h) (Or.inl ⟨by kernel_rfl, ?_⟩) (by assumption) ?_; rotate_left 1; (· intro w hSw; (try dsimp only at hSw); go_simp; (try with_reducible rfl)))
          try simp only [Act.put, List.setIfInBounds_toArray, List.set_cons_zero, List.set_cons_succ]
          (refine wpAnyH_take (i := 5) (oi := ⟨some 15, _, _, _, _, _⟩) (v := ?_) rfl (by kernel_rfl) (by kernel_rfl) (by kernel_rfl) (fun _ _ _ h => h) (Or.inl ⟨by kernel_rfl, ?_⟩) (by assumption) ?_; rotate_left 1; (· intro w hSw; (try dsimp only at hSw); go_simp; (try with_reducible rfl)))
          try simp only [Act.put, List.setIfInBounds_toArray, List.set_cons_zero, List.set_cons_succ]
          (refine wpAnyH_take (i := 6) (oi := ⟨some 16, _, _, _, _, _⟩) (v := ?_) rfl (by kernel_rfl) (by kernel_rfl) (by kernel_rfl) (fun _ _ _ h => h) (Or.inl ⟨by kernel_rfl, ?_⟩) (by assumption) ?_; rotate_left 1; (· intro w hSw; (try dsimp only at hSw); go_simp; (try with_reducible rfl)))
          try simp only [Act.put, List.setIfInBounds_toArray, List.set_cons_zero, List.set_cons_succ]
          (refine wpAnyH_take (i := 7) (oi := ⟨some 17, _, _, _, _, _⟩) (v := ?_) rfl (by kernel_rfl) (by kernel_rfl) (by kernel_rfl) (fun _ _ _ h => h) (Or.inl ⟨by kernel_rfl, ?_⟩) (by assumption) ?_; rotate_left 1; (· intro w hSw; (try dsimp only at hSw); go_simp; (try with_reducible rfl)))
          try simp only [Act.put, List.setIfInBounds_toArray, List.set_cons_zero, List.set_cons_succ]
          (refine wpAnyH_take (i := 8) (oi := ⟨some 18, _, _, _, _, _⟩) (v := ?_) rfl (by kernel_rfl) (by kernel_rfl) (by kernel_rfl) (fun _ _ _ h => h) (Or.inl ⟨by kernel_rfl, ?_⟩) (by assumption) ?_; rotate_left 1; (· intro w hSw; (try dsimp only at hSw); go_simp; (try with_reducible rfl)))
          try simp only [Act.put, List.setIfInBounds_toArray, List.set_cons_zero, List.set_cons_succ]
          (refine wpAnyH_take (i := 9) (oi := ⟨some 19, _, _, _, _, _⟩) (v := ?_) rfl (by kernel_rfl) (by kernel_rfl) (by kernel_rfl) (fun _ _ _ h => h) (Or.inl ⟨by kernel_rfl, ?_⟩) (by assumption) ?_; rotate_left 1; (· intro w hSw; (try dsimp only at hSw); go_simp; (try with_reducible rfl)))
          try simp only [Act.put, List.setIfInBounds_toArray, List.set_cons_zero, List.set_cons_succ]
          (refine wpAnyH_take (i := 10) (oi := ⟨some 20, _, _, _, _, _⟩) (v := ?_) rfl (by kernel_rfl) (by kernel_rfl) (by kernel_rfl) (fun _ _ _ h => h) (Or.inl ⟨by kernel_rfl, ?_⟩) (by assumption) ?_; rotate_left 1; (· intro w hSw; (try dsimp only at hSw); go_simp; (try with_reducible rfl)))
          try simp only [Act.put, List.setIfInBounds_toArray, List.set_cons_zero, List.set_cons_succ]
          (refine wpAnyH_take (i := 11) (oi := ⟨some 21, _, _, _, _, _⟩) (v := ?_) rfl (by kernel_rfl) (by kernel_rfl) (by kernel_rfl) (fun _ _ _ h => h) (Or.inl ⟨by kernel_rfl, ?_⟩) (by assumption) ?_; rotate_left 1; (· intro w hSw; (try dsimp only at hSw); go_simp; (try with_reducible rfl)))
          try simp only [Act.put, List.setIfInBounds_toArray, List.set_cons_zero, List.set_cons_succ]
          (refine wpAnyH_ready (rs := [12]) (by kernel_rfl) (by simp) ?_; refine AllReadyH.cons (o := ⟨some 22, _, _, _, _, _⟩) rfl (fun K hK => ?_) AllReadyH.nil; go_simp; (go_at_call 15; (with_reducible refine (HSA hH0).mono ?_); rintro e w1 ⟨rfl, hb1⟩; have hc1 := below_next hH0 hb1); go_wp2_with fail; refine hK.out _ _ ?_ (fun hHeld => ?_); (· exact xal_held B1x B2x E1 E2 E1' E2' hc1); clear hK K)
          try simp only [Act.put, List.setIfInBounds_toArray, List.set_cons_zero, List.set_cons_succ]
          (refine wpAnyH_take (i := 13) (oi := ⟨some 23, _, _, _, _, _⟩) (v := ?_) rfl (by kernel_rfl) (by kernel_rfl) (by kernel_rfl) (fun _ _ _ h => h) (Or.inl ⟨by kernel_rfl, ?_⟩) (by assumption) ?_; rotate_left 1; (· intro w hSw; (try dsimp only at hSw); go_simp; (try with_reducible rfl)))
          try simp only [Act.put, List.setIfInBounds_toArray, List.set_cons_zero, List.set_cons_succ]
          (refine wpAnyH_take (i := 14) (oi := ⟨some 24, _, _, _, _, _⟩) (v := undef) rfl (by kernel_rfl) (by kernel_rfl) (by kernel_rfl) (fun _ _ _ h => h) (Or.inr ⟨by kernel_rfl, rfl⟩) (by assumption) ?_)
          try simp only [Act.put, List.setIfInBounds_toArray, List.set_cons_zero, List.set_cons_succ]
          (refine wpAnyH_take (i := 15) (oi := ⟨some 25, _, _, _, _, _⟩) (v := undef) rfl (by kernel_rfl) (by kernel_rfl) (by kernel_rfl) (fun _ _ _ h => h) (Or.inr ⟨by kernel_rfl, rfl⟩) (by assumption) ?_)
          try simp only [Act.put, List.setIfInBounds_toArray, List.set_cons_zero, List.set_cons_succ]
          (refine wpAnyH_take (i := 16) (oi := ⟨some 26, _, _, _, _, _⟩) (v := undef) rfl (by kernel_rfl) (by kernel_rfl) (by kernel_rfl) (fun _ _ _ h => h) (Or.inr ⟨by kernel_rfl, rfl⟩) (by assumption) ?_)
          try simp only [Act.put, List.setIfInBounds_toArray, List.set_cons_zero, List.set_cons_succ]
          (refine wpAnyH_take (i := 17) (oi := ⟨some 27, _, _, _, _, _⟩) (v := undef) rfl (by kernel_rfl) (by kernel_rfl) (by kernel_rfl) (fun _ _ _ h => h) (Or.inr ⟨by kernel_rfl, rfl⟩) (by assumption) ?_)
          try simp only [Act.put, List.setIfInBounds_toArray, List.set_cons_zero, List.set_cons_succ]
          (refine wpAnyH_take (i := 18) (oi := ⟨some 28, _, _, _, _, _⟩) (v := undef) rfl (by kernel_rfl) (by kernel_rfl) (by kernel_rfl) (fun _ _ _ h => h) (Or.inr ⟨by kernel_rfl, rfl⟩) (by assumption) ?_)
          try simp only [Act.put, List.setIfInBounds_toArray, List.set_cons_zero, List.set_cons_succ]
          (refine wpAnyH_take (i := 19) (oi := ⟨some 29, _, _, _, _, _⟩) (v := undef) rfl (by kernel_rfl) (by kernel_rfl) (by kernel_rfl) (fun _ _ _ h => h) (Or.inr ⟨by kernel_rfl, rfl⟩) (by assumption) ?_)
          try simp only [Act.put, List.setIfInBounds_toArray, List.set_cons_zero, List.set_cons_succ]
          (refine wpAnyH_take (i := 20) (oi := ⟨some 30, _, _, _, _, _⟩) (v := undef) rfl (by kernel_rfl) (by kernel_rfl) (by kernel_rfl) (fun _ _ _ h => h) (Or.inr ⟨by kernel_rfl, rfl⟩) (by assumption) ?_)
          try simp only [Act.put, List.setIfInBounds_toArray, List.set_cons_zero, List.set_cons_succ]
          (refine wpAnyH_take (i := 21) (oi := ⟨some 31, _, _, _, _, _⟩) (v := undef) rfl (by kernel_rfl) (by kernel_rfl) (by kernel_rfl) (fun _ _ _ h => h) (Or.inr ⟨by kernel_rfl, rfl⟩) (by assumption) ?_)
          try simp only [Act.put, List.setIfInBounds_toArray, List.set_cons_zero, List.set_cons_succ]
          (refine wpAnyH_take (i := 22) (oi := ⟨some 32, _, _, _, _, _⟩) (v := undef) rfl (by kernel_rfl) (by kernel_rfl) (by kernel_rfl) (fun _ _ _ h => h) (Or.inr ⟨by kernel_rfl, rfl⟩) (by assumption) ?_)
          try simp only [Act.put, List.setIfInBounds_toArray, List.set_cons_zero, List.set_cons_succ]
          (refine wpAnyH_take (i := 23) (oi := ⟨some 33, _, _, _, _, _⟩) (v := ?_) rfl (by kernel_rfl) (by kernel_rfl) (by kernel_rfl) (fun _ _ _ h => h) (Or.inl ⟨by kernel_rfl, ?_⟩) (by assumption) ?_; rotate_left 1; (· intro w hSw; (try dsimp only at hSw); go_simp; (try with_reducible rfl)))
          try simp only [Act.put, List.setIfInBounds_toArray, List.set_cons_zero, List.set_cons_succ]
          (refine wpAnyH_take (i := 24) (oi := ⟨some 34, _, _, _, _, _⟩) (v := ?_) rfl (by kernel_rfl) (by kernel_rfl) (by kernel_rfl) (fun _ _ _ h => h) (Or.inl ⟨by kernel_rfl, ?_⟩) (by assumption) ?_; rotate_left 1; (· intro w hSw; (try dsimp only at hSw); go_simp; (try with_reducible rfl)))
          try simp only [Act.put, List.setIfInBounds_toArray, List.set_cons_zero, List.set_cons_succ]
          (refine wpAnyH_take (i := 25) (oi := ⟨some 4, _, _, _, _, _⟩) (v := ?_) rfl (by kernel_rfl) (by kernel_rfl) (by kernel_rfl) (fun _ _ _ h => h) (Or.inl ⟨by kernel_rfl, ?_⟩) (by assumption) ?_; rotate_left 1; (· intro w hSw; (try dsimp only at hSw); go_simp; (try with_reducible rfl)))
          try simp only [Act.put, List.setIfInBounds_toArray, List.set_cons_zero, List.set_cons_succ]
          refine wpAnyH_done (by kernel_rfl) ?_ _
          refine NoPanic.normal ?_
          go_wp2_with fail
          go_meet
          exact ⟨rfl, hc1⟩
        · go_region_held3 (fun wx => wx.cell? ⟨g1, 0, none⟩ = some (.int .u8 25) ∧ wx.cell? ⟨g1, 1, none⟩ = some (.int .u64 (n : Int)) ∧ wx.cell? ⟨g1, 2, none⟩ = some (.string t) ∧ wx.cell? ⟨g1, 3, none⟩ = some (.slice (some ⟨b, o, none⟩) 2 c) ∧ wx.cell? ⟨g2, 0, none⟩ = some (.int .u8 25) ∧ wx.cell? ⟨g2, 1, none⟩ = some (.int .u64 (n' : Int)) ∧ wx.cell? ⟨g2, 2, none⟩ = some (.string t') ∧ wx.cell? ⟨g2, 3, none⟩ = some (.slice (some ⟨b', o', none⟩) 2 c') ∧ wx.cell? ⟨b, o, none⟩ = some (.int .u8 (xk : Int)) ∧ wx.cell? ⟨b, o + 1, none⟩ = some (.int .u64 (xn : Int)) ∧ wx.cell? ⟨b, o + 2, none⟩ = some (.string xt) ∧ wx.cell? ⟨b, o + 3, none⟩ = some (.slice B1 l1 c1) ∧ wx.cell? ⟨b, o + 4, none⟩ = some (.int .u8 (yk : Int)) ∧ wx.cell? ⟨b, o + 5, none⟩ = some (.int .u64 (yn : Int)) ∧ wx.cell? ⟨b, o + 6, none⟩ = some (.string yt) ∧ wx.cell? ⟨b, o + 7, none⟩ = some (.slice B2 l2 c2) ∧ wx.cell? ⟨b', o', none⟩ = some (.int .u8 (xk' : Int)) ∧ wx.cell? ⟨b', o' + 1, none⟩ = some (.int .u64 (xn' : Int)) ∧ wx.cell? ⟨b', o' + 2, none⟩ = some (.string xt') ∧ wx.cell? ⟨b', o' + 3, none⟩ = some (.slice B1' l1' c1') ∧ wx.cell? ⟨b', o' + 4, none⟩ = some (.int .u8 (yk' : Int)) ∧ wx.cell? ⟨b', o' + 5, none⟩ = some (.int .u64 (yn' : Int)) ∧ wx.cell? ⟨b', o' + 6, none⟩ = some (.string yt') ∧ wx.cell? ⟨b', o' + 7, none⟩ = some (.slice B2' l2' c2') ∧ Below W0.heap.size W0 wx) (with_reducible first | assumption | exact xal_held B1x B2x E1 E2 E1' E2' hH0 | exact xal_held B1x B2x E1 E2 E1' E2' hc2 | exact xal_held B1x B2x E1 E2 E1' E2' hc1 | fail)
            (first
            | (go_at_call 15; (with_reducible refine (HSA hH0).mono ?_); rintro e w1 ⟨rfl, hb1⟩; have hc1 := below_next hH0 hb1)
            | (go_at_call 47; (with_reducible refine (HAL hc1).mono ?_); rintro e w2 ⟨rfl, hb2⟩; have hc2 := below_next hc1 hb2)
            | fail)
          all_goals
            go_wp2_with fail
            go_meet
            exact ⟨by simp, hc2⟩
      case rest =>
        obtain ⟨rfl, hb3⟩ := hcut
        go_wp2
        go_ret
        exact ⟨by rw [HA.out]; rfl, below_next hB hb3⟩
    · have HA := Lib.hid (alikeB_plain (n := n) (n' := n') (t := t) (t' := t') (ks := ks) (ks' := ks') e2)
      have d1 : ((k : Int) != 25) = true := by rw [bne_iff_ne]; omega
      clear ih hM hM' e2
      go_enter Tryd.func47, Tryd.ntmps47
      go_wp2_with fail
      go_quiet (fail)
      go_wp2
      go_ret
      exact ⟨by rw [HA.out]; rfl, below_drewN hB _⟩
  · have HA := Lib.hid (alikeB_kind (n := n) (n' := n') (t := t) (t' := t') (ks := ks) (ks' := ks') e1)
    have d1 : ((k : Int) != (k' : Int)) = true := by rw [bne_iff_ne]; omega
    clear ih hM hM' e1
    go_enter Tryd.func47, Tryd.ntmps47
    go_wp2
    go_ret
    exact ⟨by rw [HA.out]; rfl, hB⟩
end Go.Proofs.YtdbcdabijolagaaDoor.Val
