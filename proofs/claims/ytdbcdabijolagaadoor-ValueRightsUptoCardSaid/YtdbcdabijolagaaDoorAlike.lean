/-
  Contracts of value's alike and allAlike, of values that may be. Memory that was there stays. Condition: values of bulk at most 2^30.
-/
import Derived.Test.YtdbcdabijolagaaDoorSpec
import Derived.Test.YtdbcdabijolagaaDoorFoldm
import Derived.BigQuiet
import Derived.Deep.QuietTactic
namespace Go.Proofs.YtdbcdabijolagaaDoor.Val
open Go.RowKit Go.Proofs.YtdbcdabijolagaaDoor.Utf V

theorem Kd.of {w : World} {P : Nat → Prop} {ks : List V} {A : Option Addr} {l c : Nat} (h : Kids false w P ks A l c) (hP : ∀ i, P i → i < w.heap.size) : Kd w ks A l c := h.mono hP
/-- The two kids of a slice of two values. -/
theorem Kids.two {own : Bool} {w : World} {P : Nat → Prop} {k n k' n' : Nat} {t t' : ByteArray} {ks ks' : List V} {A : Option Addr} {l c : Nat} (h : Kids own w P [.mk k n t ks, .mk k' n' t' ks'] A l c) : l = 2 ∧ ∃ b o B1 l1 c1 B2 l2 c2, A = some ⟨b, o, none⟩ ∧ P b ∧
    w.cell? ⟨b, o, none⟩ = some (.int .u8 (k : Int)) ∧ w.cell? ⟨b, o + 1, none⟩ = some (.int .u64 (n : Int)) ∧ w.cell? ⟨b, o + 2, none⟩ = some (.string t) ∧ w.cell? ⟨b, o + 3, none⟩ = some (.slice B1 l1 c1) ∧ k < 256 ∧ n < 18446744073709551616 ∧ Kids own w P ks B1 l1 c1 ∧
    w.cell? ⟨b, o + 4, none⟩ = some (.int .u8 (k' : Int)) ∧ w.cell? ⟨b, o + 4 + 1, none⟩ = some (.int .u64 (n' : Int)) ∧ w.cell? ⟨b, o + 4 + 2, none⟩ = some (.string t') ∧ w.cell? ⟨b, o + 4 + 3, none⟩ = some (.slice B2 l2 c2) ∧ k' < 256 ∧ n' < 18446744073709551616 ∧ Kids own w P ks' B2 l2 c2 := by
  have hl : l = 2 := h.len
  subst hl
  obtain ⟨b, o, rfl, hb, _, hr⟩ := h.2.2 (by omega)
  obtain ⟨r1, r2, _⟩ := hr
  obtain ⟨B1, l1, c1, a0, a1, a2, a3, a4, a5, a6⟩ := repV_iff.1 r1
  obtain ⟨B2, l2, c2, d0, d1, d2, d3, d4, d5, d6⟩ := repV_iff.1 r2
  exact ⟨rfl, b, o, B1, l1, c1, B2, l2, c2, rfl, hb, a0, a1, a2, a3, a4, a5, a6, d0, d1, d2, d3, d4, d5, d6⟩

set_option maxRecDepth 100000 in
set_option maxHeartbeats 1000000 in
theorem valike_any (k n : Nat) (t : ByteArray) (ks : List V) (A : Option Addr) (l c : Nat) (k' n' : Nat) (t' : ByteArray) (ks' : List V) (A' : Option Addr) (l' c' : Nat) (w : World) (hN : bulkL ks ≤ 1073741824)
    (hM : mayB (.mk k n t ks) = true) (hM' : mayB (.mk k' n' t' ks') = true) (hK : Kd w ks A l c) (hK' : Kd w ks' A' l' c') :
    Calls Tryd.prog 63 #[.agg #[.int .u8 k, .int .u64 n, .string t, .slice A l c], .agg #[.int .u8 k', .int .u64 n', .string t', .slice A' l' c']] w (GivesB (alikeB (.mk k n t ks) (.mk k' n' t' ks')) w) := by
  have hB := two_boxes w (.cells #[.int .u8 k, .int .u64 n, .string t, .slice A l c] 25) (.cells #[.int .u8 k', .int .u64 n', .string t', .slice A' l' c'] 25)
  have hb1 := (Box.new w (.int .u8 k) (.int .u64 n) (.string t) (.slice A l c)).alloc (.cells #[.int .u8 k', .int .u64 n', .string t', .slice A' l' c'] 25)
  have hb2 := Box.new2 w (.cells #[.int .u8 k, .int .u64 n, .string t, .slice A l c] 25) (.int .u8 k') (.int .u64 n') (.string t') (.slice A' l' c')
  obtain ⟨q, hq⟩ : ∃ q, alikeB (.mk k n t ks) (.mk k' n' t' ks') = q := ⟨_, rfl⟩
  have HQ := Lib.hid hq
  rw [hq]
  clear hq
  go_enter Tryd.func63, Tryd.ntmps63
  go_wp2
  go_loopg [4] (bulkL ks + 1) (fun g s wr => s = .bool false ∧ ∃ (k1 n1 : Nat) (t1 : ByteArray) (ks1 : List V) (A1 : Option Addr) (l1 c1 k2 n2 : Nat) (t2 : ByteArray) (ks2 : List V) (A2 : Option Addr) (l2 c2 : Nat),
    Box wr w.heap.size (.int .u8 k1) (.int .u64 n1) (.string t1) (.slice A1 l1 c1) ∧ Box wr (w.heap.size + 1) (.int .u8 k2) (.int .u64 n2) (.string t2) (.slice A2 l2 c2) ∧ Kids false wr (fun i => i < w.heap.size) ks1 A1 l1 c1 ∧ Kids false wr (fun i => i < w.heap.size) ks2 A2 l2 c2 ∧
    mayB (.mk k1 n1 t1 ks1) = true ∧ mayB (.mk k2 n2 t2 ks2) = true ∧ alikeB (.mk k1 n1 t1 ks1) (.mk k2 n2 t2 ks2) = q ∧ bulkL ks1 < g ∧ g ≤ 1073741825 ∧ Below w.heap.size w wr)
  case atStart => exact ⟨rfl, k, n, t, ks, A, l, c, k', n', t', ks', A', l', c', hb1, hb2, Kids.keep hK (fun i hi => hB.block i hi), Kids.keep hK' (fun i hi => hB.block i hi), hM, hM', HQ.out, by omega, by omega, hB⟩
  case round =>
    clear hM hM' hK hK' hN hb1 hb2 hB
    obtain ⟨rfl, k1, n1, t1, ks1, A1, l1, c1, k2, n2, t2, ks2, A2, l2, c2, hx, hy, hKx, hKy, hM1, hM2, hqq, hbk, hgk, hb⟩ := hrel
    obtain ⟨p0, p1, p2, p3, pf⟩ := hx.all
    obtain ⟨q0, q1, q2, q3, qf⟩ := hy.all
    have hsz : w.heap.size + 1 < wr.heap.size := hy.lt
    have HQ1 := Lib.hid hqq
    clear hqq
    by_cases e1 : k1 = 25
    · subst e1
      by_cases e2 : k2 = 25
      · subst e2
        obtain ⟨⟨xk, xn, xt, xs⟩, ⟨yk, yn, yt, ys⟩, rfl, _, hxm, hym⟩ := may_desc hM1
        obtain ⟨⟨xk', xn', xt', xs'⟩, ⟨yk', yn', yt', ys'⟩, rfl, _, hxm', hym'⟩ := may_desc hM2
        have hal := HQ1.out
        rw [alikeB_desc] at hal
        have HAL := Lib.hid hal
        simp only [bulkL, bulk] at hbk
        obtain ⟨hl1, b, o, B1, m1, d1, B2, m2, d2, hA1, hbb, a0, a1, a2, a3, a4, a5, aK, v0, v1, v2, v3, v4, v5, vK⟩ := hKx.two
        obtain ⟨hl2, b', o', B1', m1', d1', B2', m2', d2', hA2, hbb', a0', a1', a2', a3', a4', a5', aK', v0', v1', v2', v3', v4', v5', vK'⟩ := hKy.two
        subst hl1; subst hl2; subst hA1; subst hA2
        have hne1 : b ≠ w.heap.size := by omega
        have hne2 : b ≠ w.heap.size + 1 := by omega
        have hne3 : b' ≠ w.heap.size := by omega
        have hne4 : b' ≠ w.heap.size + 1 := by omega
        have hbw : b < wr.heap.size := by omega
        have hbw' : b' < wr.heap.size := by omega
        go_wp2_with fail
        go_still_tail 8, (by kernel_rfl)
        go_wp2_with fail
        refine (vsame_any xk xn xt xs B1 m1 d1 xk' xn' xt' xs' B1' m1' d1' wr.drew (by omega) (Kd.of aK (fun i hi => by omega)).drew (Kd.of aK' (fun i hi => by omega)).drew).mono ?_
        rintro e w2 ⟨rfl, hb2⟩
        have hx2 := hx.drew.call hb2
        have hy2 := hy.drew.call hb2
        obtain ⟨r0, r1, r2, r3, rf⟩ := hx2.all
        obtain ⟨s0, s1, s2, s3, sf⟩ := hy2.all
        have g0 := box_kept (wr := wr.drew) v0 hb2 hbw
        have g1 := box_kept (wr := wr.drew) v1 hb2 hbw
        have g2 := box_kept (wr := wr.drew) v2 hb2 hbw
        have g3 := box_kept (wr := wr.drew) v3 hb2 hbw
        have g0' := box_kept (wr := wr.drew) v0' hb2 hbw'
        have g1' := box_kept (wr := wr.drew) v1' hb2 hbw'
        have g2' := box_kept (wr := wr.drew) v2' hb2 hbw'
        have g3' := box_kept (wr := wr.drew) v3' hb2 hbw'
        have hb3 := below_next (wr := wr.drew) hb.drew hb2
        have hbo : Below w.heap.size wr w2 := ((Below.refl _ wr).drew).trans (hb2.mono (by show w.heap.size ≤ wr.drew.heap.size; simp; omega))
        cases hs : same (.mk xk xn xt xs) (.mk xk' xn' xt' xs') with
        | false =>
          rw [hs, Bool.false_and] at HAL
          clear hs
          go_wp2
          go_ret
          exact ⟨by rw [← HAL.out]; rfl, hb3⟩
        | true =>
          rw [hs, Bool.true_and] at HAL
          clear hs
          go_wp2_with fail
          go_region
          have hb4 : ∀ (a b c d a' b' c' d' : Value), Below w.heap.size w2 ((((((((w2.setCell ⟨w.heap.size, 0, none⟩ a).setCell ⟨w.heap.size, 1, none⟩ b).setCell ⟨w.heap.size, 2, none⟩ c).setCell ⟨w.heap.size, 3, none⟩ d).setCell ⟨w.heap.size + 1, 0, none⟩ a').setCell ⟨w.heap.size + 1, 1, none⟩ b').setCell ⟨w.heap.size + 1, 2, none⟩ c').setCell ⟨w.heap.size + 1, 3, none⟩ d').drew := fun a b c d a' b' c' d' =>
            (below_set4 (below_set4 (Below.refl _ w2) (Nat.le_refl _) a b c d) (by omega) a' b' c' d').drew
          have hbo4 := fun a b c d a' b' c' d' => hbo.trans (hb4 a b c d a' b' c' d')
          go_wp2
          go_roundg (gk - 1)
          case measure => omega
          case rel =>
            exact ⟨rfl, yk, yn, yt, ys, B2, m2, d2, yk', yn', yt', ys', B2', m2', d2', ((hx2.set4 _ _ _ _).far4 (by omega) _ _ _ _).drew, ((hy2.far4 (by omega) _ _ _ _).set4 _ _ _ _).drew,
              vK.keep fun i hi => (hbo4 _ _ _ _ _ _ _ _).block i hi, vK'.keep fun i hi => (hbo4 _ _ _ _ _ _ _ _).block i hi, hym, hym', HAL.out, by omega, by omega, hb.trans (hbo4 _ _ _ _ _ _ _ _)⟩
      · have d2 : ((k2 : Int) == 25) = false := by rw [beq_eq_false_iff_ne]; omega
        have d3 : ((25 : Int) == (k2 : Int)) = false := by rw [beq_eq_false_iff_ne]; omega
        have HA := Lib.hid (alikeB_kind (n := n1) (n' := n2) (t := t1) (t' := t2) (ks := ks1) (ks' := ks2) (fun e : 25 = k2 => e2 e.symm))
        go_wp2
        go_ret
        exact ⟨by rw [← HQ1.out, HA.out]; rfl, hb⟩
    · have d2 : ((k1 : Int) == 25) = false := by rw [beq_eq_false_iff_ne]; omega
      by_cases e3 : k1 = k2
      · subst e3
        have HA := Lib.hid (alikeB_plain (n := n1) (n' := n2) (t := t1) (t' := t2) (ks := ks1) (ks' := ks2) e1)
        go_wp2
        go_ret
        exact ⟨by rw [← HQ1.out, HA.out]; rfl, hb⟩
      · have d3 : ((k1 : Int) == (k2 : Int)) = false := by rw [beq_eq_false_iff_ne]; omega
        have HA := Lib.hid (alikeB_kind (n := n1) (n' := n2) (t := t1) (t' := t2) (ks := ks1) (ks' := ks2) e3)
        go_wp2
        go_ret
        exact ⟨by rw [← HQ1.out, HA.out]; rfl, hb⟩
end Go.Proofs.YtdbcdabijolagaaDoor.Val
