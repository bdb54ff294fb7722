/-
  The walk of the statement ValueRights: which values may be. Conditions: the table utf.shapes lies as the program's text lays it; values of bulk at most 2^20.
-/
import Derived.Test.YtdbcdabijolagaaDoorXmay
import Derived.Test.YtdbcdabijolagaaDoorLarge
namespace Go.Proofs.YtdbcdabijolagaaDoor.valueRights
open Go.RowKit Go.Proofs.YtdbcdabijolagaaDoor.Utf Go.Proofs.YtdbcdabijolagaaDoor.Val V

theorem le30 {n : Nat} (h : n ≤ 1048576) : n ≤ 1073741824 := by omega
theorem tab_call {w w' : World} (h : Tab w) (hb : Below w.heap.size w w') : Tab w' := h.call hb
theorem ok_parts (k n : Nat) (t : ByteArray) (ks : List V) : okB (.mk k n t ks) = (decide (itemsL ks + 1 ≤ 1024) && decide (depthL ks + 1 ≤ 16) && mayB (.mk k n t ks)) := by
  rw [okB, items_mk, depth_mk]

set_option maxRecDepth 100000 in
set_option maxHeartbeats 800000 in
theorem xright_any (k n : Nat) (t : ByteArray) (ks : List V) (A : Option Addr) (l c : Nat) (w : World) (hN : bulk (.mk k n t ks) ≤ 1048576) (hn : n < 18446744073709551616) (hK : Kd w ks A l c) :
    Calls Tryd.prog 14 #[.agg #[.int .u8 k, .int .u64 n, .string t, .slice A l c]] w (GivesB (okB (.mk k n t ks)) w) := by
  have hB : Below w.heap.size w (w.alloc (.cells #[.int .u8 k, .int .u64 n, .string t, .slice A l c] 25)) := (Below.refl _ _).alloc (Nat.le_refl _) _
  have b0 := Box.new w (.int .u8 k) (.int .u64 n) (.string t) (.slice A l c)
  have hK0 := hK.alloc (.cells #[.int .u8 k, .int .u64 n, .string t, .slice A l c] 25)
  have hN1 : bulkL ks ≤ 1048576 := by simp only [bulk] at hN; omega
  have hN2 : t.size ≤ 1048576 := by simp only [bulk] at hN; omega
  have hi := itemsL_le ks
  have hd := depthL_le ks
  have HO := Lib.hid (ok_parts k n t ks)
  obtain ⟨r, hr⟩ : ∃ r, mayB (.mk k n t ks) = r := ⟨_, rfl⟩
  obtain ⟨I, hI⟩ : ∃ I, itemsL ks + 1 = I := ⟨_, rfl⟩
  obtain ⟨D, hD⟩ : ∃ D, depthL ks + 1 = D := ⟨_, rfl⟩
  rw [hr, hI, hD] at HO
  have e1 := dec_nat' I 1024
  have e2 := dec_nat' D 16
  obtain ⟨p, hp⟩ : ∃ p, decide (I ≤ 1024) = p := ⟨_, rfl⟩
  obtain ⟨q, hq⟩ : ∃ q, decide (D ≤ 16) = q := ⟨_, rfl⟩
  rw [hp, hq] at HO
  rw [hp] at e1
  rw [hq] at e2
  simp only [Int.cast_ofNat_Int] at e1 e2
  have HI := Lib.hid hI
  have HD := Lib.hid hD
  have HR := Lib.hid hr
  have HN1 := Lib.hid hN1
  have HN2 := Lib.hid hN2
  have HNN := Lib.hid hn
  clear hN hn hr hI hD hp hq hi hd hN1 hN2 hK
  have cc := b0.all
  obtain ⟨p0, p1, p2, p3, pf⟩ := cc
  go_enter Tryd.func14, Tryd.ntmps14
  cases p <;> cases q
  all_goals
    go_wp2_with (first
      | (go_at_call 31; (with_reducible refine (xitems_any (bulkL ks) k n t ks A l c _ (Nat.le_refl _) (Nat.le_trans HN1.out (by decide)) hK0).mono ?_); rw [HI.out]; rintro e w1 ⟨rfl, hb1⟩; have hK1 := hK0.call hb1; have hB := below_next hB hb1; have b1 := b0.call hb1; have cc := b1.all; obtain ⟨p0, p1, p2, p3, pf⟩ := cc)
      | (go_at_call 29; (with_reducible refine (xdepth_any (bulkL ks) k n t ks A l c _ (Nat.le_refl _) (Nat.le_trans HN1.out (by decide)) hK1).mono ?_); rw [HD.out]; rintro e w2 ⟨rfl, hb2⟩; have hK2 := hK1.call hb2; have hB := below_next hB hb2; have b2 := b1.call hb2; have cc := b2.all; obtain ⟨p0, p1, p2, p3, pf⟩ := cc)
      | (go_at_call 35; (with_reducible refine (xmay_any (bulkL ks) k n t ks A l c _ (Nat.le_refl _) (le30 HN1.out) (le30 HN2.out) HNN.out hK2).mono ?_); rw [HR.out]; rintro e w3 ⟨rfl, hb3⟩; have hB := below_next hB hb3))
    go_ret
    exact ⟨by rw [HO.out]; rfl, hB⟩

theorem held2b {w w' : World} {g1 g2 : Nat} {x0 x1 x2 x3 y0 y1 y2 y3 : Value} (h1 : Box w g1 x0 x1 x2 x3) (h2 : Box w g2 y0 y1 y2 y3) (hb : Below w.heap.size w w') :
    w'.cell? ⟨g1, 0, none⟩ = some (x0) ∧ w'.cell? ⟨g1, 1, none⟩ = some (x1) ∧ w'.cell? ⟨g1, 2, none⟩ = some (x2) ∧ w'.cell? ⟨g1, 3, none⟩ = some (x3) ∧ w'.cell? ⟨g2, 0, none⟩ = some (y0) ∧ w'.cell? ⟨g2, 1, none⟩ = some (y1) ∧ w'.cell? ⟨g2, 2, none⟩ = some (y2) ∧ w'.cell? ⟨g2, 3, none⟩ = some (y3) ∧ Below w.heap.size w w' := by
  obtain ⟨a0, a1, a2, a3, _⟩ := (h1.call hb).all
  obtain ⟨b0, b1, b2, b3, _⟩ := (h2.call hb).all
  exact ⟨a0, a1, a2, a3, b0, b1, b2, b3, hb⟩
/-- A value on its own, in a new row. -/
theorem kids_one {w : World} {k n : Nat} {t : ByteArray} {ks : List V} {A : Option Addr} {l c : Nat} (hk : k < 256) (hn : n < 18446744073709551616) (hK : Kd w ks A l c) : Kd (w.alloc (.cells #[.int .u8 k, .int .u64 n, .string t, .slice A l c] 25)) [.mk k n t ks] (some ⟨w.heap.size, 0, none⟩) 1 1 := by
  refine ⟨rfl, Nat.le_refl _, fun _ => ⟨w.heap.size, 0, rfl, by simp, fun h => (by cases h), ?_⟩⟩
  exact ⟨repV_iff.2 ⟨A, l, c, by simp, by simp, by simp, by simp, hk, hn, hK.alloc _⟩, trivial⟩

set_option maxRecDepth 100000 in
set_option maxHeartbeats 2000000 in
theorem walk (k n : Nat) (t : ByteArray) (ks : List V) (A : Option Addr) (l c : Nat) (w : World) (ht : Tab w) (hN : bulk (.mk k n t ks) ≤ 1048576) (hk : k < 256) (hn : n < 18446744073709551616) (hK : Kd w ks A l c) :
    Calls Tryd.prog 3 #[.agg #[.int .u8 k, .int .u64 n, .string t, .slice A l c]] w (GivesB true w) := by
  have hB : Below w.heap.size w (w.alloc (.cells #[.int .u8 k, .int .u64 n, .string t, .slice A l c] 25)) := (Below.refl _ _).alloc (Nat.le_refl _) _
  have B1 := (Box.new w (.int .u8 k) (.int .u64 n) (.string t) (.slice A l c)).alloc (.cells #[.int .u8 k, .int .u64 n, .string t, .slice A l c] 25)
  have hKL := kids_one (t := t) hk hn (hK.call hB)
  have hbL : bulkL [V.mk k n t ks] ≤ 1048576 := by simp only [bulkL]; omega
  obtain ⟨p, hp⟩ : ∃ p, decide (8192 < bigL [V.mk k n t ks]) = p := ⟨_, rfl⟩
  have HL := large_any _ _ 1 1 _ (by omega) hKL
  rw [hp] at HL
  have hBL := hB.alloc hB.size (.cells #[.int .u8 k, .int .u64 n, .string t, .slice A l c] 25)
  have HL := Lib.hid (by have := HL; simp only [World.size_alloc] at this; exact this)
  obtain ⟨W0, hW0⟩ : ∃ W0, (w.alloc (.cells #[.int .u8 k, .int .u64 n, .string t, .slice A l c] 25)).alloc (.cells #[.int .u8 k, .int .u64 n, .string t, .slice A l c] 25) = W0 := ⟨_, rfl⟩
  rw [hW0] at HL B1 hBL
  have HW0 := Lib.hid hW0
  have hN1 : bulkL ks ≤ 1048576 := by simp only [bulk] at hN; omega
  have hN2 : t.size ≤ 1048576 := by simp only [bulk] at hN; omega
  have HN := Lib.hid hN
  have HN1 := Lib.hid hN1
  have HN2 := Lib.hid hN2
  have HNN := Lib.hid hn
  have HKK := Lib.hid hk
  clear hp hN hn hKL hbL hW0 hB hN1 hN2 hk
  go_enter Tryd.func3, Tryd.ntmps3
  go_wp2_with fail
  rw [HW0.out]
  refine HL.out.mono ?_
  rintro e w1 ⟨rfl, hq1⟩
  have hq := below_next hBL hq1
  have hT1 := ht.call hq
  clear HL
  cases p with
  | true =>
    go_wp2_with (go_at_call 11; (with_reducible refine (works_any _ hT1).mono ?_); rintro e w3 ⟨rfl, hb3⟩)
    go_ret
    exact ⟨rfl, below_next hq hb3⟩
  | false =>
    replace B1 := B1.call hq1
    have hK1 := hK.call hq
    have cc := B1.all
    obtain ⟨p0, p1, p2, p3, pf⟩ := cc
    clear hq1 hBL hT1 hK
    go_wp2_with fail
    refine (xcopy_any k n t ks A l c w1 (le30 HN1.out) hK1).mono ?_
    rintro e w2 ⟨A2, l2, c2, rfl, hN2, hb2⟩
    have hz := (below_next hq hb2).alloc (below_next hq hb2).size (.cells #[.int .u8 k, .int .u64 n, .string t, .slice A2 l2 c2] 25)
    have B3 := Box.new w2 (.int .u8 k) (.int .u64 n) (.string t) (.slice A2 l2 c2)
    have hKw := hN2.kd.alloc (.cells #[.int .u8 k, .int .u64 n, .string t, .slice A2 l2 c2] 25)
    have hK2 := (hK1.call hb2).alloc (.cells #[.int .u8 k, .int .u64 n, .string t, .slice A2 l2 c2] 25)
    replace B1 := (B1.call hb2).alloc (.cells #[.int .u8 k, .int .u64 n, .string t, .slice A2 l2 c2] 25)
    clear hN2 hb2 hq hK1 p0 p1 p2 p3 pf
    go_wp2_with fail
    obtain ⟨g3, hg3⟩ : ∃ g, w2.heap.size = g := ⟨_, rfl⟩
    obtain ⟨g1, hg1⟩ : ∃ g, w.heap.size = g := ⟨_, rfl⟩
    obtain ⟨W3, hW3⟩ : ∃ W, w2.alloc (.cells #[.int .u8 k, .int .u64 n, .string t, .slice A2 l2 c2] 25) = W := ⟨_, rfl⟩
    rw [hg3] at B3
    rw [hg1] at B1
    rw [hW3] at hz B1 B3 hKw hK2
    rw [hg3, hg1, hW3]
    clear hg3 hg1 hW3
    have hT3 := ht.call hz
    obtain ⟨q, hq⟩ : ∃ q, okB (.mk k n t ks) = q := ⟨_, rfl⟩
    have HQ := Lib.hid hq
    clear hq
    have hH0 : Below W3.heap.size W3 W3.drew := (Below.refl _ _).drew
    have hc0 := hH0
    go_region_held3 (fun wx => wx.cell? ⟨g1, 0, none⟩ = some (.int .u8 (k : Int)) ∧ wx.cell? ⟨g1, 1, none⟩ = some (.int .u64 (n : Int)) ∧ wx.cell? ⟨g1, 2, none⟩ = some (.string t) ∧ wx.cell? ⟨g1, 3, none⟩ = some (.slice A l c) ∧ wx.cell? ⟨g3, 0, none⟩ = some (.int .u8 (k : Int)) ∧ wx.cell? ⟨g3, 1, none⟩ = some (.int .u64 (n : Int)) ∧ wx.cell? ⟨g3, 2, none⟩ = some (.string t) ∧ wx.cell? ⟨g3, 3, none⟩ = some (.slice A2 l2 c2) ∧ Below W3.heap.size W3 wx) (with_reducible first | assumption | exact held2b B1 B3 hH0 | exact held2b B1 B3 hc4 | exact held2b B1 B3 hc3 | exact held2b B1 B3 hc2 | exact held2b B1 B3 hc1 | fail)
      (first
      | (go_at_call 13; (with_reducible refine (vright_any k n t ks A2 l2 c2 _ (le30 HN1.out) (le30 HN2.out) HNN.out (hKw.call hc0) (tab_call hT3 hc0)).mono ?_); rw [HQ.out]; rintro e w1 ⟨rfl, hb1⟩; have hc1 := below_next hc0 hb1)
      | (go_at_call 14; (with_reducible refine (xright_any k n t ks A l c _ HN.out HNN.out (hK2.call hc1)).mono ?_); rw [HQ.out]; rintro e w2 ⟨rfl, hb2⟩; have hc2 := below_next hc1 hb2)
      | (go_at_call 15; (with_reducible refine (xsame_any (bulkL ks) k n t ks A2 l2 c2 k n t ks A l c _ (Nat.le_refl _) (Nat.le_trans HN1.out (by decide)) HKK.out HKK.out HNN.out HNN.out (hKw.call hc2) (hK2.call hc2)).mono ?_); rw [same_self]; rintro e w3 ⟨rfl, hb3⟩; have hc3 := below_next hc2 hb3)
      | (go_at_call 11; (with_reducible refine (works_any _ (tab_call hT3 hc3)).mono ?_); rintro e w4 ⟨rfl, hb4⟩; have hc4 := below_next hc3 hb4)
      | fail)
    all_goals
      go_wp2
      go_ret
      exact ⟨rfl, below_next hz hc4⟩
end Go.Proofs.YtdbcdabijolagaaDoor.valueRights
