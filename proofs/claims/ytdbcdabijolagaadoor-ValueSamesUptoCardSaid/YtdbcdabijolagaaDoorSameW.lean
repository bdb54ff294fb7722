/-
  The walk of the statement ValueSames: which values are the same, how deep they are, how many parts they have; a copy is the same, and its own. Conditions: the table utf.shapes lies as the program's text lays it; values of bulk at most 2^20.
-/
import Derived.Test.YtdbcdabijolagaaDoorWrk
import Derived.Test.YtdbcdabijolagaaDoorLarge
import Derived.Test.YtdbcdabijolagaaDoorTurnp
import Derived.Deep.RegionHeld3
namespace Go.Proofs.YtdbcdabijolagaaDoor.valueSames
open Go.RowKit Go.Proofs.YtdbcdabijolagaaDoor.Tn Go.Proofs.YtdbcdabijolagaaDoor.Utf Go.Proofs.YtdbcdabijolagaaDoor.Val V

theorem le30 {n : Nat} (h : n ≤ 1048576) : n ≤ 1073741824 := by omega
theorem le40 {n : Nat} (h : n ≤ 1048576) : n ≤ 1099511627776 := by omega
theorem held3b {w w' : World} {g1 g2 g3 : Nat} {x0 x1 x2 x3 y0 y1 y2 y3 z0 z1 z2 z3 : Value} (h1 : Box w g1 x0 x1 x2 x3) (h2 : Box w g2 y0 y1 y2 y3) (h3 : Box w g3 z0 z1 z2 z3) (hb : Below w.heap.size w w') :
    w'.cell? ⟨g1, 0, none⟩ = some (x0) ∧ w'.cell? ⟨g1, 1, none⟩ = some (x1) ∧ w'.cell? ⟨g1, 2, none⟩ = some (x2) ∧ w'.cell? ⟨g1, 3, none⟩ = some (x3) ∧ w'.cell? ⟨g2, 0, none⟩ = some (y0) ∧ w'.cell? ⟨g2, 1, none⟩ = some (y1) ∧ w'.cell? ⟨g2, 2, none⟩ = some (y2) ∧ w'.cell? ⟨g2, 3, none⟩ = some (y3) ∧ w'.cell? ⟨g3, 0, none⟩ = some (z0) ∧ w'.cell? ⟨g3, 1, none⟩ = some (z1) ∧ w'.cell? ⟨g3, 2, none⟩ = some (z2) ∧ w'.cell? ⟨g3, 3, none⟩ = some (z3) ∧ Below w.heap.size w w' := by
  obtain ⟨a0, a1, a2, a3, _⟩ := (h1.call hb).all
  obtain ⟨b0, b1, b2, b3, _⟩ := (h2.call hb).all
  obtain ⟨c0, c1, c2, c3, _⟩ := (h3.call hb).all
  exact ⟨a0, a1, a2, a3, b0, b1, b2, b3, c0, c1, c2, c3, hb⟩
theorem box_keep {P : Nat → Prop} {w w' : World} {g : Nat} {x0 x1 x2 x3 : Value} (h : Box w g x0 x1 x2 x3) (hk : Keep P w w') (hg : ¬ P g) : Box w' g x0 x1 x2 x3 := (hk.2.2.2.2 g hg).trans h
theorem tab_call {w w' : World} (h : Tab w) (hb : Below w.heap.size w w') : Tab w' := h.call hb

set_option maxRecDepth 100000 in
set_option maxHeartbeats 2000000 in
theorem walk (k n : Nat) (t : ByteArray) (ks : List V) (A : Option Addr) (l c : Nat) (k' n' : Nat) (t' : ByteArray) (ks' : List V) (A' : Option Addr) (l' c' : Nat) (w : World) (ht : Tab w) (hN : bulk (.mk k n t ks) ≤ 1048576) (hk : k < 256) (hn : n < 18446744073709551616) (hK : Kd w ks A l c) (hN' : bulk (.mk k' n' t' ks') ≤ 1048576) (hk' : k' < 256) (hn' : n' < 18446744073709551616) (hK' : Kd w ks' A' l' c') :
    Calls Tryd.prog 5 #[.agg #[.int .u8 k, .int .u64 n, .string t, .slice A l c], .agg #[.int .u8 k', .int .u64 n', .string t', .slice A' l' c']] w (GivesB true w) := by
  have hB := two_boxes w (.cells #[.int .u8 k, .int .u64 n, .string t, .slice A l c] 25) (.cells #[.int .u8 k', .int .u64 n', .string t', .slice A' l' c'] 25)
  have B1 := (Box.new w (.int .u8 k) (.int .u64 n) (.string t) (.slice A l c)).alloc (.cells #[.int .u8 k', .int .u64 n', .string t', .slice A' l' c'] 25)
  have B2 := Box.new2 w (.cells #[.int .u8 k, .int .u64 n, .string t, .slice A l c] 25) (.int .u8 k') (.int .u64 n') (.string t') (.slice A' l' c')
  have hKL := kids_two (t := t) (t' := t') hk hn hk' hn' (hK.call hB) (hK'.call hB)
  have hbL : bulkL [V.mk k n t ks, .mk k' n' t' ks'] ≤ 2097152 := by simp only [bulkL]; omega
  have HN := Lib.hid hN
  have HN' := Lib.hid hN'
  have hb1 : bulkL ks ≤ 1048576 := by simp only [bulk] at hN; omega
  have hb2 : bulkL ks' ≤ 1048576 := by simp only [bulk] at hN'; omega
  obtain ⟨p, hp⟩ : ∃ p, decide (8192 < bigL [V.mk k n t ks, .mk k' n' t' ks']) = p := ⟨_, rfl⟩
  have HL := large_any _ _ 2 2 _ (by omega) hKL
  rw [hp] at HL
  have hBL := hB.alloc hB.size (.cells #[.int .u8 k, .int .u64 n, .string t, .slice A l c, .int .u8 k', .int .u64 n', .string t', .slice A' l' c'] 25)
  have HL := Lib.hid HL
  have HHN := Lib.hid hn
  have HHN' := Lib.hid hn'
  clear hp hN hN' hn hn' hKL hbL
  replace HL := Lib.hid (by have := HL.out; simp only [World.size_alloc] at this; exact this)
  replace B1 := B1.alloc (.cells #[.int .u8 k, .int .u64 n, .string t, .slice A l c, .int .u8 k', .int .u64 n', .string t', .slice A' l' c'] 25)
  replace B2 := B2.alloc (.cells #[.int .u8 k, .int .u64 n, .string t, .slice A l c, .int .u8 k', .int .u64 n', .string t', .slice A' l' c'] 25)
  obtain ⟨W0, hW0⟩ : ∃ W0, ((w.alloc (.cells #[.int .u8 k, .int .u64 n, .string t, .slice A l c] 25)).alloc (.cells #[.int .u8 k', .int .u64 n', .string t', .slice A' l' c'] 25)).alloc (.cells #[.int .u8 k, .int .u64 n, .string t, .slice A l c, .int .u8 k', .int .u64 n', .string t', .slice A' l' c'] 25) = W0 := ⟨_, rfl⟩
  rw [hW0] at HL B1 B2 hBL
  have HW0 := Lib.hid hW0
  clear hW0 hB
  go_enter Tryd.func5, Tryd.ntmps5
  go_wp2_with fail
  rw [HW0.out]
  refine HL.out.mono ?_
  rintro e w1 ⟨rfl, hq1⟩
  have hT1 := ht.call (below_next hBL hq1)
  clear HL
  cases p with
  | true =>
    go_wp2_with (go_at_call 11; (with_reducible refine (works_any _ hT1).mono ?_); rintro e w3 ⟨rfl, hb3⟩)
    go_ret
    exact ⟨rfl, below_next (below_next hBL hq1) hb3⟩
  | false =>
    have hq := below_next hBL hq1
    replace B1 := B1.call hq1
    replace B2 := B2.call hq1
    have hK1 := hK.call hq
    have hK1' := hK'.call hq
    have c1 := B1.all
    obtain ⟨p0, p1, p2, p3, pf⟩ := c1
    have c2 := B2.all
    obtain ⟨r0, r1, r2, r3, rf⟩ := c2
    have b1l := B1.lt
    have b2l := B2.lt
    clear hq1 hBL hT1 hK hK'
    go_wp2_with fail
    have HHk := Lib.hid hk
    refine (vcopy_any k n t ks A l c w1 (by omega) hk HHN.out hK1).mono ?_
    rintro e w2 ⟨A2, l2, c2, rfl, hN2, hb2⟩
    have HB1 := Lib.hid hb1
    have hz := (below_next hq hb2).alloc (below_next hq hb2).size (.cells #[.int .u8 k, .int .u64 n, .string t, .slice A2 l2 c2] 25)
    have B3 := Box.new w2 (.int .u8 k) (.int .u64 n) (.string t) (.slice A2 l2 c2)
    have hKc := hN2.kd.alloc (.cells #[.int .u8 k, .int .u64 n, .string t, .slice A2 l2 c2] 25)
    have hC2 : Go.Proofs.YtdbcdabijolagaaDoor.Val.Kids true (w2.alloc (.cells #[.int .u8 k, .int .u64 n, .string t, .slice A2 l2 c2] 25)) (fun i => w1.heap.size ≤ i ∧ i < w2.heap.size) ks A2 l2 c2 := hN2.keep fun i hi => ((Below.refl _ _).alloc (Nat.le_refl _) _).block i hi.2
    have hK2 := (hK1.call hb2).alloc (.cells #[.int .u8 k, .int .u64 n, .string t, .slice A2 l2 c2] 25)
    have hK2' := (hK1'.call hb2).alloc (.cells #[.int .u8 k, .int .u64 n, .string t, .slice A2 l2 c2] 25)
    have hs2 := hb2.size
    have hKa : Go.Proofs.YtdbcdabijolagaaDoor.Val.Kids false (w2.alloc (.cells #[.int .u8 k, .int .u64 n, .string t, .slice A2 l2 c2] 25)) (fun i => i < w1.heap.size) ks A l c := (hK1.keep fun i hi => hb2.block i hi).keep fun i hi => ((Below.refl w2.heap.size w2).alloc (Nat.le_refl _) _).block i (by omega)
    have hKb : Go.Proofs.YtdbcdabijolagaaDoor.Val.Kids false (w2.alloc (.cells #[.int .u8 k, .int .u64 n, .string t, .slice A2 l2 c2] 25)) (fun i => i < w1.heap.size) ks' A' l' c' := (hK1'.keep fun i hi => hb2.block i hi).keep fun i hi => ((Below.refl w2.heap.size w2).alloc (Nat.le_refl _) _).block i (by omega)
    replace B1 := B1.call hb2
    replace B2 := B2.call hb2
    have cc := B1.all
    obtain ⟨p0, p1, p2, p3, pf⟩ := cc
    have cd := B2.all
    obtain ⟨r0, r1, r2, r3, rf⟩ := cd
    have b3l := B3.lt
    replace B1 := B1.alloc (.cells #[.int .u8 k, .int .u64 n, .string t, .slice A2 l2 c2] 25)
    replace B2 := B2.alloc (.cells #[.int .u8 k, .int .u64 n, .string t, .slice A2 l2 c2] 25)
    clear hN2 hb2 hq hK1 hK1'
    go_wp2_with fail
    obtain ⟨g3, hg3⟩ : ∃ g, w2.heap.size = g := ⟨_, rfl⟩
    obtain ⟨W3, hW3⟩ : ∃ W, w2.alloc (.cells #[.int .u8 k, .int .u64 n, .string t, .slice A2 l2 c2] 25) = W := ⟨_, rfl⟩
    rw [hW3] at b3l
    rw [hg3] at B3 hC2 hs2 b3l ⊢
    rw [hW3] at hz B1 B2 B3 hKc hC2 hK2 hK2' hKa hKb ⊢
    clear hg3 hW3 p0 p1 p2 p3 pf r0 r1 r2 r3 rf
    obtain ⟨z, hzz⟩ : ∃ z, same (.mk k n t ks) (.mk k' n' t' ks') = z := ⟨_, rfl⟩
    have HZ := Lib.hid hzz
    have HZ' := Lib.hid ((same_comm (.mk k' n' t' ks') (.mk k n t ks)).trans hzz)
    clear hzz
    have hH0 : Below W3.heap.size W3 W3.drew := (Below.refl _ _).drew
    have hc0 := hH0
    obtain ⟨D, hD⟩ : ∃ D, depthL ks + 1 = D := ⟨_, rfl⟩
    obtain ⟨I, hI⟩ : ∃ I, itemsL ks + 1 = I := ⟨_, rfl⟩
    have HD := Lib.hid hD
    have HI := Lib.hid hI
    clear hD hI
    go_cut [40] (fun s wx => s = .bool false ∧ Below W3.heap.size W3 wx)
    case first =>
      go_region_held3 (fun wx => wx.cell? ⟨w.heap.size, 0, none⟩ = some (.int .u8 (k : Int)) ∧ wx.cell? ⟨w.heap.size, 1, none⟩ = some (.int .u64 (n : Int)) ∧ wx.cell? ⟨w.heap.size, 2, none⟩ = some (.string t) ∧ wx.cell? ⟨w.heap.size, 3, none⟩ = some (.slice A l c) ∧ wx.cell? ⟨(w.heap.size + 1), 0, none⟩ = some (.int .u8 (k' : Int)) ∧ wx.cell? ⟨(w.heap.size + 1), 1, none⟩ = some (.int .u64 (n' : Int)) ∧ wx.cell? ⟨(w.heap.size + 1), 2, none⟩ = some (.string t') ∧ wx.cell? ⟨(w.heap.size + 1), 3, none⟩ = some (.slice A' l' c') ∧ wx.cell? ⟨g3, 0, none⟩ = some (.int .u8 (k : Int)) ∧ wx.cell? ⟨g3, 1, none⟩ = some (.int .u64 (n : Int)) ∧ wx.cell? ⟨g3, 2, none⟩ = some (.string t) ∧ wx.cell? ⟨g3, 3, none⟩ = some (.slice A2 l2 c2) ∧ Below W3.heap.size W3 wx) (with_reducible first | assumption | exact held3b B1 B2 B3 hH0 | exact held3b B1 B2 B3 hc7 | exact held3b B1 B2 B3 hc6 | exact held3b B1 B2 B3 hc5 | exact held3b B1 B2 B3 hc4 | exact held3b B1 B2 B3 hc3 | exact held3b B1 B2 B3 hc2 | exact held3b B1 B2 B3 hc1 | fail)
        (first
        | (go_at_call 18; (with_reducible refine (vsame_any k n t ks A l c k' n' t' ks' A' l' c' _ (le30 HB1.out) (hK2.call hc0) (hK2'.call hc0)).mono ?_); rw [HZ.out]; rintro e w1 ⟨rfl, hb1⟩; have hc1 := below_next hc0 hb1)
        | (go_at_call 15; (with_reducible refine (xsame_any (bulkL ks) k n t ks A l c k' n' t' ks' A' l' c' _ (Nat.le_refl _) (le40 HB1.out) hk hk' HHN.out HHN'.out (hK2.call hc1) (hK2'.call hc1)).mono ?_); rw [HZ.out]; rintro e w2 ⟨rfl, hb2⟩; have hc2 := below_next hc1 hb2)
        | (go_at_call 18; (with_reducible refine (vsame_any k n t ks A l c k n t ks A2 l2 c2 _ (le30 HB1.out) (hK2.call hc2) (hKc.call hc2)).mono ?_); rw [same_self]; rintro e w3 ⟨rfl, hb3⟩; have hc3 := below_next hc2 hb3)
        | (go_at_call 28; (with_reducible refine (vdepth_any k n t ks A l c _ (le30 HB1.out) (hK2.call hc3)).mono ?_); rw [HD.out]; rintro e w4 ⟨rfl, hb4⟩; have hc4 := below_next hc3 hb4)
        | (go_at_call 29; (with_reducible refine (xdepth_any (bulkL ks) k n t ks A l c _ (Nat.le_refl _) (le40 HB1.out) (hK2.call hc4)).mono ?_); rw [HD.out]; rintro e w5 ⟨rfl, hb5⟩; have hc5 := below_next hc4 hb5)
        | (go_at_call 30; (with_reducible refine (vitems_any k n t ks A l c _ (le30 HB1.out) (hK2.call hc5)).mono ?_); rw [HI.out]; rintro e w6 ⟨rfl, hb6⟩; have hc6 := below_next hc5 hb6)
        | (go_at_call 31; (with_reducible refine (xitems_any (bulkL ks) k n t ks A l c _ (Nat.le_refl _) (le40 HB1.out) (hK2.call hc6)).mono ?_); rw [HI.out]; rintro e w7 ⟨rfl, hb7⟩; have hc7 := below_next hc6 hb7)
        | fail)
      all_goals
        go_wp2_with fail
        go_meet
        exact ⟨rfl, hc7⟩
    case rest =>
      obtain ⟨rfl, hq⟩ := hcut
      have hqs := hq.size
      have hzc := below_next hz hq
      replace B1 := B1.call hq
      replace B2 := B2.call hq
      replace B3 := B3.call hq
      replace hC2 := hC2.keep fun i hi => hq.block i (by omega)
      replace hKa := hKa.keep fun i hi => hq.block i (by omega)
      replace hKb := hKb.keep fun i hi => hq.block i (by omega)
      have hKd := hK2.call hq
      have cc := B1.all
      obtain ⟨p0, p1, p2, p3, pf⟩ := cc
      clear hH0 hc0 hq hz hK2 hK2' hKc
      go_wp2_with fail
      refine (xcopy_any k n t ks A l c wc (le30 HB1.out) hKd).mono ?_
      rintro e w6 ⟨A6, l6, c6, rfl, hN6, hb6⟩
      have hs6 := hb6.size
      have hz6 := (below_next hzc hb6).alloc (below_next hzc hb6).size (.cells #[.int .u8 k, .int .u64 n, .string t, .slice A6 l6 c6] 25)
      have B6 := Box.new w6 (.int .u8 k) (.int .u64 n) (.string t) (.slice A6 l6 c6)
      replace B1 := (B1.call hb6).alloc (.cells #[.int .u8 k, .int .u64 n, .string t, .slice A6 l6 c6] 25)
      replace B2 := (B2.call hb6).alloc (.cells #[.int .u8 k, .int .u64 n, .string t, .slice A6 l6 c6] 25)
      replace B3 := B3.call hb6
      have b3w := B3.lt
      have b6l := B6.lt
      have cd := B3.all
      obtain ⟨s0, s1, s2, s3, sf⟩ := cd
      have hab : Below w6.heap.size w6 (w6.alloc (.cells #[.int .u8 k, .int .u64 n, .string t, .slice A6 l6 c6] 25)) := (Below.refl _ _).alloc (Nat.le_refl _) _
      replace hC2 := (hC2.keep fun i hi => hb6.block i (by omega)).keep fun i hi => hab.block i (by omega)
      replace hKa := (hKa.keep fun i hi => hb6.block i (by omega)).keep fun i hi => hab.block i (by omega)
      replace hKb := (hKb.keep fun i hi => hb6.block i (by omega)).keep fun i hi => hab.block i (by omega)
      have hN6' := hN6.call hab
      have HSH := Lib.hid (shr_kids hC2 (le30 HB1.out))
      clear hN6 hab hC2 hKd p0 p1 p2 p3 pf hb6 hzc
      go_wp2_with fail
      refine (turn_any (fun i => w1.heap.size ≤ i ∧ i < g3) (depthL ks) A2 l2 c2 _ HSH.out).mono ?_
      rintro e w7 ⟨⟨v7, rfl⟩, hy⟩
      obtain ⟨g6, hg6⟩ : ∃ g, w6.heap.size = g := ⟨_, rfl⟩
      obtain ⟨W6, hW6⟩ : ∃ W, w6.alloc (.cells #[.int .u8 k, .int .u64 n, .string t, .slice A6 l6 c6] 25) = W := ⟨_, rfl⟩
      rw [hg6] at B6 hs6
      rw [hW6] at B1 B2 B6 hz6 hKa hKb hN6' hy
      rw [hg6]
      clear hW6 hg6 HSH s0 s1 s2 s3 sf B3
      have hkp := hy.1
      have hz7 : Below w.heap.size w w7 := hz6.trans (hkp.below fun i hi => by omega)
      have hT7 := ht.call hz7
      have C1 := box_keep B1 hkp (by omega)
      have C2 := box_keep B2 hkp (by omega)
      have C6 := box_keep B6 hkp (by omega)
      have hKa7 : Kd w7 ks A l c := (hKa.keep fun i hi => hkp.2.2.2.2 i (by omega)).mono fun i hi => by have := C1.lt; have := hkp.2.2.2.1; have := B6.lt; omega
      have hKb7 : Kd w7 ks' A' l' c' := (hKb.keep fun i hi => hkp.2.2.2.2 i (by omega)).mono fun i hi => by have := hkp.2.2.2.1; have := B6.lt; omega
      have hKw7 : Kd w7 ks A6 l6 c6 := (hN6'.keep fun i hi => hkp.2.2.2.2 i (by omega)).weak.mono fun i hi => by have := hkp.2.2.2.1; omega
      have HB2 := Lib.hid hb2
      clear hkp hy hKa hKb hN6' B1 B2 B6 hz6 hb2
      have hH0 : Below w7.heap.size w7 w7.drew := (Below.refl _ _).drew
      have hc0 := hH0
      go_wp2_with fail
      go_region_held3 (fun wx => wx.cell? ⟨w.heap.size, 0, none⟩ = some (.int .u8 (k : Int)) ∧ wx.cell? ⟨w.heap.size, 1, none⟩ = some (.int .u64 (n : Int)) ∧ wx.cell? ⟨w.heap.size, 2, none⟩ = some (.string t) ∧ wx.cell? ⟨w.heap.size, 3, none⟩ = some (.slice A l c) ∧ wx.cell? ⟨(w.heap.size + 1), 0, none⟩ = some (.int .u8 (k' : Int)) ∧ wx.cell? ⟨(w.heap.size + 1), 1, none⟩ = some (.int .u64 (n' : Int)) ∧ wx.cell? ⟨(w.heap.size + 1), 2, none⟩ = some (.string t') ∧ wx.cell? ⟨(w.heap.size + 1), 3, none⟩ = some (.slice A' l' c') ∧ wx.cell? ⟨g6, 0, none⟩ = some (.int .u8 (k : Int)) ∧ wx.cell? ⟨g6, 1, none⟩ = some (.int .u64 (n : Int)) ∧ wx.cell? ⟨g6, 2, none⟩ = some (.string t) ∧ wx.cell? ⟨g6, 3, none⟩ = some (.slice A6 l6 c6) ∧ Below w7.heap.size w7 wx) (with_reducible first | assumption | exact held3b C1 C2 C6 hH0 | exact held3b C1 C2 C6 hc4 | exact held3b C1 C2 C6 hc3 | exact held3b C1 C2 C6 hc2 | exact held3b C1 C2 C6 hc1 | fail)
        (first
        | (go_at_call 15; (with_reducible refine (xsame_any (bulkL ks) k n t ks A l c k n t ks A6 l6 c6 _ (Nat.le_refl _) (le40 HB1.out) HHk.out HHk.out HHN.out HHN.out (hKa7.call hc0) (hKw7.call hc0)).mono ?_); rw [same_self]; rintro e w1 ⟨rfl, hb1⟩; have hc1 := below_next hc0 hb1)
        | (go_at_call 18; (with_reducible refine (vsame_any k' n' t' ks' A' l' c' k n t ks A l c _ (le30 HB2.out) (hKb7.call hc1) (hKa7.call hc1)).mono ?_); rw [HZ'.out]; rintro e w2 ⟨rfl, hb2⟩; have hc2 := below_next hc1 hb2)
        | (go_at_call 18; (with_reducible refine (vsame_any k n t ks A l c k' n' t' ks' A' l' c' _ (le30 HB1.out) (hKa7.call hc2) (hKb7.call hc2)).mono ?_); rw [HZ.out]; rintro e w3 ⟨rfl, hb3⟩; have hc3 := below_next hc2 hb3)
        | (go_at_call 11; (with_reducible refine (works_any _ (tab_call hT7 hc3)).mono ?_); rintro e w4 ⟨rfl, hb4⟩; have hc4 := below_next hc3 hb4)
        | fail)
      all_goals
        go_wp2
        go_ret
        exact ⟨rfl, below_next hz7 hc4⟩
end Go.Proofs.YtdbcdabijolagaaDoor.valueSames
