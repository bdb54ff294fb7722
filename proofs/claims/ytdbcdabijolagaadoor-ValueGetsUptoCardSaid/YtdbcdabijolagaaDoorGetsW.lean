/-
  The walk of the statement ValueGets: what a map has by a key, in new memory. Conditions: the table utf.shapes lies as the program's text lays it; values of bulk at most 2^20.
-/
import Derived.Test.YtdbcdabijolagaaDoorWrk
import Derived.Test.YtdbcdabijolagaaDoorLarge
import Derived.Test.YtdbcdabijolagaaDoorXget
import Derived.Test.YtdbcdabijolagaaDoorTurn
namespace Go.Proofs.YtdbcdabijolagaaDoor.valueGets
open Go.RowKit Go.Proofs.YtdbcdabijolagaaDoor.Utf Go.Proofs.YtdbcdabijolagaaDoor.Val V

theorem getL_bulk {l : List V} {y v : V} (h : getL (pairsL l) y = some v) : bulk v ≤ bulkL l := by
  match l with
  | [] => simp [pairsL, getL] at h
  | [x] => simp [pairsL, getL] at h
  | x :: u :: r =>
    simp only [pairsL, getL] at h
    simp only [bulkL]
    split at h
    · injection h with h
      subst h
      omega
    · have := getL_bulk h
      omega
theorem got_bulk {k n k4 n4 : Nat} {t t4 : ByteArray} {ks ks4 : List V} {y : V} {o : Option V} (hv : o.getD empty = .mk k4 n4 t4 ks4) (ho : getV (.mk k n t ks) y = o) : bulkL ks4 ≤ bulk (.mk k n t ks) := by
  cases o with
  | none =>
    simp only [Option.getD_none, empty, V.mk.injEq] at hv
    rw [← hv.2.2.2]
    simp [bulkL]
  | some v =>
    simp only [Option.getD_some] at hv
    subst hv
    unfold getV at ho
    split at ho
    · have := getL_bulk ho
      simp only [kids, bulk] at this ⊢
      omega
    · cases ho
theorem tab_call {w w' : World} (h : Tab w) (hb : Below w.heap.size w w') : Tab w' := h.call hb

set_option maxRecDepth 100000 in
set_option maxHeartbeats 2000000 in
theorem walk (k n : Nat) (t : ByteArray) (ks : List V) (A : Option Addr) (l c : Nat) (k' n' : Nat) (t' : ByteArray) (ks' : List V) (A' : Option Addr) (l' c' : Nat) (w : World) (ht : Tab w) (hN : bulk (.mk k n t ks) ≤ 1048576) (hk : k < 256) (hn : n < 18446744073709551616) (hK : Kd w ks A l c) (hN' : bulk (.mk k' n' t' ks') ≤ 1048576) (hk' : k' < 256) (hn' : n' < 18446744073709551616) (hK' : Kd w ks' A' l' c') :
    Calls Tryd.prog 6 #[.agg #[.int .u8 k, .int .u64 n, .string t, .slice A l c], .agg #[.int .u8 k', .int .u64 n', .string t', .slice A' l' c']] w (GivesB true w) := by
  have hB := two_boxes w (.cells #[.int .u8 k, .int .u64 n, .string t, .slice A l c] 25) (.cells #[.int .u8 k', .int .u64 n', .string t', .slice A' l' c'] 25)
  have B1 := (Box.new w (.int .u8 k) (.int .u64 n) (.string t) (.slice A l c)).alloc (.cells #[.int .u8 k', .int .u64 n', .string t', .slice A' l' c'] 25)
  have B2 := Box.new2 w (.cells #[.int .u8 k, .int .u64 n, .string t, .slice A l c] 25) (.int .u8 k') (.int .u64 n') (.string t') (.slice A' l' c')
  have hKL := kids_two (t := t) (t' := t') hk hn hk' hn' (hK.call hB) (hK'.call hB)
  have hbL : bulkL [V.mk k n t ks, .mk k' n' t' ks'] ≤ 2097152 := by simp only [bulkL]; omega
  have HN := Lib.hid hN
  have HN' := Lib.hid hN'
  have hb1 : bulkL ks ≤ 1048576 := by simp only [bulk] at hN; omega
  have hb2 : bulkL ks' ≤ 1048576 := by simp only [bulk] at hN'; omega
  obtain ⟨p, hp⟩ : ∃ p, decide (8192 < bigL [V.mk k n t ks, .mk k' n' t' ks']) = p := ⟨_, rfl⟩
  have HL := large_any _ _ 2 2 _ (by omega) hKL
  rw [hp] at HL
  have hBL := hB.alloc hB.size (.cells #[.int .u8 k, .int .u64 n, .string t, .slice A l c, .int .u8 k', .int .u64 n', .string t', .slice A' l' c'] 25)
  have HL := Lib.hid HL
  have HHN := Lib.hid hn
  have HHN' := Lib.hid hn'
  clear hp hN hN' hn hn' hKL hbL
  replace HL := Lib.hid (by have := HL.out; simp only [World.size_alloc] at this; exact this)
  replace B1 := B1.alloc (.cells #[.int .u8 k, .int .u64 n, .string t, .slice A l c, .int .u8 k', .int .u64 n', .string t', .slice A' l' c'] 25)
  replace B2 := B2.alloc (.cells #[.int .u8 k, .int .u64 n, .string t, .slice A l c, .int .u8 k', .int .u64 n', .string t', .slice A' l' c'] 25)
  obtain ⟨W0, hW0⟩ : ∃ W0, ((w.alloc (.cells #[.int .u8 k, .int .u64 n, .string t, .slice A l c] 25)).alloc (.cells #[.int .u8 k', .int .u64 n', .string t', .slice A' l' c'] 25)).alloc (.cells #[.int .u8 k, .int .u64 n, .string t, .slice A l c, .int .u8 k', .int .u64 n', .string t', .slice A' l' c'] 25) = W0 := ⟨_, rfl⟩
  rw [hW0] at HL B1 B2 hBL
  have HW0 := Lib.hid hW0
  clear hW0 hB
  go_enter Tryd.func6, Tryd.ntmps6
  go_wp2_with fail
  rw [HW0.out]
  refine HL.out.mono ?_
  rintro e w1 ⟨rfl, hq1⟩
  have hT1 := ht.call (below_next hBL hq1)
  clear HL
  cases p with
  | true =>
    go_wp2_with (go_at_call 11; (with_reducible refine (works_any _ hT1).mono ?_); rintro e w3 ⟨rfl, hb3⟩)
    go_ret
    exact ⟨rfl, below_next (below_next hBL hq1) hb3⟩
  | false =>
    have hq := below_next hBL hq1
    replace B1 := B1.call hq1
    replace B2 := B2.call hq1
    have hK1 := hK.call hq
    have hK1' := hK'.call hq
    have c1 := B1.all
    obtain ⟨p0, p1, p2, p3, pf⟩ := c1
    have c2 := B2.all
    obtain ⟨r0, r1, r2, r3, rf⟩ := c2
    have b1l := B1.lt
    have b2l := B2.lt
    clear hq1 hBL hT1 hK hK'
    go_wp2_with fail
    refine (xcopy_any k n t ks A l c w1 (by omega) hK1).mono ?_
    rintro e w2 ⟨A2, l2, c2, rfl, hN2, hb2⟩
    have hz := (below_next hq hb2).alloc (below_next hq hb2).size (.cells #[.int .u8 k, .int .u64 n, .string t, .slice A2 l2 c2] 25)
    have B3 := Box.new w2 (.int .u8 k) (.int .u64 n) (.string t) (.slice A2 l2 c2)
    have hKw := hN2.kd.alloc (.cells #[.int .u8 k, .int .u64 n, .string t, .slice A2 l2 c2] 25)
    have hK2 := (hK1.call hb2).alloc (.cells #[.int .u8 k, .int .u64 n, .string t, .slice A2 l2 c2] 25)
    have hK2' := (hK1'.call hb2).alloc (.cells #[.int .u8 k, .int .u64 n, .string t, .slice A2 l2 c2] 25)
    replace B1 := B1.call hb2
    replace B2 := B2.call hb2
    have cc := B1.all
    obtain ⟨p0, p1, p2, p3, pf⟩ := cc
    have cd := B2.all
    obtain ⟨r0, r1, r2, r3, rf⟩ := cd
    have b1l := B1.lt
    have b2l := B2.lt
    replace B1 := B1.alloc (.cells #[.int .u8 k, .int .u64 n, .string t, .slice A2 l2 c2] 25)
    replace B2 := B2.alloc (.cells #[.int .u8 k, .int .u64 n, .string t, .slice A2 l2 c2] 25)
    clear hN2 hb2 hq hK1 hK1'
    go_wp2_with fail
    obtain ⟨g3, hg3⟩ : ∃ g, w2.heap.size = g := ⟨_, rfl⟩
    obtain ⟨W3, hW3⟩ : ∃ W, w2.alloc (.cells #[.int .u8 k, .int .u64 n, .string t, .slice A2 l2 c2] 25) = W := ⟨_, rfl⟩
    rw [hg3] at B3 ⊢
    rw [hW3] at hz B1 B2 B3 hKw hK2 hK2' ⊢
    clear hg3 hW3 p0 p1 p2 p3 pf r0 r1 r2 r3 rf b1l b2l
    obtain ⟨o, ho⟩ : ∃ o, getV (.mk k n t ks) (.mk k' n' t' ks') = o := ⟨_, rfl⟩
    have HG := vget_any k n t ks A l c k' n' t' ks' A' l' c' W3 (by omega) hk hK2 hK2'
    rw [ho] at HG
    have HO := Lib.hid ho
    clear ho
    refine HG.mono ?_
    clear HG
    rintro e w4 ⟨k4, n4, t4, ks4, A4, l4, c4, hv4, hk4, hn4, rfl, hN4, hb4⟩
    have hbk4 : bulkL ks4 ≤ 1073741824 := by have := got_bulk hv4 HO.out; have := HN.out; omega
    obtain ⟨q, hq⟩ : ∃ q, o.isSome = q := ⟨_, rfl⟩
    have HQ := Lib.hid hq
    have HV4 := Lib.hid hv4
    rw [hq]
    clear hq hv4
    have hz4 := (below_next hz hb4).alloc (below_next hz hb4).size (.cells #[.int .u8 k4, .int .u64 n4, .string t4, .slice A4 l4 c4] 25)
    have hW4 := hb4.alloc hb4.size (.cells #[.int .u8 k4, .int .u64 n4, .string t4, .slice A4 l4 c4] 25)
    have B4 := Box.new w4 (.int .u8 k4) (.int .u64 n4) (.string t4) (.slice A4 l4 c4)
    have hN4' := hN4.call ((Below.refl _ _).alloc (Nat.le_refl _) (.cells #[.int .u8 k4, .int .u64 n4, .string t4, .slice A4 l4 c4] 25))
    have D2 := B2.call hb4
    have D3 := B3.call hb4
    have cd := D2.all
    obtain ⟨r0, r1, r2, r3, rf⟩ := cd
    have ce := D3.all
    obtain ⟨s0, s1, s2, s3, sf⟩ := ce
    have d2l := D2.lt
    have d3l := D3.lt
    go_wp2_with fail
    have hK4 := hN4'.kd
    refine (xget_any k n t ks A2 l2 c2 k' n' t' ks' A' l' c' _ (by omega) hk hk' HHN'.out (hKw.call hW4) (hK2'.call hW4)).mono ?_
    rw [HO.out]
    rintro e w5 ⟨k5, n5, t5, ks5, A5, l5, c5, hv5, hk5, hn5, rfl, hN5, hb5⟩
    rw [HQ.out]
    have hvv := HV4.out.symm.trans hv5
    simp only [V.mk.injEq] at hvv
    obtain ⟨rfl, rfl, rfl, rfl⟩ := hvv
    have HN4 := Lib.hid hn4
    clear hv5 hn4 hn5 hk5 r0 r1 r2 r3 rf s0 s1 s2 s3 sf D2 D3 d2l d3l HHN' hb4
    have E4 := B4.call hb5
    have hW5 := (below_next hW4 hb5).alloc (below_next hW4 hb5).size (.cells #[.int .u8 k4, .int .u64 n4, .string t4, .slice A5 l5 c5] 25)
    have hN4x := (hN4'.call hb5).call ((Below.refl _ _).alloc (Nat.le_refl _) (.cells #[.int .u8 k4, .int .u64 n4, .string t4, .slice A5 l5 c5] 25))
    have hK5 := hN5.kd.alloc (.cells #[.int .u8 k4, .int .u64 n4, .string t4, .slice A5 l5 c5] 25)
    have hK4x := (hK4.call hb5).alloc (.cells #[.int .u8 k4, .int .u64 n4, .string t4, .slice A5 l5 c5] 25)
    have ce := E4.all
    obtain ⟨s0, s1, s2, s3, sf⟩ := ce
    have e4l := E4.lt
    have HW5 := Lib.hid hW5
    have HK5 := Lib.hid hK5
    have HK4x := Lib.hid hK4x
    have HN4x := Lib.hid hN4x
    clear hN5 hN4' hN4 hK4 hW4 hb5 B4 hW5 hK5 hK4x hN4x hz4
    go_wp2_with fail
    refine (xsame_any (bulkL ks4) k4 n4 t4 ks4 A4 l4 c4 k4 n4 t4 ks4 A5 l5 c5 _ (Nat.le_refl _) (by omega) hk4 hk4 HN4.out HN4.out HK4x.out HK5.out).mono ?_
    rw [same_self]
    rintro e w6 ⟨rfl, hb6⟩
    have E6 := (E4.alloc (.cells #[.int .u8 k4, .int .u64 n4, .string t4, .slice A5 l5 c5] 25)).call hb6
    have ce := E6.all
    obtain ⟨x0, x1, x2, x3, xf⟩ := ce
    have hW6 := below_next HW5.out hb6
    have HS6 := Lib.hid ((HN4x.out.call hb6).shr hbk4)
    clear s0 s1 s2 s3 sf e4l E4 hb6
    go_wp2_with fail
    refine (turn_any W3.heap.size (depthL ks4) A4 l4 c4 _ HS6.out).mono ?_
    rintro e w7 ⟨⟨v7, rfl⟩, hy⟩
    have hW7 := hW6.trans hy.1
    have hT7 := ht.call (below_next hz hW7)
    have F1 := (B1.call hW7).all
    obtain ⟨p0, p1, p2, p3, pf⟩ := F1
    have F3 := (B3.call hW7).all
    obtain ⟨y0, y1, y2, y3, yf⟩ := F3
    clear x0 x1 x2 x3 xf hy hW6
    go_wp2_with fail
    refine (xsame_any (bulkL ks) k n t ks A l c k n t ks A2 l2 c2 _ (Nat.le_refl _) (by omega) hk hk HHN.out HHN.out (hK2.call hW7) (hKw.call hW7)).mono ?_
    rw [same_self]
    rintro e w8 ⟨rfl, hb8⟩
    go_wp2_with (go_at_call 11; (with_reducible refine (works_any _ (tab_call hT7 hb8)).mono ?_); rintro e w9 ⟨rfl, hb9⟩)
    go_ret
    exact ⟨rfl, below_next (below_next (below_next hz hW7) hb8) hb9⟩
end Go.Proofs.YtdbcdabijolagaaDoor.valueGets
