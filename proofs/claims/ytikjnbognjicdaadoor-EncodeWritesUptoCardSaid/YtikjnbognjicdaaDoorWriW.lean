/-
  The walk of the statement EncodeWrites: the bytes of any value, in new memory, or that it may not be. Conditions: the table utf.shapes lies as the program's text lays it; values of bulk at most 2^20.
-/
import Derived.Test.YtikjnbognjicdaaDoorXins
import Derived.Test.YtikjnbognjicdaaDoorApt
import Derived.Test.YtikjnbognjicdaaDoorXrig
namespace Go.Proofs.YtikjnbognjicdaaDoor.Enc
set_option maxRecDepth 100000
open Go.RowKit Go.Proofs.YtikjnbognjicdaaDoor.Utf Go.Proofs.YtikjnbognjicdaaDoor.Val V

theorem xenc_no (k n : Nat) (t : ByteArray) (ks : List V) (A : Option Addr) (l c : Nat) (w : World) (hok : okB (.mk k n t ks) = false) (hN : bulk (.mk k n t ks) ≤ 1048576) (hn : n < 18446744073709551616) (hK : Kd w ks A l c) :
    Calls Tryd.prog 13 #[.agg #[.int .u8 (k : Int), .int .u64 (n : Int), .string t, .slice A l c]] w (GivesNone w) := by
  have hB : Below w.heap.size w (w.alloc (.cells #[.int .u8 (k : Int), .int .u64 (n : Int), .string t, .slice A l c] 25)) := (Below.refl _ _).alloc (Nat.le_refl _) _
  have hR := valueRights.xright_any k n t ks A l c (w.alloc (.cells #[.int .u8 (k : Int), .int .u64 (n : Int), .string t, .slice A l c] 25)) hN hn (hK.alloc _)
  rw [hok] at hR
  obtain ⟨z0, z1, z2, z3, _⟩ := (Box.new w (.int .u8 (k : Int)) (.int .u64 (n : Int)) (.string t) (.slice A l c)).all
  go_enter Tryd.func13, Tryd.ntmps13
  go_wp2_with (go_at_call 32; (with_reducible refine hR.mono ?_); rintro e w1 ⟨rfl, hb1⟩)
  go_ret2
  exact ⟨rfl, below_next hB hb1⟩
theorem xenc_yes (k n : Nat) (t : ByteArray) (ks : List V) (A : Option Addr) (l c : Nat) (w : World) (hok : okB (.mk k n t ks) = true) (hN : bulk (.mk k n t ks) ≤ 1048576) (hk : k < 256) (hn : n < 18446744073709551616) (hK : Kd w ks A l c) :
    Calls Tryd.prog 13 #[.agg #[.int .u8 (k : Int), .int .u64 (n : Int), .string t, .slice A l c]] w (GivesV (.mk k n t ks) w) := by
  have hB : Below w.heap.size w (w.alloc (.cells #[.int .u8 (k : Int), .int .u64 (n : Int), .string t, .slice A l c] 25)) := (Below.refl _ _).alloc (Nat.le_refl _) _
  have hR := valueRights.xright_any k n t ks A l c (w.alloc (.cells #[.int .u8 (k : Int), .int .u64 (n : Int), .string t, .slice A l c] 25)) hN hn (hK.alloc _)
  rw [hok] at hR
  have hW := xwrite_any (good_of hok hn hK (by omega)) (by omega)
  have hx := Box.new w (.int .u8 (k : Int)) (.int .u64 (n : Int)) (.string t) (.slice A l c)
  have HX := Lib.hid hx
  have HK := Lib.hid (hK.call hB)
  have HB := Lib.hid hB
  obtain ⟨z0, z1, z2, z3, _⟩ := hx.all
  clear hx hK
  go_enter Tryd.func13, Tryd.ntmps13
  go_wp2_with fail
  refine hR.mono ?_
  rintro e w1 ⟨rfl, hb1⟩
  obtain ⟨y0, y1, y2, y3, _⟩ := (HX.out.call hb1).all
  have HB1 := Lib.hid (below_next HB.out hb1)
  go_wp2_with fail
  refine (WriteC.call hW hk hn (HK.out.call hb1)).mono ?_
  rintro e w2 ⟨A2, m2, c2, rfl, ho2, hb2⟩
  have HO := Lib.hid (ho2.mono (base' := w.heap.size) HB1.out.size)
  have HB2 := Lib.hid (below_next HB1.out hb2)
  clear ho2 hb2 hb1 hR hB
  go_wp2
  go_ret2
  exact ⟨A2, m2, c2, rfl, HO.out, HB2.out⟩
theorem xsame_s {k n : Nat} {t : ByteArray} {ks : List V} {A A' : Option Addr} {l l' c c' : Nat} {w : World} (hN : bulkL ks ≤ 1099511627776) (hk : k < 256) (hn : n < 18446744073709551616) (h : Kd w ks A l c) (h' : Kd w ks A' l' c') :
    Calls Tryd.prog 15 #[.agg #[.int .u8 (k : Int), .int .u64 (n : Int), .string t, .slice A l c], .agg #[.int .u8 (k : Int), .int .u64 (n : Int), .string t, .slice A' l' c']] w (Val.GivesB true w) := by
  have := xsame_any (bulkL ks) k n t ks A l c k n t ks A' l' c' w (Nat.le_refl _) hN hk hk hn hn h h'
  rwa [same_self] at this
theorem blocks_ne {w1 w2 : World} {b1 b2 n1 c1 n2 c2 : Nat} {A1 A2 : Option Addr} {L1 L2 : List Nat} (h1 : Utf.Own .u8 256 5 w1 b1 A1 n1 c1 L1) (h2 : Utf.Own .u8 256 5 w2 b2 A2 n2 c2 L2) (hs : w1.heap.size ≤ b2) : ∀ b b' o, A1 = some ⟨b, 0, none⟩ → A2 = some ⟨b', o, none⟩ → b' ≠ b := fun b b' o e1 e2 => by
  have := (h1.blk b (by rw [e1]; rfl)).2
  have := (h2.blk b' (by rw [e2]; rfl)).1
  omega
end Go.Proofs.YtikjnbognjicdaaDoor.Enc
namespace Go.Proofs.YtikjnbognjicdaaDoor.encodeWrites
set_option maxRecDepth 100000
open Go.RowKit Go.Proofs.YtikjnbognjicdaaDoor.Utf Go.Proofs.YtikjnbognjicdaaDoor.Val Go.Proofs.YtikjnbognjicdaaDoor.Enc V

/-- What the walk keeps: the value, and its copy. -/
structure SW (w0 w1 : World) (g k n : Nat) (t : ByteArray) (ks : List V) (A : Option Addr) (l c g' : Nat) (A' : Option Addr) (c' : Nat) : Prop where
  one : St1 w0 w1 g k n t ks A l c
  bx : Box w1 g' (.int .u8 (k : Int)) (.int .u64 (n : Int)) (.string t) (.slice A' l c')
  kd : Kd w1 ks A' l c'
theorem SW.call {w0 w1 w2 : World} {g k n : Nat} {t : ByteArray} {ks : List V} {A : Option Addr} {l c g' : Nat} {A' : Option Addr} {c' : Nat} (h : SW w0 w1 g k n t ks A l c g' A' c') (hb : Below w1.heap.size w1 w2) : SW w0 w2 g k n t ks A l c g' A' c' := ⟨h.one.call hb, h.bx.call hb, h.kd.call hb⟩
theorem SW.all {w0 w1 : World} {g k n : Nat} {t : ByteArray} {ks : List V} {A : Option Addr} {l c g' : Nat} {A' : Option Addr} {c' : Nat} (h : SW w0 w1 g k n t ks A l c g' A' c') : w1.cell? ⟨g, 0, none⟩ = some (.int .u8 (k : Int)) ∧ w1.cell? ⟨g, 1, none⟩ = some (.int .u64 (n : Int)) ∧ w1.cell? ⟨g, 2, none⟩ = some (.string t) ∧ w1.cell? ⟨g, 3, none⟩ = some (.slice A l c) ∧
    w1.cell? ⟨g', 0, none⟩ = some (.int .u8 (k : Int)) ∧ w1.cell? ⟨g', 1, none⟩ = some (.int .u64 (n : Int)) ∧ w1.cell? ⟨g', 2, none⟩ = some (.string t) ∧ w1.cell? ⟨g', 3, none⟩ = some (.slice A' l c') := by
  obtain ⟨a0, a1, a2, a3, _⟩ := h.one.box.all
  obtain ⟨b0, b1, b2, b3, _⟩ := h.bx.all
  exact ⟨a0, a1, a2, a3, b0, b1, b2, b3⟩

set_option maxHeartbeats 4000000 in
theorem walk (k n : Nat) (t : ByteArray) (ks : List V) (A : Option Addr) (l c : Nat) (w : World) (ht : Tab w) (hN : bulk (.mk k n t ks) ≤ 1048576) (hk : k < 256) (hn : n < 18446744073709551616) (hK : Kd w ks A l c) :
    Calls Tryd.prog 3 #[.agg #[.int .u8 (k : Int), .int .u64 (n : Int), .string t, .slice A l c]] w (Val.GivesB true w) := by
  have hB : Below w.heap.size w (w.alloc (.cells #[.int .u8 (k : Int), .int .u64 (n : Int), .string t, .slice A l c] 25)) := (Below.refl _ _).alloc (Nat.le_refl _) _
  have B1 := Box.new w (.int .u8 (k : Int)) (.int .u64 (n : Int)) (.string t) (.slice A l c)
  have hK1 := hK.call hB
  have hKL := kd_one (t := t) hk hn hK1
  obtain ⟨p, hp⟩ : ∃ p, decide (8192 < bigL [V.mk k n t ks]) = p := ⟨_, rfl⟩
  have HL := large_any _ _ 1 1 _ (by simp only [bulkL]; omega) hKL
  rw [hp, World.size_alloc] at HL
  have S0 : Enc.St1 w _ w.heap.size k n t ks A l c := (Enc.St1.mk B1 hK1 (ht.call hB) hB).alloc (.cells #[.int .u8 (k : Int), .int .u64 (n : Int), .string t, .slice A l c] 25)
  have HLH := Lib.hid HL
  have HS := Lib.hid S0
  have HN := Lib.hid hN
  have hnl : (V.mk k n t ks).bulk ≤ 33554432 := by omega
  have hbk : bulkL ks ≤ 1073741824 := by simp only [bulk] at hN; omega
  clear S0 hp hKL B1 hB hK hK1 ht HL hN
  go_enter Tryd.func3, Tryd.ntmps3
  go_wp2_with fail
  refine HLH.out.mono ?_
  rintro e w1 ⟨rfl, hq1⟩
  have S1 := HS.out.call hq1
  obtain ⟨a0, a1, a2, a3, _⟩ := S1.box.all
  have H1 := Lib.hid S1
  clear HLH HS hq1 S1
  cases p with
  | true =>
    go_wp2_with (go_at_call 10; (with_reducible refine (Enc.works_any _ H1.out.tab).mono ?_); rintro e w3 ⟨rfl, hb3⟩)
    go_ret
    exact ⟨rfl, below_next H1.out.low hb3⟩
  | false =>
  go_wp2_with fail
  refine (xcopy_any k n t ks A l c w1 hbk H1.out.kd).mono ?_
  rintro e w2 ⟨A2, l2, c2, rfl, hN2, hb2⟩
  obtain rfl : l2 = l := by rw [hN2.len, H1.out.kd.len]
  obtain ⟨g2, hg2⟩ : ∃ g, w2.heap.size = g := ⟨_, rfl⟩
  have hx2 : SW w (w2.alloc (.cells #[.int .u8 (k : Int), .int .u64 (n : Int), .string t, .slice A2 l2 c2] 25)) w.heap.size k n t ks A l2 c g2 A2 c2 := ⟨(H1.out.call hb2).alloc _, hg2 ▸ Box.new w2 _ _ _ _, hN2.kd.alloc _⟩
  obtain ⟨w3, hw3⟩ : ∃ x, w2.alloc (.cells #[.int .u8 (k : Int), .int .u64 (n : Int), .string t, .slice A2 l2 c2] 25) = x := ⟨_, rfl⟩
  rw [hw3] at hx2
  obtain ⟨b0, b1, b2, b3, b4, b5, b6, b7⟩ := hx2.all
  have H3 := Lib.hid hx2
  clear hN2 hb2 hx2 a0 a1 a2 a3
  go_wp2_with fail
  clear hg2 hw3
  cases hv : okB (.mk k n t ks) with
  | false =>
    have HV := Lib.hid hv
    clear hv
    refine (Enc.encv_no k n t ks A2 l2 c2 w3 HV.out hnl hn H3.out.kd H3.out.one.tab).mono ?_
    rintro e w4 ⟨rfl, hb4⟩
    have H4 := Lib.hid (H3.out.call hb4)
    clear b0 b1 b2 b3 b4 b5 b6 b7 hb4
    obtain ⟨b0, b1, b2, b3, b4, b5, b6, b7⟩ := H4.out.all
    go_wp2_with fail
    refine (Enc.xenc_no k n t ks A l2 c w4 HV.out HN.out hn H4.out.one.kd).mono ?_
    rintro e w5 ⟨rfl, hb5⟩
    have H5 := Lib.hid (H4.out.call hb5)
    clear b0 b1 b2 b3 b4 b5 b6 b7 hb5
    obtain ⟨b0, b1, b2, b3, b4, b5, b6, b7⟩ := H5.out.all
    go_wp2_with fail
    refine (eqbytes_same 0 0 none none 0 0 0 [] w5 (Rd.zero _ _ _ _ _) (Rd.zero _ _ _ _ _)).mono ?_
    rintro e w6 ⟨rfl, rfl⟩
    go_wp2_with fail
    refine (xsame_s (by have := HN.out; simp only [bulk] at this; omega) hk hn H5.out.kd H5.out.one.kd).mono ?_
    rintro e w7 ⟨rfl, hb7⟩
    have H7 := Lib.hid (H5.out.call hb7)
    clear b0 b1 b2 b3 b4 b5 b6 b7 hb7
    obtain ⟨b0, b1, b2, b3, b4, b5, b6, b7⟩ := H7.out.all
    go_wp2_with fail
    refine (Enc.encv_no k n t ks A2 l2 c2 w7 HV.out hnl hn H7.out.kd H7.out.one.tab).mono ?_
    rintro e w8 ⟨rfl, hb8⟩
    have H8 := Lib.hid (H7.out.call hb8)
    have HD := Lib.hid (show Apt.Duo2 (w8.alloc (.cells #[.slice none 0 0, .slice none 0 0] 29)) w8.heap.size none 0 0 [] none 0 0 [] 0 from ⟨heap_alloc_new w8 _, Utf.Own.nil _ _ _ _ _, Utf.Own.nil _ _ _ _ _, fun b b' o e => by cases e⟩)
    clear b0 b1 b2 b3 b4 b5 b6 b7 hb8
    go_wp2_with fail
    refine (Apt.apart_any _ _ _ _ _ _ _ _ _ _ _ HD.out).mono ?_
    rintro e w9 ⟨rfl, hb9⟩
    have H9 := Lib.hid ((H8.out.call ((Below.refl _ _).alloc (Nat.le_refl _) (.cells #[.slice none 0 0, .slice none 0 0] 29))).call hb9)
    go_wp2_with fail
    refine (Enc.works_any _ H9.out.one.tab).mono ?_
    rintro e w10 ⟨rfl, hb10⟩
    go_wp2_with fail
    go_ret
    exact ⟨rfl, below_next H9.out.one.low hb10⟩
  | true =>
    have HV := Lib.hid hv
    clear hv
    refine (Enc.encv_yes k n t ks A2 l2 c2 w3 HV.out hnl hk hn H3.out.kd H3.out.one.tab).mono ?_
    rintro e w4 ⟨A4, m4, c4, rfl, ho4, hb4⟩
    have H4 := Lib.hid (H3.out.call hb4)
    have HO4 := Lib.hid ho4
    have HSZ : Hid (w3.heap.size ≤ w4.heap.size) := Lib.hid hb4.size
    clear b0 b1 b2 b3 b4 b5 b6 b7 hb4 ho4
    obtain ⟨b0, b1, b2, b3, b4, b5, b6, b7⟩ := H4.out.all
    go_wp2_with fail
    refine (Enc.xenc_yes k n t ks A l2 c w4 HV.out HN.out hk hn H4.out.one.kd).mono ?_
    rintro e w5 ⟨A5, m5, c5, rfl, ho5, hb5⟩
    obtain rfl : m5 = m4 := by rw [← ho5.len, ← HO4.out.len]
    have H5 := Lib.hid (H4.out.call hb5)
    have HO5 := Lib.hid (HO4.out.below hb5)
    have HSZ : Hid (w3.heap.size ≤ w5.heap.size) := Lib.hid (Nat.le_trans HSZ.out hb5.size)
    have HR5 := Lib.hid ho5.rd
    clear b0 b1 b2 b3 b4 b5 b6 b7 hb5 ho5
    obtain ⟨b0, b1, b2, b3, b4, b5, b6, b7⟩ := H5.out.all
    go_wp2_with fail
    refine (eqbytes_same _ _ A4 A5 m5 c4 c5 _ w5 HO5.out.rd HR5.out).mono ?_
    rintro e w6 ⟨rfl, rfl⟩
    go_wp2_with fail
    refine (xsame_s (by have := HN.out; simp only [bulk] at this; omega) hk hn H5.out.kd H5.out.one.kd).mono ?_
    rintro e w7 ⟨rfl, hb7⟩
    have H7 := Lib.hid (H5.out.call hb7)
    have HO7 := Lib.hid (HO5.out.below hb7)
    have HSZ : Hid (w3.heap.size ≤ w7.heap.size) := Lib.hid (Nat.le_trans HSZ.out hb7.size)
    clear b0 b1 b2 b3 b4 b5 b6 b7 hb7
    obtain ⟨b0, b1, b2, b3, b4, b5, b6, b7⟩ := H7.out.all
    go_wp2_with fail
    refine (Enc.encv_yes k n t ks A2 l2 c2 w7 HV.out hnl hk hn H7.out.kd H7.out.one.tab).mono ?_
    rintro e w8 ⟨A8, m8, c8, rfl, ho8, hb8⟩
    have H8 := Lib.hid (H7.out.call hb8)
    have hne := blocks_ne HO7.out ho8 (Nat.le_refl _)
    have hsz : w3.heap.size ≤ w7.heap.size := HSZ.out
    have HD := Lib.hid (show Apt.Duo2 (w8.alloc (.cells #[.slice A4 m5 c4, .slice A8 m8 c8] 29)) w8.heap.size A4 m5 c4 _ A8 m8 c8 _ w3.heap.size from ⟨heap_alloc_new w8 _, (HO7.out.below hb8).alloc _, (ho8.mono hsz).alloc _, hne⟩)
    clear b0 b1 b2 b3 b4 b5 b6 b7 hb8 ho8
    go_wp2_with fail
    refine (Apt.apart_any _ _ _ _ _ _ _ _ _ _ _ HD.out).mono ?_
    rintro e w9 ⟨rfl, hb9⟩
    have H9 := Lib.hid ((H8.out.call ((Below.refl _ _).alloc (Nat.le_refl _) (.cells #[.slice A4 m5 c4, .slice A8 m8 c8] 29))).call hb9)
    go_wp2_with fail
    refine (Enc.works_any _ H9.out.one.tab).mono ?_
    rintro e w10 ⟨rfl, hb10⟩
    go_wp2_with fail
    go_ret
    exact ⟨rfl, below_next H9.out.one.low hb10⟩
end Go.Proofs.YtikjnbognjicdaaDoor.encodeWrites
