/-
  Contract of the laws' works (the anchor): an outcome is told as a value, and back. Memory that was there stays. Condition: the table utf.shapes lies as the program's text lays it.
-/
import Derived.Test.YtohmnbefokhjpaaDoorOcg
import Derived.Test.YtohmnbefokhjpaaDoorOch
namespace Go.Proofs.YtohmnbefokhjpaaDoor.Oc
set_option maxRecDepth 100000
open Go.RowKit Go.Proofs.YtohmnbefokhjpaaDoor.Utf Go.Proofs.YtohmnbefokhjpaaDoor.Val Go.Proofs.YtohmnbefokhjpaaDoor.Fl V

/-- What Put answers of an outcome that may be, and is one. -/
def GivesPU (code : Nat) (us : List V) (w : World) (e : Ending) (w' : World) : Prop := ∃ A l c, e = .returned (.tuple #[.agg #[.int .u8 25, .int .u64 0, .string ⟨#[]⟩, .slice A l c], .int .i64 0]) ∧ Nw w.heap.size w' (putL code us) A l c ∧ Below w.heap.size w w'
theorem oput_yes {o : O} (hm : mayO o = true) (h0 : o.k ≠ 0) (w : World) (hs : o.c.size ≤ 268435456) (ha : o.a < 18446744073709551616) (hb : o.b < 18446744073709551616) : Calls Tryd.prog 4 #[oV o] w (GivesPU (34 + o.k) (trim (tellO o)) w) := by
  refine (oput_any o.k o.a o.b o.c w hs ha hb).mono ?_
  rintro e w1 ⟨k, n, t, ks, A, l, c, hv, _, _, he, hN, hb1⟩
  have e1 : putR ⟨o.k, o.a, o.b, o.c⟩ = (putO o, 0) := if_pos hm
  rw [e1] at hv he
  have hv : putO o = .mk k n t ks := hv
  rw [put_some h0] at hv
  injection hv with q1 q2 q3 q4
  subst q1; subst q2; subst q3; subst q4
  exact ⟨A, l, c, he, hN, hb1⟩
theorem oget25 (ks : List V) (A : Option Addr) (l c : Nat) (w : World) (hN : bulkL ks ≤ 268435456) (hK : Kd w ks A l c) (hTab : Tab w) : Calls Tryd.prog 8 #[.agg #[.int .u8 25, .int .u64 0, .string ⟨#[]⟩, .slice A l c]] w (GivesOE (getR (.mk 25 0 ⟨#[]⟩ ks)) w) := oget_any 25 0 ⟨#[]⟩ ks A l c w hN (by simp [ByteArray.size]) (by omega) hK hTab
def nf : ByteArray := ⟨#[97, 109, 113, 112, 58, 110, 111, 116, 45, 102, 111, 117, 110, 100]⟩
def o8 : O := ⟨3, 0, 0, nf⟩
theorem may_o8 : mayO o8 = true := by decide
theorem w8_put (w : World) : Calls Tryd.prog 4 #[.agg #[.int .u8 3, .int .u64 0, .int .u64 0, .string ⟨#[97, 109, 113, 112, 58, 110, 111, 116, 45, 102, 111, 117, 110, 100]⟩]] w (GivesPU 37 (trim (tellO o8)) w) := oput_yes may_o8 (by decide) w (by decide) (by decide) (by decide)
theorem bulk_o8 : bulkL (putL 37 (trim (tellO o8))) ≤ 268435456 := by decide
theorem w8_get (A : Option Addr) (l c : Nat) (w : World) (hK : Kd w (putL 37 (trim (tellO o8))) A l c) (hTab : Tab w) : Calls Tryd.prog 8 #[.agg #[.int .u8 25, .int .u64 0, .string ⟨#[]⟩, .slice A l c]] w fun e w' => e = .returned (.tuple #[.agg #[.int .u8 3, .int .u64 0, .int .u64 0, .string ⟨#[97, 109, 113, 112, 58, 110, 111, 116, 45, 102, 111, 117, 110, 100]⟩], .int .i64 0]) ∧ Below w.heap.size w w' := by
  have h := oget25 _ A l c w bulk_o8 hK hTab
  have e : getR (.mk 25 0 ⟨#[]⟩ (putL 37 (trim (tellO o8)))) = some o8 := get_put may_o8
  rw [e] at h
  exact h
theorem get_num (n : Nat) : getR (.mk 5 n ⟨#[]⟩ []) = none := by
  refine get_miss (by show ¬ (5 = 1); omega) (first_no fun j _ => ?_)
  exact if_neg fun h => by have : (5 : Nat) = 25 := h.2; omega
theorem w8_no (w : World) (hTab : Tab w) : Calls Tryd.prog 8 #[.agg #[.int .u8 5, .int .u64 1, .string ⟨#[]⟩, .slice none 0 0]] w fun e w' => e = .returned (.tuple #[.agg #[.int .u8 0, .int .u64 0, .int .u64 0, .string ⟨#[]⟩], .int .i64 6]) ∧ Below w.heap.size w w' := by
  have h := oget_any 5 1 ⟨#[]⟩ [] none 0 0 w (by simp [bulkL]) (by simp [ByteArray.size]) (by omega) (Kd.none_ _ _ _) hTab
  rw [get_num] at h
  exact h

set_option maxHeartbeats 1000000 in
theorem works8_any (w : World) (hTab : Tab w) : Calls Tryd.prog 5 #[] w (GivesB true w) := by
  have HX1 := Lib.hid (BxO.new w (.int .u8 3) (.int .u64 0) (.int .u64 0) (.string ⟨#[97, 109, 113, 112, 58, 110, 111, 116, 45, 102, 111, 117, 110, 100]⟩))
  have HB0 := Lib.hid (show Below w.heap.size w (w.alloc (.cells #[.int .u8 3, .int .u64 0, .int .u64 0, .string ⟨#[97, 109, 113, 112, 58, 110, 111, 116, 45, 102, 111, 117, 110, 100]⟩] 24)) from (Below.refl _ _).alloc (Nat.le_refl _) _)
  have HT := Lib.hid hTab
  clear hTab
  go_enter Tryd.func5, Tryd.ntmps5
  go_wp2_with fail
  refine (w8_put _).mono ?_
  rintro e w1 ⟨A, l, c, rfl, hN, hb1⟩
  have HX1b := Lib.hid ((HX1.out.call hb1).call ((Below.refl w1.heap.size w1).alloc (Nat.le_refl _) (.cells #[.int .u8 25, .int .u64 0, .string ⟨#[]⟩, .slice A l c] 27)))
  have HX2 := Lib.hid (Box.new w1 (.int .u8 25) (.int .u64 0) (.string ⟨#[]⟩) (.slice A l c))
  have HK := Lib.hid (hN.kd.alloc (.cells #[.int .u8 25, .int .u64 0, .string ⟨#[]⟩, .slice A l c] 27))
  have HB1 := Lib.hid (below_next (below_next HB0.out hb1) ((Below.refl w1.heap.size w1).alloc (Nat.le_refl _) (.cells #[.int .u8 25, .int .u64 0, .string ⟨#[]⟩, .slice A l c] 27)))
  clear hN hb1 HX1 HB0
  go_wp2_with fail
  refine (w8_get A l c _ HK.out (HT.out.call HB1.out)).mono ?_
  rintro e w2 ⟨rfl, hb2⟩
  have hb2' := below_next hb2 ((Below.refl w2.heap.size w2).alloc (Nat.le_refl _) (.cells #[.int .u8 3, .int .u64 0, .int .u64 0, .string ⟨#[97, 109, 113, 112, 58, 110, 111, 116, 45, 102, 111, 117, 110, 100]⟩] 24))
  have HX1c := Lib.hid (HX1b.out.call hb2')
  have HX2c := Lib.hid (HX2.out.call hb2')
  have HKc := Lib.hid (HK.out.call hb2')
  have HX4 := Lib.hid (BxO.new w2 (.int .u8 3) (.int .u64 0) (.int .u64 0) (.string ⟨#[97, 109, 113, 112, 58, 110, 111, 116, 45, 102, 111, 117, 110, 100]⟩))
  have HB2 := Lib.hid (below_next HB1.out hb2')
  clear hb2 hb2' HX1b HX2 HK HB1
  go_wp2_with fail
  refine (num_any 5 1 _).mono ?_
  rintro e w3 ⟨rfl, hb3⟩
  have HX1d := Lib.hid (HX1c.out.call hb3)
  have HX2d := Lib.hid (HX2c.out.call hb3)
  have HKd := Lib.hid (HKc.out.call hb3)
  have HX4d := Lib.hid (HX4.out.call hb3)
  have HB3 := Lib.hid (below_next HB2.out hb3)
  clear hb3 HX1c HX2c HKc HX4 HB2
  go_wp2_with fail
  refine (w8_no _ (HT.out.call HB3.out)).mono ?_
  rintro e w4 ⟨rfl, hb4⟩
  obtain ⟨a0, a1, a2, a3, _⟩ := (HX1d.out.call hb4).all
  obtain ⟨b0, b1, b2, b3, _⟩ := (HX2d.out.call hb4).all
  obtain ⟨c0, c1, c2, c3, _⟩ := (HX4d.out.call hb4).all
  have hl1 := (HX1d.out.call hb4).lt
  have hl2 := (HX2d.out.call hb4).lt
  have hl4 := (HX4d.out.call hb4).lt
  obtain ⟨b, o, k1, n1, t1, ks1, A1, l1, m1, k2, n2, t2, ks2, A2, l2, m2, rfl, hbl, rfl, hx, hy, p0, p1, p2, p3, q0, q1, q2, q3, _⟩ := kids_pair (HKd.out.call hb4) rfl
  injection hx with e1 e2 e3 e4
  subst e1; subst e2; subst e3; subst e4
  have hne : ¬ b = w4.heap.size := by omega
  have HB4 := Lib.hid (below_next HB3.out hb4)
  clear hb4 HX1d HX2d HKd HX4d HB3 hy q0 q1 q2 q3
  go_wp2
  go_ret
  exact ⟨rfl, HB4.out.alloc HB4.out.size _⟩
end Go.Proofs.YtohmnbefokhjpaaDoor.Oc
