/-
  The walk of the statement OutcomePuts: Put answers the value of any outcome, or that it may not be. Condition, as the card has it: the table utf.shapes lies as the program's text lays it.
-/
import Derived.Test.YtobnbgbijdhjjaaDoorOxq
import Derived.Test.YtobnbgbijdhjjaaDoorOci
namespace Go.Proofs.YtobnbgbijdhjjaaDoor.Oc
set_option maxRecDepth 100000
open Go.RowKit Go.Proofs.YtobnbgbijdhjjaaDoor.Utf Go.Proofs.YtobnbgbijdhjjaaDoor.Val Go.Proofs.YtobnbgbijdhjjaaDoor.Fl V
theorem xsame_self {k n : Nat} {t : ByteArray} {ks : List V} {A A' : Option Addr} {l l' c c' : Nat} {w : World} (hN : bulkL ks ≤ 1073741824) (hk : k < 256) (hn : n < 18446744073709551616) (h : Kd w ks A l c) (h' : Kd w ks A' l' c') :
    Calls Tryd.prog 19 #[.agg #[.int .u8 (k : Int), .int .u64 (n : Int), .string t, .slice A l c], .agg #[.int .u8 (k : Int), .int .u64 (n : Int), .string t, .slice A' l' c']] w (GivesB true w) := by
  have := xsame_any (bulkL ks) k n t ks A l c k n t ks A' l' c' w (Nat.le_refl _) (by omega) hk hk hn hn h h'
  rwa [same_self] at this
theorem put_bulk' (o : O) : bulk (putR o).1 ≤ o.c.size + 30 := by
  have h0 : bulk (putO o) ≤ o.c.size + 30 := by
    unfold putO
    by_cases h : o.k = 0
    · rw [if_pos h]; simp only [nullV, bulk, bulkL, size_nil]; omega
    · rw [if_neg h]
      have := tell_bulk o
      have h2 := bulk_take (tellO o) (cutN (tellO o) (tellO o).length)
      simp only [putL, bulk, bulkL, size_nil]
      unfold trim
      omega
  unfold putR
  by_cases h : mayO o = true
  · rw [if_pos h]; exact h0
  · rw [if_neg h]; simp only [Oc.zeroV, bulk, bulkL, size_nil]; omega
theorem put_er (o : O) : (putR o).2 = 0 ∨ (putR o).2 = 1 := by
  unfold putR
  by_cases h : mayO o = true
  · rw [if_pos h]; exact .inl rfl
  · rw [if_neg h]; exact .inr rfl
end Go.Proofs.YtobnbgbijdhjjaaDoor.Oc
namespace Go.Proofs.YtobnbgbijdhjjaaDoor.outcomePuts
set_option maxRecDepth 100000
open Go.RowKit Go.Proofs.YtobnbgbijdhjjaaDoor.Utf Go.Proofs.YtobnbgbijdhjjaaDoor.Val Go.Proofs.YtobnbgbijdhjjaaDoor.Fl Go.Proofs.YtobnbgbijdhjjaaDoor.Oc V

set_option maxHeartbeats 2000000 in
theorem walk (k a b : Nat) (c : ByteArray) (w : World) (hTab : Tab w) (ha : a < 18446744073709551616) (hb : b < 18446744073709551616) : Calls Tryd.prog 4 #[.agg #[.int .u8 (k : Int), .int .u64 (a : Int), .int .u64 (b : Int), .string c]] w (GivesB true w) := by
  have hB : Below w.heap.size w (w.alloc (.cells #[.int .u8 (k : Int), .int .u64 (a : Int), .int .u64 (b : Int), .string c] 52)) := (Below.refl _ _).alloc (Nat.le_refl _) _
  have HX := Lib.hid (BxO.new w (.int .u8 (k : Int)) (.int .u64 (a : Int)) (.int .u64 (b : Int)) (.string c))
  have HB := Lib.hid hB
  have HT := Lib.hid hTab
  clear hB hTab
  by_cases hs : 4096 < c.size
  · have hd : decide ((4096 : Int) < (c.size : Int)) = true := decide_eq_true (by omega)
    clear hs ha hb
    go_enter Tryd.func4, Tryd.ntmps4
    go_wp2_with fail
    refine (works8_any _ (HT.out.call HB.out)).mono ?_
    rintro e w1 ⟨rfl, hb1⟩
    go_wp2_with fail
    go_ret
    exact ⟨rfl, below_next HB.out hb1⟩
  · have hd : decide ((4096 : Int) < (c.size : Int)) = false := decide_eq_false (by omega)
    have HP := Lib.hid (fun w => oput_any k a b c w (by omega) ha hb)
    have HQ := Lib.hid (fun w => xoput_any k a b c w (by omega) ha hb)
    have HBK := Lib.hid (show bulk (putR ⟨k, a, b, c⟩).1 ≤ 5000 by have := put_bulk' ⟨k, a, b, c⟩; simp only at this; omega)
    obtain ⟨x0, x1, x2, x3, xf⟩ := HX.out.all
    obtain ⟨er, her⟩ : ∃ er, (putR ⟨k, a, b, c⟩).2 = er := ⟨_, rfl⟩
    rw [her] at HP HQ
    clear hs ha hb her
    go_enter Tryd.func4, Tryd.ntmps4
    go_wp2_with fail
    refine (HP.out _).mono ?_
    rintro e w1 ⟨pk, pn, pt, pks, pA, pl, pc, hpv, hpk, hpn, rfl, hpN, hb1⟩
    have hnx := below_next hb1 ((Below.refl _ _).alloc (Nat.le_refl _) (.cells #[.int .u8 (pk : Int), .int .u64 (pn : Int), .string pt, .slice pA pl pc] 25))
    have HX1 := Lib.hid (HX.out.call hnx)
    have H3 := Lib.hid (Box.new w1 (.int .u8 (pk : Int)) (.int .u64 (pn : Int)) (.string pt) (.slice pA pl pc))
    have HPV := Lib.hid hpv
    have HPK := Lib.hid hpk
    have HPN := Lib.hid hpn
    have HK3 := Lib.hid (hpN.kd.alloc (.cells #[.int .u8 (pk : Int), .int .u64 (pn : Int), .string pt, .slice pA pl pc] 25))
    have HB1 := Lib.hid (below_next HB.out hnx)
    obtain ⟨y0, y1, y2, y3, yf⟩ := (HX.out.call hb1).all
    have hyl := (HX.out.call hb1).lt
    have hyne : ¬ w.heap.size = w1.heap.size := by omega
    clear hb1 hnx hpv hpk hpn hpN HX HB x0 x1 x2 x3 xf
    go_wp2_with fail
    refine (HQ.out _).mono ?_
    rintro e w2 ⟨qk, qn, qt, qks, yA, yl, yc, hqv, _, _, rfl, hqN, hb2⟩
    rw [HPV.out] at hqv
    injection hqv with q1 q2 q3 q4
    subst q1; subst q2; subst q3; subst q4
    have hnx := below_next hb2 ((Below.refl _ _).alloc (Nat.le_refl _) (.cells #[.int .u8 (pk : Int), .int .u64 (pn : Int), .string pt, .slice yA yl yc] 25))
    have HK4 := Lib.hid (hqN.kd.alloc (.cells #[.int .u8 (pk : Int), .int .u64 (pn : Int), .string pt, .slice yA yl yc] 25))
    have HK3b := Lib.hid (HK3.out.call hnx)
    have HB2 := Lib.hid (below_next HB1.out hnx)
    obtain ⟨z0, z1, z2, z3, zf⟩ := (H3.out.call hb2).all
    have hzl := (H3.out.call hb2).lt
    have hzne : ¬ w1.heap.size = w2.heap.size := by omega
    clear hb2 hnx hqN y0 y1 y2 y3 yf hyl hyne
    go_wp2_with fail
    refine (xsame_self (by have := HBK.out; rw [HPV.out] at this; simp only [bulk] at this; omega) HPK.out HPN.out HK3b.out HK4.out).mono ?_
    rintro e w3 ⟨rfl, hb3⟩
    have HB3 := Lib.hid (below_next HB2.out hb3)
    clear hb3
    go_wp2_with fail
    refine (works8_any _ (HT.out.call HB3.out)).mono ?_
    rintro e w4 ⟨rfl, hb4⟩
    go_wp2_with fail
    go_ret
    exact ⟨rfl, below_next HB3.out hb4⟩
end Go.Proofs.YtobnbgbijdhjjaaDoor.outcomePuts
