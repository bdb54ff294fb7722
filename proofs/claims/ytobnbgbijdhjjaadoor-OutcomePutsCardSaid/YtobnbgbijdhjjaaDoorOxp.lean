/-
  Contracts of the document's PutCond, May, flag and what they lean on. Memory that was there stays. Conditions: conditions of at most 2^28 bytes.
-/
import Derived.Test.YtobnbgbijdhjjaaDoorOcy
import Derived.Test.YtobnbgbijdhjjaaDoorFxp
namespace Go.Proofs.YtobnbgbijdhjjaaDoor.Oc
set_option maxRecDepth 100000
open Go.RowKit Go.Proofs.YtobnbgbijdhjjaaDoor.Utf Go.Proofs.YtobnbgbijdhjjaaDoor.Val Go.Proofs.YtobnbgbijdhjjaaDoor.Fl V

theorem xnul_new (w : World) : Calls Tryd.prog 59 #[] w fun e w' => e = .returned (.agg #[.int .u8 1, .int .u64 0, .string ⟨#[]⟩, .slice none 0 0]) ∧ Below w.heap.size w w' := by
  go_enter Tryd.func59, Tryd.ntmps59
  go_wp2
  exact bodyPost_ret (v := .agg #[.int .u8 1, .int .u64 0, .string ⟨#[]⟩, .slice none 0 0]) (by simp [results, Tryd.results59, go_sem]) rfl ⟨rfl, (Below.refl _ _).alloc (Nat.le_refl _) _⟩
theorem xnum_new (k n : Int) (w : World) : Calls Tryd.prog 56 #[.int .u8 k, .int .u64 n] w fun e w' => e = .returned (.agg #[.int .u8 k, .int .u64 n, .string ⟨#[]⟩, .slice none 0 0]) ∧ Below w.heap.size w w' := by
  go_enter Tryd.func56, Tryd.ntmps56
  go_wp2
  exact bodyPost_ret (v := .agg #[.int .u8 k, .int .u64 n, .string ⟨#[]⟩, .slice none 0 0]) (by simp [results, Tryd.results56, go_sem]) rfl ⟨rfl, (Below.refl _ _).alloc (Nat.le_refl _) _⟩
theorem xsym_new (t : ByteArray) (w : World) : Calls Tryd.prog 93 #[.int .u8 21, .string t] w fun e w' => e = .returned (.agg #[.int .u8 21, .int .u64 0, .string t, .slice none 0 0]) ∧ Below w.heap.size w w' := by
  go_enter Tryd.func93, Tryd.ntmps93
  go_wp2
  exact bodyPost_ret (v := .agg #[.int .u8 21, .int .u64 0, .string t, .slice none 0 0]) (by simp [results, Tryd.results93, go_sem]) rfl ⟨rfl, (Below.refl _ _).alloc (Nat.le_refl _) _⟩
theorem xp29 (ls : List V) (A : Option Addr) (l c : Nat) (w : World) (hN : bulkL ls ≤ 536870912) (hK : Kd w ls A l c) : Calls Tryd.prog 55 #[.int .u64 29, .slice A l c] w (GivesU 29 (trim ls) w) := Fl.xput_any 29 ls A l c w hN (by omega) hK

set_option maxHeartbeats 1000000 in
theorem xputcond_any (c : ByteArray) (w : World) (hs : c.size ≤ 268435456) : Calls Tryd.prog 57 #[.string c] w (GivesVE (condV c).1 (condV c).2 w) := by
  have hx := Box.new w (.int .u8 0) (.int .u64 0) (.string ⟨#[]⟩) (.slice none 0 0)
  have hb0 : Below w.heap.size w (w.alloc (.cells #[.int .u8 0, .int .u64 0, .string ⟨#[]⟩, .slice none 0 0] 25)) := (Below.refl _ _).alloc (Nat.le_refl _) _
  obtain ⟨w1, cc, hrun, hc', hr, hb1⟩ := conv_str (w.alloc (.cells #[.int .u8 0, .int .u64 0, .string ⟨#[]⟩, .slice none 0 0] 25)) c
  simp only [World.size_alloc] at hr hrun
  have HX1 := Lib.hid (hx.call hb1)
  have HB1 := Lib.hid (below_next hb0 hb1)
  have HA := Lib.hid (rascii_any _ _ _ cc _ w1 hr (by omega))
  have HS := Lib.hid hs
  clear hx hb0 hs hb1 hr hc'
  cases hc : cOk c with
  | false =>
    have HA2 : Hid (Calls Tryd.prog 92 #[.slice _ c.size cc] w1 fun e w' => e = .returned (.bool false) ∧ w1 = w') := Lib.hid (by have := HA.out; unfold cOk at hc; rw [hc] at this; exact this)
    have HE : Hid (condV c = (Oc.zeroV, 1)) := Lib.hid (by unfold condV; rw [hc]; rfl)
    clear hc HA
    go_enter Tryd.func57, Tryd.ntmps57
    go_wp2_with fail
    with_reducible refine HA2.out.mono ?_
    rintro e w2 ⟨rfl, rfl⟩
    obtain ⟨d0, d1, d2, d3, df⟩ := HX1.out.all
    go_wp2
    refine bodyPost_ret (v := .tuple #[.agg #[.int .u8 0, .int .u64 0, .string ⟨#[]⟩, .slice none 0 0], .int .i64 1]) (by simp [results, Tryd.results57, go_sem, d0, d1, d2, d3]) rfl ?_
    rw [HE.out]
    exact ⟨0, 0, ⟨#[]⟩, [], none, 0, 0, rfl, by omega, by omega, rfl, Go.Proofs.YtobnbgbijdhjjaaDoor.Val.Kids.none_ _ _ _ _ _, below_set4 HB1.out (by omega) _ _ _ _⟩
  | true =>
    have HA2 : Hid (Calls Tryd.prog 92 #[.slice _ c.size cc] w1 fun e w' => e = .returned (.bool true) ∧ w1 = w') := Lib.hid (by have := HA.out; unfold cOk at hc; rw [hc] at this; exact this)
    have HE : Hid (condV c = (errV c, 0)) := Lib.hid (by unfold condV; rw [hc]; rfl)
    clear hc HA
    by_cases h0 : c.size = 0
    · have HE2 : Hid (errV c = nullV) := Lib.hid (err_null h0)
      obtain rfl := empty_of h0
      clear h0
      go_enter Tryd.func57, Tryd.ntmps57
      go_wp2_with fail
      refine HA2.out.mono ?_
      rintro e w2 ⟨rfl, rfl⟩
      go_wp2_with fail
      refine (xnul_new _).mono ?_
      rintro e w2 ⟨rfl, hb2⟩
      obtain ⟨d0, d1, d2, d3, df⟩ := (HX1.out.call hb2).all
      have HB2 := Lib.hid (below_next HB1.out hb2)
      clear hb2
      go_wp2
      refine bodyPost_ret (v := .tuple #[.agg #[.int .u8 1, .int .u64 0, .string ⟨#[]⟩, .slice none 0 0], .int .i64 0]) (by simp [results, Tryd.results57, go_sem, d0, d1, d2, d3]) rfl ?_
      rw [HE.out, HE2.out]
      exact ⟨1, 0, ⟨#[]⟩, [], none, 0, 0, rfl, by omega, by omega, rfl, Go.Proofs.YtobnbgbijdhjjaaDoor.Val.Kids.none_ _ _ _ _ _, below_set4 HB2.out (by omega) _ _ _ _⟩
    · have HE2 := Lib.hid (err_kind h0)
      have hd : c.toList.isEmpty = false := empty_no' h0
      clear h0
      go_enter Tryd.func57, Tryd.ntmps57
      go_wp2_with fail
      with_reducible refine HA2.out.mono ?_
      rintro e w2 ⟨rfl, rfl⟩
      go_wp2_with fail
      refine (xsym_new c _).mono ?_
      rintro e w2 ⟨rfl, hb2⟩
      have HX2 := Lib.hid ((HX1.out.call hb2).alloc (.cells #[.int .u8 21, .int .u64 0, .string c, .slice none 0 0] 25))
      have HB2 := Lib.hid (below_next (below_next HB1.out hb2) ((Below.refl _ _).alloc (Nat.le_refl _) (.cells #[.int .u8 21, .int .u64 0, .string c, .slice none 0 0] 25)))
      clear hb2
      go_wp2_with fail
      refine (xp29 [.mk 21 0 c []] _ 1 1 _ (by have := HS.out; simp [bulkL, bulk]; omega) (kid21 c w2 _ rfl)).mono ?_
      rintro e w3 ⟨A1, l1, c1, rfl, hN3, hb3⟩
      obtain ⟨d0, d1, d2, d3, df⟩ := (HX2.out.call hb3).all
      have HN3 := Lib.hid hN3
      have HB3 := Lib.hid (below_next HB2.out hb3)
      have hs2 := HX2.out.lt
      clear hb3 hN3
      go_wp2
      refine bodyPost_ret (v := .tuple #[.agg #[.int .u8 25, .int .u64 0, .string ⟨#[]⟩, .slice A1 l1 c1], .int .i64 0]) (by simp [results, Tryd.results57, go_sem, d0, d1, d2, d3]) rfl ?_
      rw [HE.out, HE2.out]
      refine ⟨25, 0, ⟨#[]⟩, _, A1, l1, c1, rfl, by omega, by omega, rfl, ?_, below_set4 HB3.out (by omega) _ _ _ _⟩
      have hN3 := HN3.out
      rw [trim_sym] at hN3
      exact (hN3.far4 hs2 _ _ _ _).less (by have := HB2.out.size; omega)

theorem xtru_new (w : World) : Calls Tryd.prog 94 #[.bool true] w fun e w' => e = .returned (.agg #[.int .u8 2, .int .u64 1, .string ⟨#[]⟩, .slice none 0 0]) ∧ Below w.heap.size w w' := by
  go_enter Tryd.func94, Tryd.ntmps94
  go_wp2
  exact bodyPost_ret (v := .agg #[.int .u8 2, .int .u64 1, .string ⟨#[]⟩, .slice none 0 0]) (by simp [results, Tryd.results94, go_sem]) rfl ⟨rfl, (Below.refl _ _).alloc (Nat.le_refl _) _⟩
theorem xflag_any (n : Nat) (w : World) : Calls Tryd.prog 58 #[.int .u64 (n : Int)] w (fun e w' => ∃ k m : Nat, flagV n = .mk k m ⟨#[]⟩ [] ∧ k < 256 ∧ m < 18446744073709551616 ∧ e = .returned (.agg #[.int .u8 (k : Int), .int .u64 (m : Int), .string ⟨#[]⟩, .slice none 0 0]) ∧ Below w.heap.size w w') := by
  have hx := Box.new w (.int .u8 0) (.int .u64 0) (.string ⟨#[]⟩) (.slice none 0 0)
  have hb0 : Below w.heap.size w (w.alloc (.cells #[.int .u8 0, .int .u64 0, .string ⟨#[]⟩, .slice none 0 0] 25)) := (Below.refl _ _).alloc (Nat.le_refl _) _
  have HX := Lib.hid hx
  have HB := Lib.hid hb0
  clear hx hb0
  by_cases h0 : n = 0
  · subst h0
    go_enter Tryd.func58, Tryd.ntmps58
    go_wp2_with fail
    refine (xnul_new _).mono ?_
    rintro e w1 ⟨rfl, hb1⟩
    obtain ⟨d0, d1, d2, d3, df⟩ := (HX.out.call hb1).all
    have HB1 := Lib.hid (below_next HB.out hb1)
    clear hb1
    go_wp2
    refine bodyPost_ret (v := .agg #[.int .u8 1, .int .u64 0, .string ⟨#[]⟩, .slice none 0 0]) (by simp [results, Tryd.results58, go_sem, d0, d1, d2, d3]) rfl ?_
    exact ⟨1, 0, rfl, by omega, by omega, rfl, below_set4 HB1.out (by omega) _ _ _ _⟩
  · have HF : Hid (flagV n = .mk 2 1 ⟨#[]⟩ []) := Lib.hid (if_neg h0)
    have hd : ((n : Int) == 0) = false := by rw [beq_eq_false_iff_ne]; omega
    clear h0
    go_enter Tryd.func58, Tryd.ntmps58
    go_wp2_with fail
    refine (xtru_new _).mono ?_
    rintro e w1 ⟨rfl, hb1⟩
    obtain ⟨d0, d1, d2, d3, df⟩ := (HX.out.call hb1).all
    have HB1 := Lib.hid (below_next HB.out hb1)
    clear hb1
    go_wp2
    refine bodyPost_ret (v := .agg #[.int .u8 2, .int .u64 1, .string ⟨#[]⟩, .slice none 0 0]) (by simp [results, Tryd.results58, go_sem, d0, d1, d2, d3]) rfl ?_
    exact ⟨2, 1, HF.out, by omega, by omega, rfl, below_set4 HB1.out (by omega) _ _ _ _⟩

set_option maxHeartbeats 2000000 in
theorem xmay_any (k a b : Nat) (c : ByteArray) (w : World) (hs : c.size ≤ 268435456) : Calls Tryd.prog 54 #[.agg #[.int .u8 (k : Int), .int .u64 (a : Int), .int .u64 (b : Int), .string c]] w (GivesB (mayO ⟨k, a, b, c⟩) w) := by
  have HI := Lib.hid (fun w => xputcond_any c w hs)
  have HX := Lib.hid (BxO.new w (.int .u8 (k : Int)) (.int .u64 (a : Int)) (.int .u64 (b : Int)) (.string c))
  have hb0 : Below w.heap.size w (w.alloc (.cells #[.int .u8 (k : Int), .int .u64 (a : Int), .int .u64 (b : Int), .string c] 52)) := (Below.refl _ _).alloc (Nat.le_refl _) _
  have HB := Lib.hid hb0
  have HM := Lib.hid (mayO_eq k a b c)
  clear hs hb0
  cases hc : cOk c with
  | false =>
    rw [show condV c = (Oc.zeroV, 1) from if_neg (by rw [hc]; exact Bool.false_ne_true)] at HI
    have HR : Hid (mayO ⟨k, a, b, c⟩ = false) := Lib.hid (by rw [HM.out, hc, Bool.and_false]; rfl)
    clear hc
    go_enter Tryd.func54, Tryd.ntmps54
    go_wp2_with (go_at_call 57; refine (HI.out _).mono ?_; rintro e w1 ⟨pk, pn, pt, pks, pA, pl, pc, _, _, _, rfl, _, hb1⟩; obtain ⟨d0, d1, d2, d3, df⟩ := (HX.out.call hb1).all; have hlx := (HX.out.call hb1).lt; have hnx : ¬ w.heap.size = w1.heap.size := (by omega); have HB1 := Lib.hid (below_next (below_next HB.out hb1) ((Below.refl w1.heap.size w1).alloc (Nat.le_refl _) (.cells #[.int .u8 (pk : Int), .int .u64 (pn : Int), .string pt, .slice pA pl pc] 25))); clear hb1)
    go_ret
    exact ⟨by rw [HR.out]; rfl, HB1.out⟩
  | true =>
    rw [show condV c = (errV c, 0) from if_pos hc] at HI
    by_cases h3 : k = 3
    · subst h3
      have HR0 : Hid (mayO ⟨3, a, b, c⟩ = (decide (a = 0) && decide (b = 0))) := Lib.hid (by rw [HM.out, hc]; simp)
      clear hc HM
      by_cases h0 : c.size = 0
      · obtain rfl := empty_of h0
        clear h0
        obtain ⟨d, hdb⟩ : ∃ d, ((b : Int) == 0) = d := ⟨_, rfl⟩
        by_cases ha : a = 0
        · have HR : Hid (mayO ⟨3, a, b, ⟨#[]⟩⟩ = d) := Lib.hid (by rw [HR0.out, decide_eq_true ha, ← hdb, Bool.true_and]; by_cases hb : b = 0 <;> simp [hb])
          have hda : ((a : Int) == 0) = true := by rw [ha]; rfl
          clear ha
          go_enter Tryd.func54, Tryd.ntmps54
          go_wp2_with (go_at_call 57; refine (HI.out _).mono ?_; rintro e w1 ⟨pk, pn, pt, pks, pA, pl, pc, _, _, _, rfl, _, hb1⟩; obtain ⟨d0, d1, d2, d3, df⟩ := (HX.out.call hb1).all; have hlx := (HX.out.call hb1).lt; have hnx : ¬ w.heap.size = w1.heap.size := (by omega); have HB1 := Lib.hid (below_next (below_next HB.out hb1) ((Below.refl w1.heap.size w1).alloc (Nat.le_refl _) (.cells #[.int .u8 (pk : Int), .int .u64 (pn : Int), .string pt, .slice pA pl pc] 25))); clear hb1)
          go_ret
          exact ⟨by rw [HR.out]; rfl, HB1.out⟩
        · have HR : Hid (mayO ⟨3, a, b, ⟨#[]⟩⟩ = false) := Lib.hid (by rw [HR0.out, decide_eq_false ha]; rfl)
          have hda : ((a : Int) == 0) = false := by rw [beq_eq_false_iff_ne]; omega
          clear ha
          go_enter Tryd.func54, Tryd.ntmps54
          go_wp2_with (go_at_call 57; refine (HI.out _).mono ?_; rintro e w1 ⟨pk, pn, pt, pks, pA, pl, pc, _, _, _, rfl, _, hb1⟩; obtain ⟨d0, d1, d2, d3, df⟩ := (HX.out.call hb1).all; have hlx := (HX.out.call hb1).lt; have hnx : ¬ w.heap.size = w1.heap.size := (by omega); have HB1 := Lib.hid (below_next (below_next HB.out hb1) ((Below.refl w1.heap.size w1).alloc (Nat.le_refl _) (.cells #[.int .u8 (pk : Int), .int .u64 (pn : Int), .string pt, .slice pA pl pc] 25))); clear hb1)
          go_ret
          exact ⟨by rw [HR.out]; rfl, HB1.out⟩
      · have hd : c.toList.isEmpty = false := empty_no' h0
        clear h0
        obtain ⟨d, hdb⟩ : ∃ d, ((b : Int) == 0) = d := ⟨_, rfl⟩
        by_cases ha : a = 0
        · have HR : Hid (mayO ⟨3, a, b, c⟩ = d) := Lib.hid (by rw [HR0.out, decide_eq_true ha, ← hdb, Bool.true_and]; by_cases hb : b = 0 <;> simp [hb])
          have hda : ((a : Int) == 0) = true := by rw [ha]; rfl
          clear ha
          go_enter Tryd.func54, Tryd.ntmps54
          go_wp2_with (go_at_call 57; refine (HI.out _).mono ?_; rintro e w1 ⟨pk, pn, pt, pks, pA, pl, pc, _, _, _, rfl, _, hb1⟩; obtain ⟨d0, d1, d2, d3, df⟩ := (HX.out.call hb1).all; have hlx := (HX.out.call hb1).lt; have hnx : ¬ w.heap.size = w1.heap.size := (by omega); have HB1 := Lib.hid (below_next (below_next HB.out hb1) ((Below.refl w1.heap.size w1).alloc (Nat.le_refl _) (.cells #[.int .u8 (pk : Int), .int .u64 (pn : Int), .string pt, .slice pA pl pc] 25))); clear hb1)
          go_ret
          exact ⟨by rw [HR.out]; rfl, HB1.out⟩
        · have HR : Hid (mayO ⟨3, a, b, c⟩ = false) := Lib.hid (by rw [HR0.out, decide_eq_false ha]; rfl)
          have hda : ((a : Int) == 0) = false := by rw [beq_eq_false_iff_ne]; omega
          clear ha
          go_enter Tryd.func54, Tryd.ntmps54
          go_wp2_with (go_at_call 57; refine (HI.out _).mono ?_; rintro e w1 ⟨pk, pn, pt, pks, pA, pl, pc, _, _, _, rfl, _, hb1⟩; obtain ⟨d0, d1, d2, d3, df⟩ := (HX.out.call hb1).all; have hlx := (HX.out.call hb1).lt; have hnx : ¬ w.heap.size = w1.heap.size := (by omega); have HB1 := Lib.hid (below_next (below_next HB.out hb1) ((Below.refl w1.heap.size w1).alloc (Nat.le_refl _) (.cells #[.int .u8 (pk : Int), .int .u64 (pn : Int), .string pt, .slice pA pl pc] 25))); clear hb1)
          go_ret
          exact ⟨by rw [HR.out]; rfl, HB1.out⟩
    · have hd3 : ((k : Int) == 3) = false := by rw [beq_eq_false_iff_ne]; omega
      have hd3n : ((k : Int) != 3) = true := by rw [bne, hd3]; rfl
      have hd3e : ¬ (k : Int) = 3 := by omega
      by_cases h0 : c.size = 0
      case neg =>
        have HR : Hid (mayO ⟨k, a, b, c⟩ = false) := Lib.hid (by rw [HM.out, decide_eq_false h0, decide_eq_false h3, Bool.or_false, Bool.and_false]; rfl)
        have hd : c.toList.isEmpty = false := empty_no' h0
        clear hc h3 h0
        go_enter Tryd.func54, Tryd.ntmps54
        go_wp2_with (go_at_call 57; refine (HI.out _).mono ?_; rintro e w1 ⟨pk, pn, pt, pks, pA, pl, pc, _, _, _, rfl, _, hb1⟩; obtain ⟨d0, d1, d2, d3, df⟩ := (HX.out.call hb1).all; have hlx := (HX.out.call hb1).lt; have hnx : ¬ w.heap.size = w1.heap.size := (by omega); have HB1 := Lib.hid (below_next (below_next HB.out hb1) ((Below.refl w1.heap.size w1).alloc (Nat.le_refl _) (.cells #[.int .u8 (pk : Int), .int .u64 (pn : Int), .string pt, .slice pA pl pc] 25))); clear hb1)
        go_ret
        exact ⟨by rw [HR.out]; rfl, HB1.out⟩
      case pos =>
        obtain rfl := empty_of h0
        by_cases h1 : k = 1
        · subst h1
          obtain ⟨d, hd⟩ : ∃ d, decide ((a : Int) < 4294967296) = d := ⟨_, rfl⟩
          have HR : Hid (mayO ⟨1, a, b, ⟨#[]⟩⟩ = d) := Lib.hid (by rw [HM.out, ← hd, hc]; simp [ByteArray.size]; omega)
          clear hc h3 h0 HM hd3 hd3n hd3e
          go_enter Tryd.func54, Tryd.ntmps54
          go_wp2_with (go_at_call 57; refine (HI.out _).mono ?_; rintro e w1 ⟨pk, pn, pt, pks, pA, pl, pc, _, _, _, rfl, _, hb1⟩; obtain ⟨d0, d1, d2, d3, df⟩ := (HX.out.call hb1).all; have hlx := (HX.out.call hb1).lt; have hnx : ¬ w.heap.size = w1.heap.size := (by omega); have HB1 := Lib.hid (below_next (below_next HB.out hb1) ((Below.refl w1.heap.size w1).alloc (Nat.le_refl _) (.cells #[.int .u8 (pk : Int), .int .u64 (pn : Int), .string pt, .slice pA pl pc] 25))); clear hb1)
          go_ret
          exact ⟨by rw [HR.out]; rfl, HB1.out⟩
        by_cases h55 : k = 5
        · subst h55
          have HR0 : Hid (mayO ⟨5, a, b, ⟨#[]⟩⟩ = (decide (a ≤ 1) && decide (b ≤ 1))) := Lib.hid (by rw [HM.out, hc]; simp [ByteArray.size])
          clear hc h3 h0 HM h1 hd3 hd3n hd3e
          obtain ⟨d, hd⟩ : ∃ d, decide ((b : Int) ≤ 1) = d := ⟨_, rfl⟩
          by_cases ha : a ≤ 1
          · have HR : Hid (mayO ⟨5, a, b, ⟨#[]⟩⟩ = d) := Lib.hid (by rw [HR0.out, decide_eq_true ha, ← hd]; simp; omega)
            have hda : decide ((a : Int) ≤ 1) = true := decide_eq_true (by omega)
            clear ha
            go_enter Tryd.func54, Tryd.ntmps54
            go_wp2_with (go_at_call 57; refine (HI.out _).mono ?_; rintro e w1 ⟨pk, pn, pt, pks, pA, pl, pc, _, _, _, rfl, _, hb1⟩; obtain ⟨d0, d1, d2, d3, df⟩ := (HX.out.call hb1).all; have hlx := (HX.out.call hb1).lt; have hnx : ¬ w.heap.size = w1.heap.size := (by omega); have HB1 := Lib.hid (below_next (below_next HB.out hb1) ((Below.refl w1.heap.size w1).alloc (Nat.le_refl _) (.cells #[.int .u8 (pk : Int), .int .u64 (pn : Int), .string pt, .slice pA pl pc] 25))); clear hb1)
            go_ret
            exact ⟨by rw [HR.out]; rfl, HB1.out⟩
          · have HR : Hid (mayO ⟨5, a, b, ⟨#[]⟩⟩ = false) := Lib.hid (by rw [HR0.out, decide_eq_false ha]; rfl)
            have hda : decide ((a : Int) ≤ 1) = false := decide_eq_false (by omega)
            clear ha
            go_enter Tryd.func54, Tryd.ntmps54
            go_wp2_with (go_at_call 57; refine (HI.out _).mono ?_; rintro e w1 ⟨pk, pn, pt, pks, pA, pl, pc, _, _, _, rfl, _, hb1⟩; obtain ⟨d0, d1, d2, d3, df⟩ := (HX.out.call hb1).all; have hlx := (HX.out.call hb1).lt; have hnx : ¬ w.heap.size = w1.heap.size := (by omega); have HB1 := Lib.hid (below_next (below_next HB.out hb1) ((Below.refl w1.heap.size w1).alloc (Nat.le_refl _) (.cells #[.int .u8 (pk : Int), .int .u64 (pn : Int), .string pt, .slice pA pl pc] 25))); clear hb1)
            go_ret
            exact ⟨by rw [HR.out]; rfl, HB1.out⟩
        by_cases h5 : k ≤ 5
        case neg =>
          have HR : Hid (mayO ⟨k, a, b, ⟨#[]⟩⟩ = false) := Lib.hid (by rw [HM.out, decide_eq_false h5]; rfl)
          have e0 : ((k : Int) == 0) = false := by rw [beq_eq_false_iff_ne]; omega
          have e1 : ((k : Int) == 1) = false := by rw [beq_eq_false_iff_ne]; omega
          have e2 : ((k : Int) == 2) = false := by rw [beq_eq_false_iff_ne]; omega
          have e4 : ((k : Int) == 4) = false := by rw [beq_eq_false_iff_ne]; omega
          have e5 : ((k : Int) == 5) = false := by rw [beq_eq_false_iff_ne]; omega
          clear hc h3 h0 h1 h55 h5 HM
          go_enter Tryd.func54, Tryd.ntmps54
          go_wp2_with (go_at_call 57; refine (HI.out _).mono ?_; rintro e w1 ⟨pk, pn, pt, pks, pA, pl, pc, _, _, _, rfl, _, hb1⟩; obtain ⟨d0, d1, d2, d3, df⟩ := (HX.out.call hb1).all; have hlx := (HX.out.call hb1).lt; have hnx : ¬ w.heap.size = w1.heap.size := (by omega); have HB1 := Lib.hid (below_next (below_next HB.out hb1) ((Below.refl w1.heap.size w1).alloc (Nat.le_refl _) (.cells #[.int .u8 (pk : Int), .int .u64 (pn : Int), .string pt, .slice pA pl pc] 25))); clear hb1)
          go_ret
          exact ⟨by rw [HR.out]; rfl, HB1.out⟩
        case pos =>
          have HR1 := Lib.hid (show mayO ⟨k, a, b, ⟨#[]⟩⟩ = (decide (a = 0) && decide (b = 0)) by rw [HM.out, hc, decide_eq_true h5, if_neg h1, if_neg h55]; simp [ByteArray.size])
          have hk : k = 0 ∨ k = 2 ∨ k = 4 := by omega
          clear hc h3 h0 HM h1 h55 h5 hd3 hd3n hd3e
          rcases hk with rfl | rfl | rfl
          · obtain ⟨d, hdb⟩ : ∃ d, ((b : Int) == 0) = d := ⟨_, rfl⟩
            by_cases ha : a = 0
            · have HR : Hid (mayO ⟨0, a, b, ⟨#[]⟩⟩ = d) := Lib.hid (by rw [HR1.out, decide_eq_true ha, ← hdb, Bool.true_and]; by_cases hb : b = 0 <;> simp [hb])
              have hda : ((a : Int) == 0) = true := by rw [ha]; rfl
              clear ha
              go_enter Tryd.func54, Tryd.ntmps54
              go_wp2_with (go_at_call 57; refine (HI.out _).mono ?_; rintro e w1 ⟨pk, pn, pt, pks, pA, pl, pc, _, _, _, rfl, _, hb1⟩; obtain ⟨d0, d1, d2, d3, df⟩ := (HX.out.call hb1).all; have hlx := (HX.out.call hb1).lt; have hnx : ¬ w.heap.size = w1.heap.size := (by omega); have HB1 := Lib.hid (below_next (below_next HB.out hb1) ((Below.refl w1.heap.size w1).alloc (Nat.le_refl _) (.cells #[.int .u8 (pk : Int), .int .u64 (pn : Int), .string pt, .slice pA pl pc] 25))); clear hb1)
              go_ret
              exact ⟨by rw [HR.out]; rfl, HB1.out⟩
            · have HR : Hid (mayO ⟨0, a, b, ⟨#[]⟩⟩ = false) := Lib.hid (by rw [HR1.out, decide_eq_false ha]; rfl)
              have hda : ((a : Int) == 0) = false := by rw [beq_eq_false_iff_ne]; omega
              clear ha
              go_enter Tryd.func54, Tryd.ntmps54
              go_wp2_with (go_at_call 57; refine (HI.out _).mono ?_; rintro e w1 ⟨pk, pn, pt, pks, pA, pl, pc, _, _, _, rfl, _, hb1⟩; obtain ⟨d0, d1, d2, d3, df⟩ := (HX.out.call hb1).all; have hlx := (HX.out.call hb1).lt; have hnx : ¬ w.heap.size = w1.heap.size := (by omega); have HB1 := Lib.hid (below_next (below_next HB.out hb1) ((Below.refl w1.heap.size w1).alloc (Nat.le_refl _) (.cells #[.int .u8 (pk : Int), .int .u64 (pn : Int), .string pt, .slice pA pl pc] 25))); clear hb1)
              go_ret
              exact ⟨by rw [HR.out]; rfl, HB1.out⟩
          · obtain ⟨d, hdb⟩ : ∃ d, ((b : Int) == 0) = d := ⟨_, rfl⟩
            by_cases ha : a = 0
            · have HR : Hid (mayO ⟨2, a, b, ⟨#[]⟩⟩ = d) := Lib.hid (by rw [HR1.out, decide_eq_true ha, ← hdb, Bool.true_and]; by_cases hb : b = 0 <;> simp [hb])
              have hda : ((a : Int) == 0) = true := by rw [ha]; rfl
              clear ha
              go_enter Tryd.func54, Tryd.ntmps54
              go_wp2_with (go_at_call 57; refine (HI.out _).mono ?_; rintro e w1 ⟨pk, pn, pt, pks, pA, pl, pc, _, _, _, rfl, _, hb1⟩; obtain ⟨d0, d1, d2, d3, df⟩ := (HX.out.call hb1).all; have hlx := (HX.out.call hb1).lt; have hnx : ¬ w.heap.size = w1.heap.size := (by omega); have HB1 := Lib.hid (below_next (below_next HB.out hb1) ((Below.refl w1.heap.size w1).alloc (Nat.le_refl _) (.cells #[.int .u8 (pk : Int), .int .u64 (pn : Int), .string pt, .slice pA pl pc] 25))); clear hb1)
              go_ret
              exact ⟨by rw [HR.out]; rfl, HB1.out⟩
            · have HR : Hid (mayO ⟨2, a, b, ⟨#[]⟩⟩ = false) := Lib.hid (by rw [HR1.out, decide_eq_false ha]; rfl)
              have hda : ((a : Int) == 0) = false := by rw [beq_eq_false_iff_ne]; omega
              clear ha
              go_enter Tryd.func54, Tryd.ntmps54
              go_wp2_with (go_at_call 57; refine (HI.out _).mono ?_; rintro e w1 ⟨pk, pn, pt, pks, pA, pl, pc, _, _, _, rfl, _, hb1⟩; obtain ⟨d0, d1, d2, d3, df⟩ := (HX.out.call hb1).all; have hlx := (HX.out.call hb1).lt; have hnx : ¬ w.heap.size = w1.heap.size := (by omega); have HB1 := Lib.hid (below_next (below_next HB.out hb1) ((Below.refl w1.heap.size w1).alloc (Nat.le_refl _) (.cells #[.int .u8 (pk : Int), .int .u64 (pn : Int), .string pt, .slice pA pl pc] 25))); clear hb1)
              go_ret
              exact ⟨by rw [HR.out]; rfl, HB1.out⟩
          · obtain ⟨d, hdb⟩ : ∃ d, ((b : Int) == 0) = d := ⟨_, rfl⟩
            by_cases ha : a = 0
            · have HR : Hid (mayO ⟨4, a, b, ⟨#[]⟩⟩ = d) := Lib.hid (by rw [HR1.out, decide_eq_true ha, ← hdb, Bool.true_and]; by_cases hb : b = 0 <;> simp [hb])
              have hda : ((a : Int) == 0) = true := by rw [ha]; rfl
              clear ha
              go_enter Tryd.func54, Tryd.ntmps54
              go_wp2_with (go_at_call 57; refine (HI.out _).mono ?_; rintro e w1 ⟨pk, pn, pt, pks, pA, pl, pc, _, _, _, rfl, _, hb1⟩; obtain ⟨d0, d1, d2, d3, df⟩ := (HX.out.call hb1).all; have hlx := (HX.out.call hb1).lt; have hnx : ¬ w.heap.size = w1.heap.size := (by omega); have HB1 := Lib.hid (below_next (below_next HB.out hb1) ((Below.refl w1.heap.size w1).alloc (Nat.le_refl _) (.cells #[.int .u8 (pk : Int), .int .u64 (pn : Int), .string pt, .slice pA pl pc] 25))); clear hb1)
              go_ret
              exact ⟨by rw [HR.out]; rfl, HB1.out⟩
            · have HR : Hid (mayO ⟨4, a, b, ⟨#[]⟩⟩ = false) := Lib.hid (by rw [HR1.out, decide_eq_false ha]; rfl)
              have hda : ((a : Int) == 0) = false := by rw [beq_eq_false_iff_ne]; omega
              clear ha
              go_enter Tryd.func54, Tryd.ntmps54
              go_wp2_with (go_at_call 57; refine (HI.out _).mono ?_; rintro e w1 ⟨pk, pn, pt, pks, pA, pl, pc, _, _, _, rfl, _, hb1⟩; obtain ⟨d0, d1, d2, d3, df⟩ := (HX.out.call hb1).all; have hlx := (HX.out.call hb1).lt; have hnx : ¬ w.heap.size = w1.heap.size := (by omega); have HB1 := Lib.hid (below_next (below_next HB.out hb1) ((Below.refl w1.heap.size w1).alloc (Nat.le_refl _) (.cells #[.int .u8 (pk : Int), .int .u64 (pn : Int), .string pt, .slice pA pl pc] 25))); clear hb1)
              go_ret
              exact ⟨by rw [HR.out]; rfl, HB1.out⟩

end Go.Proofs.YtobnbgbijdhjjaaDoor.Oc
