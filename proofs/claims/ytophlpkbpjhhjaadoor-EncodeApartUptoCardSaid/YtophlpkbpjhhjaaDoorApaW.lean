/-
  The walk of the statement EncodeApart. Conditions: the table utf.shapes lies as the program's text lays it; values of bulk at most 2^20.
-/
import Derived.Test.YtophlpkbpjhhjaaDoorBeg
namespace Go.Proofs.YtophlpkbpjhhjaaDoor.encodeApart
set_option maxRecDepth 100000
open Go.RowKit Go.Proofs.YtophlpkbpjhhjaaDoor.Utf Go.Proofs.YtophlpkbpjhhjaaDoor.Val Go.Proofs.YtophlpkbpjhhjaaDoor.Enc V

set_option maxHeartbeats 1000000 in
theorem walk (k n : Nat) (t : ByteArray) (ks : List V) (A : Option Addr) (l c : Nat) (k' n' : Nat) (t' : ByteArray) (ks' : List V) (A' : Option Addr) (l' c' : Nat) (w : World) (ht : Tab w) (hN : bulk (.mk k n t ks) ≤ 1048576) (hk : k < 256) (hn : n < 18446744073709551616) (hK : Kd w ks A l c) (hN' : bulk (.mk k' n' t' ks') ≤ 1048576) (hk' : k' < 256) (hn' : n' < 18446744073709551616) (hK' : Kd w ks' A' l' c') :
    Calls Tryd.prog 4 #[.agg #[.int .u8 k, .int .u64 n, .string t, .slice A l c], .agg #[.int .u8 k', .int .u64 n', .string t', .slice A' l' c']] w (Val.GivesB true w) := by
  have hB := two_boxes w (.cells #[.int .u8 k, .int .u64 n, .string t, .slice A l c] 25) (.cells #[.int .u8 k', .int .u64 n', .string t', .slice A' l' c'] 25)
  have B1 := (Box.new w (.int .u8 k) (.int .u64 n) (.string t) (.slice A l c)).alloc (.cells #[.int .u8 k', .int .u64 n', .string t', .slice A' l' c'] 25)
  have B2 := Box.new2 w (.cells #[.int .u8 k, .int .u64 n, .string t, .slice A l c] 25) (.int .u8 k') (.int .u64 n') (.string t') (.slice A' l' c')
  have hKL := kids_two (t := t) (t' := t') hk hn hk' hn' (hK.call hB) (hK'.call hB)
  have hbL : bulkL [V.mk k n t ks, .mk k' n' t' ks'] ≤ 2097152 := by simp only [bulkL]; omega
  obtain ⟨p, hp⟩ : ∃ p, decide (8192 < bigL [V.mk k n t ks, .mk k' n' t' ks']) = p := ⟨_, rfl⟩
  have HL := large_any _ _ 2 2 _ (by omega) hKL
  rw [hp] at HL
  have S0 : St2 w _ w.heap.size k n t ks A l c (w.heap.size + 1) k' n' t' ks' A' l' c' := (St2.mk ⟨B1, hK.call hB, ht.call hB, hB⟩ ⟨B2, hK'.call hB, ht.call hB, hB⟩).call ((Below.refl _ _).alloc (Nat.le_refl _) (.cells #[.int .u8 k, .int .u64 n, .string t, .slice A l c, .int .u8 k', .int .u64 n', .string t', .slice A' l' c'] 25))
  simp only [World.size_alloc] at HL
  have hb0 : bulkL ks ≤ 1073741824 := by simp only [bulk] at hN; omega
  have ht0 : t.size ≤ 1073741824 := by simp only [bulk] at hN; omega
  have HL := Lib.hid HL
  have HS := Lib.hid S0
  have HKD := Lib.hid hKL
  have hnl : (V.mk k n t ks).bulk ≤ 4194304 := by omega
  have hnl' : (V.mk k' n' t' ks').bulk ≤ 4194304 := by omega
  have hg : ∀ {wx : World}, okB (.mk k n t ks) = true → Kd wx ks A l c → Enc.Good (V.mk k n t ks) := fun h hx => good_of h hn hx (by omega)
  have hg' : ∀ {wx : World}, okB (.mk k' n' t' ks') = true → Kd wx ks' A' l' c' → Enc.Good (V.mk k' n' t' ks') := fun h hx => good_of h hn' hx (by omega)
  have HG := Lib.hid (show okB (.mk k n t ks) = true → Enc.Good (V.mk k n t ks) from fun h => hg h hK)
  have HG' := Lib.hid (show okB (.mk k' n' t' ks') = true → Enc.Good (V.mk k' n' t' ks') from fun h => hg' h hK')
  have hlb : okB (.mk k n t ks) = true → (lay (plan (.mk k n t ks))).length ≤ 1099511627776 := fun h => by have := lay_bulk _ (ok_may h); omega
  have HLB := Lib.hid hlb
  clear S0 hp hKL hbL B1 B2 hB hK hK' ht hg hg' hlb hN hN'
  go_enter Tryd.func4, Tryd.ntmps4
  go_wp2_with fail
  refine HL.out.mono ?_
  rintro e w1 ⟨rfl, hq1⟩
  have S1 := HS.out.call hq1
  clear HL HS HKD hq1
  obtain ⟨a0, a1, a2, a3, b0, b1, b2, b3⟩ := S1.all
  have H1 := Lib.hid S1
  clear S1
  cases p with
  | true =>
    go_wp2_with (go_at_call 10; (with_reducible refine (works_any _ H1.out.one.tab).mono ?_); rintro e w3 ⟨rfl, hb3⟩)
    go_ret
    exact ⟨rfl, below_next H1.out.one.low hb3⟩
  | false =>
  cases hv : okB (.mk k n t ks) with
  | false =>
    have HV := Lib.hid hv
    clear hv
    go_wp2_with (first
      | (go_at_call 12; (with_reducible refine (encv_no k n t ks A l c w1 HV.out hnl hn H1.out.one.kd H1.out.one.tab).mono ?_); rintro e w2 ⟨rfl, hb2⟩; have H2 := Lib.hid (H1.out.call hb2); obtain ⟨c0, c1, c2, c3, d0, d1, d2, d3⟩ := H2.out.all)
      | (go_at_call 12; (with_reducible refine (encv_some k' n' t' ks' A' l' c' w2 hnl' hk' hn' H2.out.two.kd H2.out.two.tab).mono ?_); rintro e w3 ⟨A3, m3, c3, x3, rfl, hb3⟩; have H3 := Lib.hid (H2.out.call hb3); obtain ⟨e0, e1, e2, e3, f0, f1, f2, f3⟩ := H3.out.all)
      | (go_at_call 17; (with_reducible refine (vright_any k n t ks A l c w3 hb0 ht0 hn H3.out.one.kd H3.out.one.tab).mono ?_); rw [HV.out]; rintro e w4 ⟨rfl, hb4⟩; have H4 := Lib.hid (H3.out.call hb4))
      | (go_at_call 10; (with_reducible refine (works_any _ H4.out.one.tab).mono ?_); rintro e w5 ⟨rfl, hb5⟩))
    go_ret
    exact ⟨rfl, below_next H4.out.one.low hb5⟩
  | true =>
    have HV := Lib.hid hv
    clear hv
    cases hv' : okB (.mk k' n' t' ks') with
    | false =>
      have HV' := Lib.hid hv'
      clear hv'
      go_wp2_with (first
        | (go_at_call 12; (with_reducible refine (encv_yes k n t ks A l c w1 HV.out hnl hk hn H1.out.one.kd H1.out.one.tab).mono ?_); rintro e w2 ⟨A2, m2, c2, rfl, ho2, hb2⟩; have H2 := Lib.hid (H1.out.call hb2); obtain ⟨c0, c1, c2, c3, d0, d1, d2, d3⟩ := H2.out.all)
        | (go_at_call 12; (with_reducible refine (encv_no k' n' t' ks' A' l' c' w2 HV'.out hnl' hn' H2.out.two.kd H2.out.two.tab).mono ?_); rintro e w3 ⟨rfl, hb3⟩; have H3 := Lib.hid (H2.out.call hb3); obtain ⟨e0, e1, e2, e3, f0, f1, f2, f3⟩ := H3.out.all)
        | (go_at_call 17; (with_reducible refine (vright_any k n t ks A l c w3 hb0 ht0 hn H3.out.one.kd H3.out.one.tab).mono ?_); rw [HV.out]; rintro e w4 ⟨rfl, hb4⟩; have H4 := Lib.hid (H3.out.call hb4))
        | (go_at_call 10; (with_reducible refine (works_any _ H4.out.one.tab).mono ?_); rintro e w5 ⟨rfl, hb5⟩))
      go_ret
      exact ⟨rfl, below_next H4.out.one.low hb5⟩
    | true =>
      have HP := Lib.hid (lay_pos (.mk k n t ks) (ok_may HV.out))
      have HV' := Lib.hid hv'
      by_cases hs : V.mk k n t ks = V.mk k' n' t' ks'
      · have HSM : Hid (same (.mk k n t ks) (.mk k' n' t' ks') = true) := Lib.hid ((same_iff _ _).2 hs)
        have HEQ : Hid (lay (plan (.mk k' n' t' ks')) = lay (plan (.mk k n t ks))) := Lib.hid (by rw [hs])
        clear hv' hs HL
        go_wp2_with (first
          | (go_at_call 12; (with_reducible refine (encv_yes k n t ks A l c w1 HV.out hnl hk hn H1.out.one.kd H1.out.one.tab).mono ?_); rintro e w2 ⟨A2, m2, c2, rfl, ho2, hb2⟩; have H2 := Lib.hid (H1.out.call hb2); obtain ⟨c0, c1, c2', c3, d0, d1, d2, d3⟩ := H2.out.all; have hl2 := ho2.len; have hm2 : decide ((0 : Int) < (m2 : Int)) = true := (by have := HP.out; rw [decide_eq_true_eq]; omega); have hm2n : 0 < m2 := (by have := HP.out; omega); clear hl2; have HO2 := Lib.hid ho2; clear ho2)
          | (go_at_call 12; (with_reducible refine (encv_yes k' n' t' ks' A' l' c' w2 HV'.out hnl' hk' hn' H2.out.two.kd H2.out.two.tab).mono ?_); rintro e w3 ⟨A3, m3, c3, rfl, ho3, hb3⟩; have H3 := Lib.hid (H2.out.call hb3); obtain ⟨e0, e1, e2, e3, f0, f1, f2, f3⟩ := H3.out.all; have HO3 := Lib.hid ho3; clear ho3)
          | (go_at_call 17; (with_reducible refine (vright_any k n t ks A l c w3 hb0 ht0 hn H3.out.one.kd H3.out.one.tab).mono ?_); rw [HV.out]; rintro e w4 ⟨rfl, hb4⟩; have H4 := Lib.hid (H3.out.call hb4); obtain ⟨g0, g1, g2, g3, i0, i1, i2, i3⟩ := H4.out.all)
          | (go_at_call 18; (with_reducible refine (vsame_any k n t ks A l c k' n' t' ks' A' l' c' w4 hb0 H4.out.one.kd H4.out.two.kd).mono ?_); rw [HSM.out]; rintro e w5 ⟨rfl, hb5⟩; have H5 := Lib.hid (H4.out.call hb5); have HR2 := Lib.hid ((((HO2.out.below hb3).below hb4).below hb5).rd); have HR3 := Lib.hid (((HO3.out.below hb4).below hb5).rd); have HL23 := HR3.out.len; rw [HEQ.out] at HL23; have HL2 := HR2.out.len; have H23 : m3 = m2 := (by omega); subst H23; clear HL23 HL2; have HR4 := Lib.hid (show Rd .u8 256 w5 w5.heap.size A3 m3 (lay (plan (V.mk k n t ks))) from (by have hh := HR3.out; rw [HEQ.out] at hh; exact hh)); clear HR3)
          | (go_at_call 14; with_reducible refine (eqbytes_same w5.heap.size w5.heap.size A2 A3 m3 c2 c3 _ w5 HR2.out HR4.out).mono ?_; rintro e w6 ⟨rfl, rfl⟩)
          | (go_at_call 19; with_reducible refine (begins_yes w5.heap.size w5.heap.size A2 A3 m3 c2 c3 _ w5 HR2.out HR4.out HO3.out.cap.1).mono ?_; rintro e w7 ⟨rfl, rfl⟩)
          | (go_at_call 19; with_reducible refine (begins_yes w5.heap.size w5.heap.size A3 A2 m3 c3 c2 _ w5 HR4.out HR2.out HO2.out.cap.1).mono ?_; rintro e w8 ⟨rfl, rfl⟩)
          | (go_at_call 10; (with_reducible refine (works_any _ H5.out.one.tab).mono ?_); rintro e w9 ⟨rfl, hb9⟩))
        go_ret
        exact ⟨rfl, below_next H5.out.one.low hb9⟩
      · have HSM : Hid (same (.mk k n t ks) (.mk k' n' t' ks') = false) := Lib.hid (by cases h : same (.mk k n t ks) (.mk k' n' t' ks') with | false => rfl | true => exact absurd ((same_iff _ _).1 h) hs)
        have HNE : Hid (∀ X Y, lay (plan (.mk k n t ks)) ++ X ≠ lay (plan (.mk k' n' t' ks')) ++ Y) := Lib.hid fun X Y h => hs (lay_inj (HG.out HV.out) (HG'.out hv') h).1
        have HN1 : Hid (lay (plan (V.mk k n t ks)) ≠ lay (plan (V.mk k' n' t' ks'))) := Lib.hid fun h => HNE.out [] [] (by rw [h])
        have HN2 : Hid (∀ X, lay (plan (V.mk k n t ks)) ++ X ≠ lay (plan (V.mk k' n' t' ks'))) := Lib.hid fun X h => HNE.out X [] (by rw [h, List.append_nil])
        have HN3 : Hid (∀ X, lay (plan (V.mk k' n' t' ks')) ++ X ≠ lay (plan (V.mk k n t ks))) := Lib.hid fun X h => HNE.out [] X (by rw [h, List.append_nil])
        clear hv' hs HL
        go_wp2_with (first
          | (go_at_call 12; (with_reducible refine (encv_yes k n t ks A l c w1 HV.out hnl hk hn H1.out.one.kd H1.out.one.tab).mono ?_); rintro e w2 ⟨A2, m2, c2, rfl, ho2, hb2⟩; have H2 := Lib.hid (H1.out.call hb2); obtain ⟨c0, c1, c2', c3, d0, d1, d2, d3⟩ := H2.out.all; have hl2 := ho2.len; have hm2 : decide ((0 : Int) < (m2 : Int)) = true := (by have := HP.out; rw [decide_eq_true_eq]; omega); have hm2n : 0 < m2 := (by have := HP.out; omega); clear hl2; have HO2 := Lib.hid ho2; clear ho2)
          | (go_at_call 12; (with_reducible refine (encv_yes k' n' t' ks' A' l' c' w2 HV'.out hnl' hk' hn' H2.out.two.kd H2.out.two.tab).mono ?_); rintro e w3 ⟨A3, m3, c3, rfl, ho3, hb3⟩; have H3 := Lib.hid (H2.out.call hb3); obtain ⟨e0, e1, e2, e3, f0, f1, f2, f3⟩ := H3.out.all; have HO3 := Lib.hid ho3; clear ho3)
          | (go_at_call 17; (with_reducible refine (vright_any k n t ks A l c w3 hb0 ht0 hn H3.out.one.kd H3.out.one.tab).mono ?_); rw [HV.out]; rintro e w4 ⟨rfl, hb4⟩; have H4 := Lib.hid (H3.out.call hb4); obtain ⟨g0, g1, g2, g3, i0, i1, i2, i3⟩ := H4.out.all)
          | (go_at_call 18; (with_reducible refine (vsame_any k n t ks A l c k' n' t' ks' A' l' c' w4 hb0 H4.out.one.kd H4.out.two.kd).mono ?_); rw [HSM.out]; rintro e w5 ⟨rfl, hb5⟩; have H5 := Lib.hid (H4.out.call hb5); have HR2 := Lib.hid ((((HO2.out.below hb3).below hb4).below hb5).rd); have HR3 := Lib.hid (((HO3.out.below hb4).below hb5).rd))
          | (go_at_call 14; with_reducible refine (eqbytes_other w5.heap.size w5.heap.size A2 A3 m2 m3 c2 c3 _ _ w5 HR2.out HR3.out HN1.out).mono ?_; rintro e w6 ⟨rfl, rfl⟩)
          | (go_at_call 19; with_reducible refine (begins_no w5.heap.size w5.heap.size A2 A3 m2 m3 c2 c3 _ _ w5 HR2.out HR3.out HO3.out.cap.1 HN2.out).mono ?_; rintro e w7 ⟨rfl, rfl⟩)
          | (go_at_call 19; with_reducible refine (begins_no w5.heap.size w5.heap.size A3 A2 m3 m2 c3 c2 _ _ w5 HR3.out HR2.out HO2.out.cap.1 HN3.out).mono ?_; rintro e w8 ⟨rfl, rfl⟩)
          | (go_at_call 10; (with_reducible refine (works_any _ H5.out.one.tab).mono ?_); rintro e w9 ⟨rfl, hb9⟩))
        go_ret
        exact ⟨rfl, below_next H5.out.one.low hb9⟩
end Go.Proofs.YtophlpkbpjhhjaaDoor.encodeApart
