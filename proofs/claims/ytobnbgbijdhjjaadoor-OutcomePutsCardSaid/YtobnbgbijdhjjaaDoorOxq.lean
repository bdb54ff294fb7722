/-
  Contract of the document's Put. Memory that was there stays. Conditions: conditions of at most 2^28 bytes.
-/
import Derived.Test.YtobnbgbijdhjjaaDoorOxp
import Derived.Test.YtobnbgbijdhjjaaDoorOcg
namespace Go.Proofs.YtobnbgbijdhjjaaDoor.Oc
set_option maxRecDepth 100000
open Go.RowKit Go.Proofs.YtobnbgbijdhjjaaDoor.Utf Go.Proofs.YtobnbgbijdhjjaaDoor.Val Go.Proofs.YtobnbgbijdhjjaaDoor.Fl V

theorem xp35 (ls : List V) (A : Option Addr) (l c : Nat) (w : World) (hN : bulkL ls ≤ 536870912) (hK : Kd w ls A l c) : Calls Tryd.prog 55 #[.int .u64 35, .slice A l c] w (GivesU 35 (trim ls) w) := Fl.xput_any 35 ls A l c w hN (by omega) hK
theorem xp36 (ls : List V) (A : Option Addr) (l c : Nat) (w : World) (hN : bulkL ls ≤ 536870912) (hK : Kd w ls A l c) : Calls Tryd.prog 55 #[.int .u64 36, .slice A l c] w (GivesU 36 (trim ls) w) := Fl.xput_any 36 ls A l c w hN (by omega) hK
theorem xp37 (ls : List V) (A : Option Addr) (l c : Nat) (w : World) (hN : bulkL ls ≤ 536870912) (hK : Kd w ls A l c) : Calls Tryd.prog 55 #[.int .u64 37, .slice A l c] w (GivesU 37 (trim ls) w) := Fl.xput_any 37 ls A l c w hN (by omega) hK
theorem xp38 (ls : List V) (A : Option Addr) (l c : Nat) (w : World) (hN : bulkL ls ≤ 536870912) (hK : Kd w ls A l c) : Calls Tryd.prog 55 #[.int .u64 38, .slice A l c] w (GivesU 38 (trim ls) w) := Fl.xput_any 38 ls A l c w hN (by omega) hK
theorem xp39 (ls : List V) (A : Option Addr) (l c : Nat) (w : World) (hN : bulkL ls ≤ 536870912) (hK : Kd w ls A l c) : Calls Tryd.prog 55 #[.int .u64 39, .slice A l c] w (GivesU 39 (trim ls) w) := Fl.xput_any 39 ls A l c w hN (by omega) hK

/-- The end: what was put into the answer's box. -/
theorem put_fin {code : Nat} {us : List V} {w wi w' : World} {A : Option Addr} {l c : Nat} {v : V} (hv : v = .mk 25 0 ⟨#[]⟩ (putL code us)) (hN : Nw wi.heap.size w' (putL code us) A l c) (hb : Below w.heap.size w w') (h2 : w.heap.size + 1 < wi.heap.size) :
    GivesVE v 0 w (.returned (.tuple #[.agg #[.int .u8 25, .int .u64 0, .string ⟨#[]⟩, .slice A l c], .int .i64 0])) ((((w'.setCell ⟨w.heap.size + 1, 0, none⟩ (.int .u8 25)).setCell ⟨w.heap.size + 1, 1, none⟩ (.int .u64 0)).setCell ⟨w.heap.size + 1, 2, none⟩ (.string ⟨#[]⟩)).setCell ⟨w.heap.size + 1, 3, none⟩ (.slice A l c)) :=
  ⟨25, 0, ⟨#[]⟩, _, A, l, c, hv, by omega, by omega, rfl, (hN.far4 h2 _ _ _ _).less (by omega), below_set4 hb (by omega) _ _ _ _⟩

set_option maxHeartbeats 4000000 in
theorem xoput_any (k a b : Nat) (c : ByteArray) (w : World) (hs : c.size ≤ 268435456) (ha : a < 18446744073709551616) (hb : b < 18446744073709551616) : Calls Tryd.prog 22 #[.agg #[.int .u8 (k : Int), .int .u64 (a : Int), .int .u64 (b : Int), .string c]] w (GivesVE (putR ⟨k, a, b, c⟩).1 (putR ⟨k, a, b, c⟩).2 w) := by
  have hB : Below w.heap.size w ((w.alloc (.cells #[.int .u8 (k : Int), .int .u64 (a : Int), .int .u64 (b : Int), .string c] 52)).alloc (.cells #[.int .u8 0, .int .u64 0, .string ⟨#[]⟩, .slice none 0 0] 25)) := two_boxes w _ _
  have h1 : BxO ((w.alloc (.cells #[.int .u8 (k : Int), .int .u64 (a : Int), .int .u64 (b : Int), .string c] 52)).alloc (.cells #[.int .u8 0, .int .u64 0, .string ⟨#[]⟩, .slice none 0 0] 25)) w.heap.size (.int .u8 (k : Int)) (.int .u64 (a : Int)) (.int .u64 (b : Int)) (.string c) := (BxO.new w _ _ _ _).call ((Below.refl _ _).alloc (Nat.le_refl _) _)
  have h2 := Box.new2 w (.cells #[.int .u8 (k : Int), .int .u64 (a : Int), .int .u64 (b : Int), .string c] 52) (.int .u8 0) (.int .u64 0) (.string ⟨#[]⟩) (.slice none 0 0)
  have HM := Lib.hid (fun w => xmay_any k a b c w (by omega))
  have HB := Lib.hid hB
  have H1 := Lib.hid h1
  have H2 := Lib.hid h2
  clear hB h1 h2
  cases hm : mayO ⟨k, a, b, c⟩ with
  | false =>
    rw [hm] at HM
    have HE : Hid (putR ⟨k, a, b, c⟩ = (Oc.zeroV, 1)) := Lib.hid (if_neg (by rw [hm]; exact Bool.false_ne_true))
    clear hm hs ha hb
    go_enter Tryd.func22, Tryd.ntmps22
    go_wp2_with fail
    refine (HM.out _).mono ?_
    rintro e w1 ⟨rfl, hb1⟩
    obtain ⟨d0, d1, d2, d3, df⟩ := (H2.out.call hb1).all
    have HB1 := Lib.hid (below_next HB.out hb1)
    clear hb1
    go_wp2
    refine bodyPost_ret (v := .tuple #[.agg #[.int .u8 0, .int .u64 0, .string ⟨#[]⟩, .slice none 0 0], .int .i64 1]) (by simp [results, Tryd.results22, go_sem, d0, d1, d2, d3]) rfl ?_
    rw [HE.out]
    exact ⟨0, 0, ⟨#[]⟩, [], none, 0, 0, rfl, by omega, by omega, rfl, Go.Proofs.YtobnbgbijdhjjaaDoor.Val.Kids.none_ _ _ _ _ _, below_set4 HB1.out (by omega) _ _ _ _⟩
  | true =>
    rw [hm] at HM
    have HE : Hid (putR ⟨k, a, b, c⟩ = (putO ⟨k, a, b, c⟩, 0)) := Lib.hid (if_pos hm)
    have HCK := Lib.hid (may_cok hm)
    have HA := Lib.hid ha
    have HBB := Lib.hid hb
    have HTB := Lib.hid (show bulkL (tellO ⟨k, a, b, c⟩) ≤ 536870912 by have := tell_bulk ⟨k, a, b, c⟩; simp only at this; omega)
    have HC := Lib.hid hs
    have h5 : k = 0 ∨ k ∈ [1, 2, 3, 4, 5] := by
      by_cases h0 : k = 0
      · exact .inl h0
      · exact .inr (may_five hm h0)
    simp only [List.mem_cons, List.not_mem_nil, or_false] at h5
    clear hm hs ha hb
    rcases h5 with rfl | rfl | rfl | rfl | rfl | rfl
    · go_enter Tryd.func22, Tryd.ntmps22
      go_wp2_with fail
      refine (HM.out _).mono ?_
      rintro e w1 ⟨rfl, hb1⟩
      have H11 := Lib.hid (H1.out.call hb1)
      have H21 := Lib.hid (H2.out.call hb1)
      have HB1 := Lib.hid (below_next HB.out hb1)
      obtain ⟨x0, x1, x2, x3, xf⟩ := H11.out.all
      clear hb1 H1 H2 HB HM
      go_wp2_with fail
      refine (xnul_new _).mono ?_
      rintro e w2 ⟨rfl, hb2⟩
      obtain ⟨d0, d1, d2, d3, df⟩ := (H21.out.call hb2).all
      have HB2 := Lib.hid (below_next HB1.out hb2)
      clear hb2
      go_wp2
      refine bodyPost_ret (v := .tuple #[.agg #[.int .u8 1, .int .u64 0, .string ⟨#[]⟩, .slice none 0 0], .int .i64 0]) (by simp [results, Tryd.results22, go_sem, d0, d1, d2, d3]) rfl ?_
      rw [HE.out]
      exact ⟨1, 0, ⟨#[]⟩, [], none, 0, 0, rfl, by omega, by omega, rfl, Go.Proofs.YtobnbgbijdhjjaaDoor.Val.Kids.none_ _ _ _ _ _, below_set4 HB2.out (by omega) _ _ _ _⟩
    · go_enter Tryd.func22, Tryd.ntmps22
      go_wp2_with fail
      refine (HM.out _).mono ?_
      rintro e w1 ⟨rfl, hb1⟩
      have H11 := Lib.hid (H1.out.call hb1)
      have H21 := Lib.hid (H2.out.call hb1)
      have HB1 := Lib.hid (below_next HB.out hb1)
      obtain ⟨x0, x1, x2, x3, xf⟩ := H11.out.all
      clear hb1 H1 H2 HB HM
      go_upto_region 5 with fail
      go_region_with (first
        | (go_at_call 56; with_reducible refine (xnum_new 5 (a : Int) _).mono ?_; rintro e w2 ⟨rfl, hb2⟩; have H12 := Lib.hid ((H11.out.call ((Below.refl _ _).drew)).call hb2); have H22 := Lib.hid ((H21.out.call ((Below.refl _ _).drew)).call hb2); have HB2 := Lib.hid (below_next (HB1.out.drew) hb2); obtain ⟨y0, y1, y2, y3, yf⟩ := H12.out.all; clear hb2)
        | (go_at_call 56; with_reducible refine (xnum_new 6 (b : Int) _).mono ?_; rintro e w3 ⟨rfl, hb3⟩; have H23 := Lib.hid (H22.out.call hb3); have HB3 := Lib.hid (below_next HB2.out hb3); clear hb3)
        | (go_at_call 55; refine (xp35 (tellO ⟨1, a, b, c⟩) _ 2 2 _ HTB.out (kids_two (k := 5) (k' := 6) (by omega) HA.out (by omega) HBB.out (Kd.none_ _ _ _) (Kd.none_ _ _ _))).mono ?_; rintro e w4 ⟨A4, l4, c4, rfl, hN4, hb4⟩; have hnx := below_next ((Below.refl w3.heap.size w3).alloc (Nat.le_refl _) _) hb4; obtain ⟨d0, d1, d2, d3, df⟩ := (H23.out.call hnx).all; have HN4 := Lib.hid (hN4.less (B' := w3.heap.size) (by simp)); have HB4 := Lib.hid (below_next HB3.out hnx); have H2L := Lib.hid H23.out.lt; clear hb4 hN4 hnx)
        | fail)
      all_goals
        go_wp2_with fail
        refine bodyPost_ret (v := .tuple #[.agg #[.int .u8 25, .int .u64 0, .string ⟨#[]⟩, .slice A4 l4 c4], .int .i64 0]) (by simp [results, Tryd.results22, go_sem, d0, d1, d2, d3]) rfl ?_
        rw [HE.out]
        exact put_fin rfl HN4.out HB4.out H2L.out
    · go_enter Tryd.func22, Tryd.ntmps22
      go_wp2_with fail
      refine (HM.out _).mono ?_
      rintro e w1 ⟨rfl, hb1⟩
      have H11 := Lib.hid (H1.out.call hb1)
      have H21 := Lib.hid (H2.out.call hb1)
      have HB1 := Lib.hid (below_next HB.out hb1)
      obtain ⟨x0, x1, x2, x3, xf⟩ := H11.out.all
      clear hb1 H1 H2 HB HM
      go_wp2_with fail
      refine (xp36 [] none 0 0 _ (by simp [bulkL]) (Kd.none_ _ _ _)).mono ?_
      rintro e w4 ⟨A4, l4, c4, rfl, hN4, hb4⟩
      obtain ⟨d0, d1, d2, d3, df⟩ := (H21.out.call hb4).all
      have HN4 := Lib.hid hN4
      have HB4 := Lib.hid (below_next HB1.out hb4)
      have H2L := Lib.hid H21.out.lt
      clear hb4 hN4
      go_wp2
      refine bodyPost_ret (v := .tuple #[.agg #[.int .u8 25, .int .u64 0, .string ⟨#[]⟩, .slice A4 l4 c4], .int .i64 0]) (by simp [results, Tryd.results22, go_sem, d0, d1, d2, d3]) rfl ?_
      rw [HE.out]
      exact put_fin rfl HN4.out HB4.out H2L.out
    · have hp := fun w => xputcond_any c w HC.out
      rw [show condV c = (errV c, 0) from if_pos HCK.out] at hp
      have HP := Lib.hid hp
      clear hp
      go_enter Tryd.func22, Tryd.ntmps22
      go_wp2_with fail
      refine (HM.out _).mono ?_
      rintro e w1 ⟨rfl, hb1⟩
      have H11 := Lib.hid (H1.out.call hb1)
      have H21 := Lib.hid (H2.out.call hb1)
      have HB1 := Lib.hid (below_next HB.out hb1)
      obtain ⟨x0, x1, x2, x3, xf⟩ := H11.out.all
      clear hb1 H1 H2 HB HM
      go_wp2_with fail
      refine (HP.out _).mono ?_
      rintro e w2 ⟨k2, n2, t2, ks2, A2, l2, c2, hv2, hk2, hn2, rfl, hN2, hb2⟩
      have hv2 : errV c = .mk k2 n2 t2 ks2 := hv2
      have HV2 := Lib.hid hv2
      have hnx := below_next hb2 (((Below.refl w2.heap.size w2).alloc (Nat.le_refl _) (.cells #[.int .u8 (k2 : Int), .int .u64 (n2 : Int), .string t2, .slice A2 l2 c2] 25)).alloc (by simp) (.cells #[.int .u8 (k2 : Int), .int .u64 (n2 : Int), .string t2, .slice A2 l2 c2] 25))
      have hkr := kid1 (t := t2) hk2 hn2 (hN2.kd.alloc (.cells #[.int .u8 (k2 : Int), .int .u64 (n2 : Int), .string t2, .slice A2 l2 c2] 25))
      simp only [World.size_alloc] at hkr
      have HKR := Lib.hid hkr
      have H22 := Lib.hid (H21.out.call hnx)
      have HB2 := Lib.hid (below_next HB1.out hnx)
      clear hb2 hnx hkr hv2 hk2 hn2 hN2
      go_wp2_with fail
      refine (xp37 (tellO ⟨3, a, b, c⟩) _ 1 1 _ HTB.out (by show Kd _ [errV c] _ _ _; rw [HV2.out]; exact HKR.out)).mono ?_
      rintro e w4 ⟨A4, l4, c4, rfl, hN4, hb4⟩
      obtain ⟨d0, d1, d2, d3, df⟩ := (H22.out.call hb4).all
      have HN4 := Lib.hid hN4
      have HB4 := Lib.hid (below_next HB2.out hb4)
      have H2L := Lib.hid H22.out.lt
      clear hb4 hN4
      go_wp2
      refine bodyPost_ret (v := .tuple #[.agg #[.int .u8 25, .int .u64 0, .string ⟨#[]⟩, .slice A4 l4 c4], .int .i64 0]) (by simp [results, Tryd.results22, go_sem, d0, d1, d2, d3]) rfl ?_
      rw [HE.out]
      exact put_fin rfl HN4.out HB4.out H2L.out
    · go_enter Tryd.func22, Tryd.ntmps22
      go_wp2_with fail
      refine (HM.out _).mono ?_
      rintro e w1 ⟨rfl, hb1⟩
      have H11 := Lib.hid (H1.out.call hb1)
      have H21 := Lib.hid (H2.out.call hb1)
      have HB1 := Lib.hid (below_next HB.out hb1)
      obtain ⟨x0, x1, x2, x3, xf⟩ := H11.out.all
      clear hb1 H1 H2 HB HM
      go_wp2_with fail
      refine (xp38 [] none 0 0 _ (by simp [bulkL]) (Kd.none_ _ _ _)).mono ?_
      rintro e w4 ⟨A4, l4, c4, rfl, hN4, hb4⟩
      obtain ⟨d0, d1, d2, d3, df⟩ := (H21.out.call hb4).all
      have HN4 := Lib.hid hN4
      have HB4 := Lib.hid (below_next HB1.out hb4)
      have H2L := Lib.hid H21.out.lt
      clear hb4 hN4
      go_wp2
      refine bodyPost_ret (v := .tuple #[.agg #[.int .u8 25, .int .u64 0, .string ⟨#[]⟩, .slice A4 l4 c4], .int .i64 0]) (by simp [results, Tryd.results22, go_sem, d0, d1, d2, d3]) rfl ?_
      rw [HE.out]
      exact put_fin rfl HN4.out HB4.out H2L.out
    · go_enter Tryd.func22, Tryd.ntmps22
      go_wp2_with fail
      refine (HM.out _).mono ?_
      rintro e w1 ⟨rfl, hb1⟩
      have H11 := Lib.hid (H1.out.call hb1)
      have H21 := Lib.hid (H2.out.call hb1)
      have HB1 := Lib.hid (below_next HB.out hb1)
      obtain ⟨x0, x1, x2, x3, xf⟩ := H11.out.all
      clear hb1 H1 H2 HB HM
      go_upto_region 14 with fail
      go_region_with (first
        | (go_at_call 58; with_reducible refine (xflag_any a _).mono ?_; rintro e w2 ⟨k2, n2, hf2, hk2, hn2, rfl, hb2⟩; have H12 := Lib.hid ((H11.out.call ((Below.refl _ _).drew)).call hb2); have H22 := Lib.hid ((H21.out.call ((Below.refl _ _).drew)).call hb2); have HB2 := Lib.hid (below_next (HB1.out.drew) hb2); obtain ⟨y0, y1, y2, y3, yf⟩ := H12.out.all; have HF2 := Lib.hid hf2; have HK2 := Lib.hid hk2; have HN2 := Lib.hid hn2; clear hb2 hf2 hk2 hn2)
        | (go_at_call 58; with_reducible refine (xflag_any b _).mono ?_; rintro e w3 ⟨k3, n3, hf3, hk3, hn3, rfl, hb3⟩; have H23 := Lib.hid (H22.out.call hb3); have HB3 := Lib.hid (below_next HB2.out hb3); have HF3 := Lib.hid hf3; have HK3 := Lib.hid hk3; have HN3 := Lib.hid hn3; clear hb3 hf3 hk3 hn3)
        | (go_at_call 55; refine (xp39 (tellO ⟨5, a, b, c⟩) _ 2 2 _ HTB.out (by show Kd _ [flagV a, flagV b] _ _ _; rw [HF2.out, HF3.out]; exact kids_two HK2.out HN2.out HK3.out HN3.out (Kd.none_ _ _ _) (Kd.none_ _ _ _))).mono ?_; rintro e w4 ⟨A4, l4, c4, rfl, hN4, hb4⟩; have hnx := below_next ((Below.refl w3.heap.size w3).alloc (Nat.le_refl _) _) hb4; obtain ⟨d0, d1, d2, d3, df⟩ := (H23.out.call hnx).all; have HN4 := Lib.hid (hN4.less (B' := w3.heap.size) (by simp)); have HB4 := Lib.hid (below_next HB3.out hnx); have H2L := Lib.hid H23.out.lt; clear hb4 hN4 hnx)
        | fail)
      all_goals
        go_wp2_with fail
        refine bodyPost_ret (v := .tuple #[.agg #[.int .u8 25, .int .u64 0, .string ⟨#[]⟩, .slice A4 l4 c4], .int .i64 0]) (by simp [results, Tryd.results22, go_sem, d0, d1, d2, d3]) rfl ?_
        rw [HE.out]
        exact put_fin rfl HN4.out HB4.out H2L.out
end Go.Proofs.YtobnbgbijdhjjaaDoor.Oc
