/-
  The walk of the statement OutcomeBack: what Put answers Get tells as it was, and what Get tells is told again behind Put; and so conditions. Conditions: the table utf.shapes lies as the program's text lays it; values of bulk at most 2^20.
-/
import Derived.Test.YtobnbgbijdhjjaaDoorOci
import Derived.Test.YtobnbgbijdhjjaaDoorLrg
namespace Go.Proofs.YtobnbgbijdhjjaaDoor.Oc
set_option maxRecDepth 100000
open Go.RowKit Go.Proofs.YtobnbgbijdhjjaaDoor.Utf Go.Proofs.YtobnbgbijdhjjaaDoor.Val Go.Proofs.YtobnbgbijdhjjaaDoor.Fl V

theorem nil_n64 {ks : List V} (h : ks.length = 0) : n64L ks := by
  rw [List.eq_nil_of_length_eq_zero h]
  trivial
mutual
theorem rep_n64 {own : Bool} {w : World} {P : Nat → Prop} : ∀ {v : V} {b o : Nat}, RepV own w P v b o → n64 v
  | .mk _ _ _ _, _, _, h => by
    obtain ⟨A, l, c, _, _, _, _, hk, hn, hl, _, hr⟩ := h
    refine ⟨hk, hn, ?_⟩
    by_cases h0 : 0 < l
    · obtain ⟨b', o', _, _, _, hrow⟩ := hr h0
      exact row_n64 hrow
    · exact nil_n64 (by omega)
theorem row_n64 {own : Bool} {w : World} {P : Nat → Prop} : ∀ {ks : List V} {b o : Nat}, RowL own w P ks b o → n64L ks
  | [], _, _, _ => trivial
  | _ :: _, _, _, h => ⟨rep_n64 h.1, row_n64 h.2⟩
end
theorem kd_n64 {w : World} {ks : List V} {A : Option Addr} {l c : Nat} (h : Kd w ks A l c) : n64L ks := by
  by_cases h0 : 0 < l
  · obtain ⟨b', o', _, _, _, hrow⟩ := h.2.2 h0
    exact row_n64 hrow
  · exact nil_n64 (by have := h.len; omega)
theorem put_bulk (o : O) : bulk (putO o) ≤ o.c.size + 20 := by
  unfold putO
  by_cases h : o.k = 0
  · rw [if_pos h]; simp only [nullV, bulk, bulkL, size_nil]; omega
  · rw [if_neg h]
    have := tell_bulk o
    have h2 := bulk_take (tellO o) (cutN (tellO o) (tellO o).length)
    simp only [putL, bulk, bulkL, size_nil]
    unfold trim
    omega
/-- What was put, where it is got, and asked whether it may be. -/
theorem get_of_put {k a b : Nat} {c : ByteArray} (hm : mayO ⟨k, a, b, c⟩ = true) {pk pn : Nat} {pt : ByteArray} {pks : List V} (hv : putO ⟨k, a, b, c⟩ = .mk pk pn pt pks) (hs : c.size ≤ 134217728) (hn : pn < 18446744073709551616) (pA : Option Addr) (pl pc : Nat) (w : World) (hK : Kd w pks pA pl pc) (hT : Tab w) :
    Calls Tryd.prog 23 #[.agg #[.int .u8 (pk : Int), .int .u64 (pn : Int), .string pt, .slice pA pl pc]] w fun e w' => e = .returned (.tuple #[.agg #[.int .u8 (k : Int), .int .u64 (a : Int), .int .u64 (b : Int), .string c], .int .i64 0]) ∧ Below w.heap.size w w' := by
  have hb := put_bulk ⟨k, a, b, c⟩
  rw [hv] at hb
  simp only [bulk] at hb
  have h := oget_any pk pn pt pks pA pl pc w (by omega) (by omega) hn hK hT
  rw [← hv, get_put hm] at h
  exact h
theorem right_of_put {k a b : Nat} {c : ByteArray} (hm : mayO ⟨k, a, b, c⟩ = true) {pk pn : Nat} {pt : ByteArray} {pks : List V} (hv : putO ⟨k, a, b, c⟩ = .mk pk pn pt pks) (hs : c.size ≤ 134217728) (hn : pn < 18446744073709551616) (pA : Option Addr) (pl pc : Nat) (w : World) (hK : Kd w pks pA pl pc) (hT : Tab w) :
    Calls Tryd.prog 25 #[.agg #[.int .u8 (pk : Int), .int .u64 (pn : Int), .string pt, .slice pA pl pc]] w (GivesB true w) := by
  have hb := put_bulk ⟨k, a, b, c⟩
  rw [hv] at hb
  simp only [bulk] at hb
  have h := vright_any pk pn pt pks pA pl pc w (by omega) (by omega) hn hK hT
  rw [← hv, put_ok hm] at h
  exact h
theorem err_bulk (c : ByteArray) : bulk (errV c) ≤ c.size + 10 := by
  by_cases h : c.size = 0
  · rw [err_null h]; simp only [nullV, bulk, bulkL, size_nil]; omega
  · rw [err_kind h]; simp only [putL, bulk, bulkL, size_nil]; omega
theorem cond_of_put {s : ByteArray} (hc : cOk s = true) {zk zn : Nat} {zt : ByteArray} {zks : List V} (hv : errV s = .mk zk zn zt zks) (hs : s.size ≤ 134217728) (hn : zn < 18446744073709551616) (zA : Option Addr) (zl zc : Nat) (w : World) (hK : Kd w zks zA zl zc) (hT : Tab w) :
    Calls Tryd.prog 27 #[.agg #[.int .u8 (zk : Int), .int .u64 (zn : Int), .string zt, .slice zA zl zc]] w fun e w' => e = .returned (.tuple #[.string s, .int .i64 0]) ∧ Below w.heap.size w w' := by
  have hb := err_bulk s
  rw [hv] at hb
  simp only [bulk] at hb
  have h := getcond_any zk zn zt zks zA zl zc w (by omega) (by omega) hn hK hT
  rw [← hv, cond_err hc] at h
  exact h
/-- What is kept: the outcome's box, the value's box, its kids. -/
structure SB (w wi : World) (k a b : Nat) (c : ByteArray) (k1 n1 : Nat) (t1 : ByteArray) (ks1 : List V) (A1 : Option Addr) (l1 c1 : Nat) : Prop where
  b3 : BxO wi w.heap.size (.int .u8 (k : Int)) (.int .u64 (a : Int)) (.int .u64 (b : Int)) (.string c)
  b4 : Box wi (w.heap.size + 1) (.int .u8 (k1 : Int)) (.int .u64 (n1 : Int)) (.string t1) (.slice A1 l1 c1)
  kd : Kd wi ks1 A1 l1 c1
  low : Below w.heap.size w wi
section
variable {w wi w' : World} {k a b : Nat} {c : ByteArray} {k1 n1 : Nat} {t1 : ByteArray} {ks1 : List V} {A1 : Option Addr} {l1 c1 : Nat}
theorem SB.call (h : SB w wi k a b c k1 n1 t1 ks1 A1 l1 c1) (hb : Below wi.heap.size wi w') : SB w w' k a b c k1 n1 t1 ks1 A1 l1 c1 := ⟨h.b3.call hb, h.b4.call hb, h.kd.call hb, below_next h.low hb⟩
theorem SB.alloc (h : SB w wi k a b c k1 n1 t1 ks1 A1 l1 c1) (o : Obj) : SB w (wi.alloc o) k a b c k1 n1 t1 ks1 A1 l1 c1 := h.call ((Below.refl _ _).alloc (Nat.le_refl _) _)
end
end Go.Proofs.YtobnbgbijdhjjaaDoor.Oc
namespace Go.Proofs.YtobnbgbijdhjjaaDoor.outcomeBack
set_option maxRecDepth 100000
open Go.RowKit Go.Proofs.YtobnbgbijdhjjaaDoor.Utf Go.Proofs.YtobnbgbijdhjjaaDoor.Val Go.Proofs.YtobnbgbijdhjjaaDoor.Fl Go.Proofs.YtobnbgbijdhjjaaDoor.Oc V

set_option maxHeartbeats 8000000 in
theorem walk (k a b : Nat) (c : ByteArray) (k1 n1 : Nat) (t1 : ByteArray) (ks1 : List V) (A1 : Option Addr) (l1 c1 : Nat) (s : ByteArray) (w : World) (hTab : Tab w) (hs : c.size ≤ 1048576) (ha : a < 18446744073709551616) (hb : b < 18446744073709551616)
    (hN : bulk (.mk k1 n1 t1 ks1) ≤ 1048576) (hk1 : k1 < 256) (hn1 : n1 < 18446744073709551616) (hK : Kd w ks1 A1 l1 c1) (hss : s.size ≤ 1048576) :
    Calls Tryd.prog 6 #[.agg #[.int .u8 (k : Int), .int .u64 (a : Int), .int .u64 (b : Int), .string c], .agg #[.int .u8 (k1 : Int), .int .u64 (n1 : Int), .string t1, .slice A1 l1 c1], .string s] w (GivesB true w) := by
  have hB : Below w.heap.size w ((w.alloc (.cells #[.int .u8 (k : Int), .int .u64 (a : Int), .int .u64 (b : Int), .string c] 52)).alloc (.cells #[.int .u8 (k1 : Int), .int .u64 (n1 : Int), .string t1, .slice A1 l1 c1] 25)) := two_boxes w _ _
  have hS : SB w ((w.alloc (.cells #[.int .u8 (k : Int), .int .u64 (a : Int), .int .u64 (b : Int), .string c] 52)).alloc (.cells #[.int .u8 (k1 : Int), .int .u64 (n1 : Int), .string t1, .slice A1 l1 c1] 25)) k a b c k1 n1 t1 ks1 A1 l1 c1 :=
    ⟨(BxO.new w _ _ _ _).call ((Below.refl _ _).alloc (Nat.le_refl _) _), Box.new2 w (.cells #[.int .u8 (k : Int), .int .u64 (a : Int), .int .u64 (b : Int), .string c] 52) _ _ _ _, hK.call hB, hB⟩
  have HS := Lib.hid hS
  have HT := Lib.hid hTab
  have HP := Lib.hid (fun w => oput_any k a b c w (by omega) ha hb)
  have HC := Lib.hid hs
  have HD := Lib.hid hss
  have HG := Lib.hid (fun w => oget_any k1 n1 t1 ks1 A1 l1 c1 w (by simp only [bulk] at hN; omega) (by simp only [bulk] at hN; omega) hn1)
  have HM := Lib.hid (fun (o : O) (h : getR (.mk k1 n1 t1 ks1) = some o) => (get_may h : mayO o = true ∧ o.c.size ≤ bulk (.mk k1 n1 t1 ks1) ∧ (n64 (.mk k1 n1 t1 ks1) → o.a < 18446744073709551616 ∧ o.b < 18446744073709551616)))
  have H64 := Lib.hid (show n64 (.mk k1 n1 t1 ks1) from ⟨hk1, hn1, kd_n64 hK⟩)
  have HN := Lib.hid hN
  have HK1 := Lib.hid hk1
  have HN1 := Lib.hid hn1
  have hLL := fun w (h : Kd w ks1 A1 l1 c1) => large_any [.mk k1 n1 t1 ks1] _ 1 1 _ (by simp only [bulkL]; omega) (kid1 (t := t1) hk1 hn1 h)
  obtain ⟨big, hbig⟩ : ∃ q, decide (8192 < bigL [.mk k1 n1 t1 ks1]) = q := ⟨_, rfl⟩
  rw [hbig] at hLL
  have HL := Lib.hid hLL
  clear hB hS ha hb hN hk1 hn1 hK hLL hbig hTab
  by_cases h4 : 4096 < c.size + s.size
  · have hd : decide ((4096 : Int) < (c.size : Int) + (s.size : Int)) = true := decide_eq_true (by omega)
    clear h4
    go_enter Tryd.func6, Tryd.ntmps6
    go_wp2_with fail
    with_reducible refine (works8_any _ (HT.out.call HS.out.low)).mono ?_
    rintro e w1 ⟨rfl, hb1⟩
    go_wp2_with fail
    go_ret
    exact ⟨rfl, below_next HS.out.low hb1⟩
  have hd : decide ((4096 : Int) < (c.size : Int) + (s.size : Int)) = false := decide_eq_false (by omega)
  clear h4
  have hll := HL.out _ HS.out.kd
  simp only [World.size_alloc] at hll
  have HLL := Lib.hid hll
  clear hll
  clear HL
  cases big with
  | true =>
    go_enter Tryd.func6, Tryd.ntmps6
    go_wp2_with fail
    with_reducible refine HLL.out.mono ?_
    rintro e w0 ⟨rfl, hb0⟩
    have HS0 := Lib.hid ((HS.out.alloc (.cells #[.int .u8 (k1 : Int), .int .u64 (n1 : Int), .string t1, .slice A1 l1 c1] 25)).call hb0)
    clear hb0
    go_wp2_with fail
    with_reducible refine (works8_any _ (HT.out.call HS0.out.low)).mono ?_
    rintro e w1 ⟨rfl, hb1⟩
    go_wp2_with fail
    go_ret
    exact ⟨rfl, below_next HS0.out.low hb1⟩
  | false =>
    go_enter Tryd.func6, Tryd.ntmps6
    go_wp2_with fail
    with_reducible refine HLL.out.mono ?_
    rintro e w0 ⟨rfl, hb0⟩
    have HS0 := Lib.hid ((HS.out.alloc (.cells #[.int .u8 (k1 : Int), .int .u64 (n1 : Int), .string t1, .slice A1 l1 c1] 25)).call hb0)
    clear hb0 HLL HS hd hs hss
    obtain ⟨o0, o1, o2, o3, _⟩ := HS0.out.b3.all
    cases hm : mayO ⟨k, a, b, c⟩ with
    | false =>
      have hp := HP.out
      rw [show putR ⟨k, a, b, c⟩ = (Oc.zeroV, 1) from if_neg (by rw [hm]; exact Bool.false_ne_true)] at hp
      have HPA := Lib.hid hp
      clear hp hm
      go_wp2_with fail
      with_reducible refine (HPA.out _).mono ?_
      rintro e wA ⟨pk, pn, pt, pks, pA, pl, pc, _, _, _, rfl, _, hbA⟩
      have HSA := Lib.hid ((HS0.out.call hbA).alloc (.cells #[.int .u8 (pk : Int), .int .u64 (pn : Int), .string pt, .slice pA pl pc] 25))
      clear hbA o0 o1 o2 o3
      obtain ⟨v0, v1, v2, v3, _⟩ := HSA.out.b4.all
      go_wp2_with fail
      with_reducible refine (HG.out _ HSA.out.kd (HT.out.call HSA.out.low)).mono ?_
      clear v0 v1 v2 v3
      cases hgr : getR (.mk k1 n1 t1 ks1) with
      | none =>
        rintro e wB ⟨rfl, hbB⟩
        have HSB := Lib.hid ((HSA.out.call hbB).alloc (.cells #[.int .u8 0, .int .u64 0, .int .u64 0, .string ⟨#[]⟩] 52))
        clear hbB hgr
        cases hc : cOk s with
        | false =>
          have hp := fun w => putcond_any s w (by have := HD.out; omega)
          rw [show condV s = (Oc.zeroV, 1) from if_neg (by rw [hc]; exact Bool.false_ne_true)] at hp
          have HPC := Lib.hid hp
          clear hp hc
          go_wp2_with fail
          with_reducible refine (HPC.out _).mono ?_
          rintro e wE ⟨zk, zn, zt, zks, zA, zl, zc, _, _, _, rfl, _, hbE⟩
          have HSE := Lib.hid ((HSB.out.call hbE).alloc (.cells #[.int .u8 (zk : Int), .int .u64 (zn : Int), .string zt, .slice zA zl zc] 25))
          clear hbE
          go_wp2_with fail
          with_reducible refine (works8_any _ (HT.out.call HSE.out.low)).mono ?_
          rintro e wF ⟨rfl, hbF⟩
          go_wp2_with fail
          go_ret
          exact ⟨rfl, below_next HSE.out.low hbF⟩
        | true =>
          have hp := fun w => putcond_any s w (by have := HD.out; omega)
          rw [show condV s = (errV s, 0) from if_pos hc] at hp
          have HPC := Lib.hid hp
          have HCK := Lib.hid hc
          clear hp hc
          by_cases h0 : s.size = 0
          · have HE := Lib.hid (err_null h0)
            obtain rfl := empty_of h0
            clear h0
            go_wp2_with fail
            with_reducible refine (HPC.out _).mono ?_
            rintro e wE ⟨zk, zn, zt, zks, zA, zl, zc, hzv, _, hzn, rfl, hzN, hbE⟩
            have hzv : errV ⟨#[]⟩ = .mk zk zn zt zks := hzv
            have HSE := Lib.hid ((HSB.out.call hbE).alloc (.cells #[.int .u8 (zk : Int), .int .u64 (zn : Int), .string zt, .slice zA zl zc] 25))
            have HZB := Lib.hid (Box.new wE (.int .u8 (zk : Int)) (.int .u64 (zn : Int)) (.string zt) (.slice zA zl zc))
            have HZ := Lib.hid (fun (hT : Tab (wE.alloc (.cells #[.int .u8 (zk : Int), .int .u64 (zn : Int), .string zt, .slice zA zl zc] 25))) => cond_of_put HCK.out hzv (by have := HD.out; omega) hzn zA zl zc _ (hzN.kd.alloc _) hT)
            have hz1 : zk = 1 := by rw [HE.out] at hzv; unfold nullV at hzv; injection hzv with q1 q2 q3 q4; exact q1.symm
            have hzk : ((zk : Int) == 1) = true := by rw [hz1]; rfl
            clear hz1
            clear hbE hzv hzn hzN
            go_wp2_with fail
            with_reducible refine (HZ.out (HT.out.call HSE.out.low)).mono ?_
            rintro e wF ⟨rfl, hbF⟩
            obtain ⟨z0, z1, z2, z3, _⟩ := (HZB.out.call hbF).all
            have HSF := Lib.hid (HSE.out.call hbF)
            clear hbF z1 z2 z3
            go_wp2_with fail
            with_reducible refine (works8_any _ (HT.out.call HSF.out.low)).mono ?_
            rintro e wG ⟨rfl, hbG⟩
            go_wp2_with fail
            go_ret
            exact ⟨rfl, below_next HSF.out.low hbG⟩
          · have HE := Lib.hid (err_kind h0)
            have hd9 : s.toList.isEmpty = false := empty_no' h0
            clear h0
            go_wp2_with fail
            with_reducible refine (HPC.out _).mono ?_
            rintro e wE ⟨zk, zn, zt, zks, zA, zl, zc, hzv, _, hzn, rfl, hzN, hbE⟩
            have hzv : errV s = .mk zk zn zt zks := hzv
            have HSE := Lib.hid ((HSB.out.call hbE).alloc (.cells #[.int .u8 (zk : Int), .int .u64 (zn : Int), .string zt, .slice zA zl zc] 25))
            have HZB := Lib.hid (Box.new wE (.int .u8 (zk : Int)) (.int .u64 (zn : Int)) (.string zt) (.slice zA zl zc))
            have HZ := Lib.hid (fun (hT : Tab (wE.alloc (.cells #[.int .u8 (zk : Int), .int .u64 (zn : Int), .string zt, .slice zA zl zc] 25))) => cond_of_put HCK.out hzv (by have := HD.out; omega) hzn zA zl zc _ (hzN.kd.alloc _) hT)
            have hz1 : zk = 25 := by rw [HE.out] at hzv; injection hzv with q1 q2 q3 q4; exact q1.symm
            have hzk : ((zk : Int) == 1) = false := by rw [hz1]; rfl
            clear hz1
            clear hbE hzv hzn hzN
            go_wp2_with fail
            with_reducible refine (HZ.out (HT.out.call HSE.out.low)).mono ?_
            rintro e wF ⟨rfl, hbF⟩
            obtain ⟨z0, z1, z2, z3, _⟩ := (HZB.out.call hbF).all
            have HSF := Lib.hid (HSE.out.call hbF)
            clear hbF z1 z2 z3
            go_wp2_with fail
            with_reducible refine (works8_any _ (HT.out.call HSF.out.low)).mono ?_
            rintro e wG ⟨rfl, hbG⟩
            go_wp2_with fail
            go_ret
            exact ⟨rfl, below_next HSF.out.low hbG⟩
      | some q =>
        obtain ⟨qk, qa, qb, qc⟩ := q
        obtain ⟨hqm, hqs, hq64⟩ := HM.out _ hgr
        obtain ⟨hqa, hqb⟩ := hq64 H64.out
        have hqs : qc.size ≤ 1048576 := Nat.le_trans hqs HN.out
        have hpp := fun w => oput_any qk qa qb qc w (by omega) hqa hqb
        have e1 : putR ⟨qk, qa, qb, qc⟩ = (putO ⟨qk, qa, qb, qc⟩, 0) := if_pos hqm
        rw [e1] at hpp
        have HPP := Lib.hid hpp
        have HQM := Lib.hid hqm
        have HQS := Lib.hid hqs
        clear hqm hqs hq64 hqa hqb hpp e1 hgr
        rintro e wB ⟨he, hbB⟩
        have he : e = .returned (.tuple #[.agg #[.int .u8 (qk : Int), .int .u64 (qa : Int), .int .u64 (qb : Int), .string qc], .int .i64 0]) := he
        subst he
        have HSB := Lib.hid ((HSA.out.call hbB).alloc (.cells #[.int .u8 (qk : Int), .int .u64 (qa : Int), .int .u64 (qb : Int), .string qc] 52))
        have HQB := Lib.hid (BxO.new wB (.int .u8 (qk : Int)) (.int .u64 (qa : Int)) (.int .u64 (qb : Int)) (.string qc))
        clear hbB
        go_wp2_with fail
        with_reducible refine (HPP.out _).mono ?_
        rintro e wC ⟨yk, yn, yt, yks, yA, yl, yc, hyv, _, hyn, rfl, hyN, hbC⟩
        have hyv : putO ⟨qk, qa, qb, qc⟩ = .mk yk yn yt yks := hyv
        have hnx := below_next hbC ((Below.refl _ _).alloc (Nat.le_refl _) (.cells #[.int .u8 (yk : Int), .int .u64 (yn : Int), .string yt, .slice yA yl yc] 25))
        have HSC := Lib.hid (HSB.out.call hnx)
        have HQC := Lib.hid (HQB.out.call hnx)
        have HY := Lib.hid (fun (hT : Tab (wC.alloc (.cells #[.int .u8 (yk : Int), .int .u64 (yn : Int), .string yt, .slice yA yl yc] 25))) => get_of_put HQM.out hyv (by have := HQS.out; omega) hyn yA yl yc _ (hyN.kd.alloc _) hT)
        clear hbC hnx hyv hyn hyN HQB HSB
        go_wp2_with fail
        with_reducible refine (HY.out (HT.out.call HSC.out.low)).mono ?_
        rintro e wD ⟨rfl, hbD⟩
        have HSD := Lib.hid ((HSC.out.call hbD).alloc (.cells #[.int .u8 (qk : Int), .int .u64 (qa : Int), .int .u64 (qb : Int), .string qc] 52))
        obtain ⟨u0, u1, u2, u3, _⟩ := (HQC.out.call hbD).all
        have hul := (HQC.out.call hbD).lt
        have hune : ¬ wB.heap.size = wD.heap.size := by omega
        clear hbD HQC HSC
        cases hc : cOk s with
        | false =>
          have hp := fun w => putcond_any s w (by have := HD.out; omega)
          rw [show condV s = (Oc.zeroV, 1) from if_neg (by rw [hc]; exact Bool.false_ne_true)] at hp
          have HPC := Lib.hid hp
          clear hp hc
          go_wp2_with fail
          with_reducible refine (HPC.out _).mono ?_
          rintro e wE ⟨zk, zn, zt, zks, zA, zl, zc, _, _, _, rfl, _, hbE⟩
          have HSE := Lib.hid ((HSD.out.call hbE).alloc (.cells #[.int .u8 (zk : Int), .int .u64 (zn : Int), .string zt, .slice zA zl zc] 25))
          clear hbE
          go_wp2_with fail
          with_reducible refine (works8_any _ (HT.out.call HSE.out.low)).mono ?_
          rintro e wF ⟨rfl, hbF⟩
          go_wp2_with fail
          go_ret
          exact ⟨rfl, below_next HSE.out.low hbF⟩
        | true =>
          have hp := fun w => putcond_any s w (by have := HD.out; omega)
          rw [show condV s = (errV s, 0) from if_pos hc] at hp
          have HPC := Lib.hid hp
          have HCK := Lib.hid hc
          clear hp hc
          by_cases h0 : s.size = 0
          · have HE := Lib.hid (err_null h0)
            obtain rfl := empty_of h0
            clear h0
            go_wp2_with fail
            with_reducible refine (HPC.out _).mono ?_
            rintro e wE ⟨zk, zn, zt, zks, zA, zl, zc, hzv, _, hzn, rfl, hzN, hbE⟩
            have hzv : errV ⟨#[]⟩ = .mk zk zn zt zks := hzv
            have HSE := Lib.hid ((HSD.out.call hbE).alloc (.cells #[.int .u8 (zk : Int), .int .u64 (zn : Int), .string zt, .slice zA zl zc] 25))
            have HZB := Lib.hid (Box.new wE (.int .u8 (zk : Int)) (.int .u64 (zn : Int)) (.string zt) (.slice zA zl zc))
            have HZ := Lib.hid (fun (hT : Tab (wE.alloc (.cells #[.int .u8 (zk : Int), .int .u64 (zn : Int), .string zt, .slice zA zl zc] 25))) => cond_of_put HCK.out hzv (by have := HD.out; omega) hzn zA zl zc _ (hzN.kd.alloc _) hT)
            have hz1 : zk = 1 := by rw [HE.out] at hzv; unfold nullV at hzv; injection hzv with q1 q2 q3 q4; exact q1.symm
            have hzk : ((zk : Int) == 1) = true := by rw [hz1]; rfl
            clear hz1
            clear hbE hzv hzn hzN
            go_wp2_with fail
            with_reducible refine (HZ.out (HT.out.call HSE.out.low)).mono ?_
            rintro e wF ⟨rfl, hbF⟩
            obtain ⟨z0, z1, z2, z3, _⟩ := (HZB.out.call hbF).all
            have HSF := Lib.hid (HSE.out.call hbF)
            clear hbF z1 z2 z3
            go_wp2_with fail
            with_reducible refine (works8_any _ (HT.out.call HSF.out.low)).mono ?_
            rintro e wG ⟨rfl, hbG⟩
            go_wp2_with fail
            go_ret
            exact ⟨rfl, below_next HSF.out.low hbG⟩
          · have HE := Lib.hid (err_kind h0)
            have hd9 : s.toList.isEmpty = false := empty_no' h0
            clear h0
            go_wp2_with fail
            with_reducible refine (HPC.out _).mono ?_
            rintro e wE ⟨zk, zn, zt, zks, zA, zl, zc, hzv, _, hzn, rfl, hzN, hbE⟩
            have hzv : errV s = .mk zk zn zt zks := hzv
            have HSE := Lib.hid ((HSD.out.call hbE).alloc (.cells #[.int .u8 (zk : Int), .int .u64 (zn : Int), .string zt, .slice zA zl zc] 25))
            have HZB := Lib.hid (Box.new wE (.int .u8 (zk : Int)) (.int .u64 (zn : Int)) (.string zt) (.slice zA zl zc))
            have HZ := Lib.hid (fun (hT : Tab (wE.alloc (.cells #[.int .u8 (zk : Int), .int .u64 (zn : Int), .string zt, .slice zA zl zc] 25))) => cond_of_put HCK.out hzv (by have := HD.out; omega) hzn zA zl zc _ (hzN.kd.alloc _) hT)
            have hz1 : zk = 25 := by rw [HE.out] at hzv; injection hzv with q1 q2 q3 q4; exact q1.symm
            have hzk : ((zk : Int) == 1) = false := by rw [hz1]; rfl
            clear hz1
            clear hbE hzv hzn hzN
            go_wp2_with fail
            with_reducible refine (HZ.out (HT.out.call HSE.out.low)).mono ?_
            rintro e wF ⟨rfl, hbF⟩
            obtain ⟨z0, z1, z2, z3, _⟩ := (HZB.out.call hbF).all
            have HSF := Lib.hid (HSE.out.call hbF)
            clear hbF z1 z2 z3
            go_wp2_with fail
            with_reducible refine (works8_any _ (HT.out.call HSF.out.low)).mono ?_
            rintro e wG ⟨rfl, hbG⟩
            go_wp2_with fail
            go_ret
            exact ⟨rfl, below_next HSF.out.low hbG⟩
    | true =>
      have hp := HP.out
      rw [show putR ⟨k, a, b, c⟩ = (putO ⟨k, a, b, c⟩, 0) from if_pos hm] at hp
      have HPA := Lib.hid hp
      have HMM := Lib.hid hm
      clear hp hm
      go_wp2_with fail
      with_reducible refine (HPA.out _).mono ?_
      rintro e wX ⟨pk, pn, pt, pks, pA, pl, pc, hpv, _, hpn, rfl, hpN, hbX⟩
      have hpv : putO ⟨k, a, b, c⟩ = .mk pk pn pt pks := hpv
      have HSX := Lib.hid ((HS0.out.call hbX).alloc (.cells #[.int .u8 (pk : Int), .int .u64 (pn : Int), .string pt, .slice pA pl pc] 25))
      have HPB := Lib.hid (Box.new wX (.int .u8 (pk : Int)) (.int .u64 (pn : Int)) (.string pt) (.slice pA pl pc))
      have HPV := Lib.hid hpv
      have HPN := Lib.hid hpn
      have HPK := Lib.hid (hpN.kd.alloc (.cells #[.int .u8 (pk : Int), .int .u64 (pn : Int), .string pt, .slice pA pl pc] 25))
      clear hbX o0 o1 o2 o3 hpv hpn hpN
      go_wp2_with fail
      with_reducible refine (get_of_put HMM.out HPV.out (by have := HC.out; omega) HPN.out pA pl pc _ HPK.out (HT.out.call HSX.out.low)).mono ?_
      rintro e wY ⟨rfl, hbY⟩
      have hnx := below_next hbY ((Below.refl _ _).alloc (Nat.le_refl _) (.cells #[.int .u8 (k : Int), .int .u64 (a : Int), .int .u64 (b : Int), .string c] 52))
      have HSY := Lib.hid (HSX.out.call hnx)
      have HPBY := Lib.hid (HPB.out.call hnx)
      have HPKY := Lib.hid (HPK.out.call hnx)
      obtain ⟨o0, o1, o2, o3, _⟩ := (HSX.out.call hbY).b3.all
      have hol := (HSX.out.call hbY).b3.lt
      have hone : ¬ w.heap.size = wY.heap.size := by omega
      obtain ⟨p0, p1, p2, p3, _⟩ := (HPB.out.call hbY).all
      have hpl := (HPB.out.call hbY).lt
      have hpne : ¬ wX.heap.size = wY.heap.size := by omega
      clear hnx hbY
      go_wp2_with fail
      with_reducible refine (right_of_put HMM.out HPV.out (by have := HC.out; omega) HPN.out pA pl pc _ HPKY.out (HT.out.call HSY.out.low)).mono ?_
      rintro e wA ⟨rfl, hbA⟩
      have HSA := Lib.hid (HSY.out.call hbA)
      clear hbA o0 o1 o2 o3 hol hone p0 p1 p2 p3 hpl hpne HPBY HPKY HSY HSX HPB HPK
      obtain ⟨v0, v1, v2, v3, _⟩ := HSA.out.b4.all
      go_wp2_with fail
      with_reducible refine (HG.out _ HSA.out.kd (HT.out.call HSA.out.low)).mono ?_
      clear v0 v1 v2 v3
      cases hgr : getR (.mk k1 n1 t1 ks1) with
      | none =>
        rintro e wB ⟨rfl, hbB⟩
        have HSB := Lib.hid ((HSA.out.call hbB).alloc (.cells #[.int .u8 0, .int .u64 0, .int .u64 0, .string ⟨#[]⟩] 52))
        clear hbB hgr
        cases hc : cOk s with
        | false =>
          have hp := fun w => putcond_any s w (by have := HD.out; omega)
          rw [show condV s = (Oc.zeroV, 1) from if_neg (by rw [hc]; exact Bool.false_ne_true)] at hp
          have HPC := Lib.hid hp
          clear hp hc
          go_wp2_with fail
          with_reducible refine (HPC.out _).mono ?_
          rintro e wE ⟨zk, zn, zt, zks, zA, zl, zc, _, _, _, rfl, _, hbE⟩
          have HSE := Lib.hid ((HSB.out.call hbE).alloc (.cells #[.int .u8 (zk : Int), .int .u64 (zn : Int), .string zt, .slice zA zl zc] 25))
          clear hbE
          go_wp2_with fail
          with_reducible refine (works8_any _ (HT.out.call HSE.out.low)).mono ?_
          rintro e wF ⟨rfl, hbF⟩
          go_wp2_with fail
          go_ret
          exact ⟨rfl, below_next HSE.out.low hbF⟩
        | true =>
          have hp := fun w => putcond_any s w (by have := HD.out; omega)
          rw [show condV s = (errV s, 0) from if_pos hc] at hp
          have HPC := Lib.hid hp
          have HCK := Lib.hid hc
          clear hp hc
          by_cases h0 : s.size = 0
          · have HE := Lib.hid (err_null h0)
            obtain rfl := empty_of h0
            clear h0
            go_wp2_with fail
            with_reducible refine (HPC.out _).mono ?_
            rintro e wE ⟨zk, zn, zt, zks, zA, zl, zc, hzv, _, hzn, rfl, hzN, hbE⟩
            have hzv : errV ⟨#[]⟩ = .mk zk zn zt zks := hzv
            have HSE := Lib.hid ((HSB.out.call hbE).alloc (.cells #[.int .u8 (zk : Int), .int .u64 (zn : Int), .string zt, .slice zA zl zc] 25))
            have HZB := Lib.hid (Box.new wE (.int .u8 (zk : Int)) (.int .u64 (zn : Int)) (.string zt) (.slice zA zl zc))
            have HZ := Lib.hid (fun (hT : Tab (wE.alloc (.cells #[.int .u8 (zk : Int), .int .u64 (zn : Int), .string zt, .slice zA zl zc] 25))) => cond_of_put HCK.out hzv (by have := HD.out; omega) hzn zA zl zc _ (hzN.kd.alloc _) hT)
            have hz1 : zk = 1 := by rw [HE.out] at hzv; unfold nullV at hzv; injection hzv with q1 q2 q3 q4; exact q1.symm
            have hzk : ((zk : Int) == 1) = true := by rw [hz1]; rfl
            clear hz1
            clear hbE hzv hzn hzN
            go_wp2_with fail
            with_reducible refine (HZ.out (HT.out.call HSE.out.low)).mono ?_
            rintro e wF ⟨rfl, hbF⟩
            obtain ⟨z0, z1, z2, z3, _⟩ := (HZB.out.call hbF).all
            have HSF := Lib.hid (HSE.out.call hbF)
            clear hbF z1 z2 z3
            go_wp2_with fail
            with_reducible refine (works8_any _ (HT.out.call HSF.out.low)).mono ?_
            rintro e wG ⟨rfl, hbG⟩
            go_wp2_with fail
            go_ret
            exact ⟨rfl, below_next HSF.out.low hbG⟩
          · have HE := Lib.hid (err_kind h0)
            have hd9 : s.toList.isEmpty = false := empty_no' h0
            clear h0
            go_wp2_with fail
            with_reducible refine (HPC.out _).mono ?_
            rintro e wE ⟨zk, zn, zt, zks, zA, zl, zc, hzv, _, hzn, rfl, hzN, hbE⟩
            have hzv : errV s = .mk zk zn zt zks := hzv
            have HSE := Lib.hid ((HSB.out.call hbE).alloc (.cells #[.int .u8 (zk : Int), .int .u64 (zn : Int), .string zt, .slice zA zl zc] 25))
            have HZB := Lib.hid (Box.new wE (.int .u8 (zk : Int)) (.int .u64 (zn : Int)) (.string zt) (.slice zA zl zc))
            have HZ := Lib.hid (fun (hT : Tab (wE.alloc (.cells #[.int .u8 (zk : Int), .int .u64 (zn : Int), .string zt, .slice zA zl zc] 25))) => cond_of_put HCK.out hzv (by have := HD.out; omega) hzn zA zl zc _ (hzN.kd.alloc _) hT)
            have hz1 : zk = 25 := by rw [HE.out] at hzv; injection hzv with q1 q2 q3 q4; exact q1.symm
            have hzk : ((zk : Int) == 1) = false := by rw [hz1]; rfl
            clear hz1
            clear hbE hzv hzn hzN
            go_wp2_with fail
            with_reducible refine (HZ.out (HT.out.call HSE.out.low)).mono ?_
            rintro e wF ⟨rfl, hbF⟩
            obtain ⟨z0, z1, z2, z3, _⟩ := (HZB.out.call hbF).all
            have HSF := Lib.hid (HSE.out.call hbF)
            clear hbF z1 z2 z3
            go_wp2_with fail
            with_reducible refine (works8_any _ (HT.out.call HSF.out.low)).mono ?_
            rintro e wG ⟨rfl, hbG⟩
            go_wp2_with fail
            go_ret
            exact ⟨rfl, below_next HSF.out.low hbG⟩
      | some q =>
        obtain ⟨qk, qa, qb, qc⟩ := q
        obtain ⟨hqm, hqs, hq64⟩ := HM.out _ hgr
        obtain ⟨hqa, hqb⟩ := hq64 H64.out
        have hqs : qc.size ≤ 1048576 := Nat.le_trans hqs HN.out
        have hpp := fun w => oput_any qk qa qb qc w (by omega) hqa hqb
        have e1 : putR ⟨qk, qa, qb, qc⟩ = (putO ⟨qk, qa, qb, qc⟩, 0) := if_pos hqm
        rw [e1] at hpp
        have HPP := Lib.hid hpp
        have HQM := Lib.hid hqm
        have HQS := Lib.hid hqs
        clear hqm hqs hq64 hqa hqb hpp e1 hgr
        rintro e wB ⟨he, hbB⟩
        have he : e = .returned (.tuple #[.agg #[.int .u8 (qk : Int), .int .u64 (qa : Int), .int .u64 (qb : Int), .string qc], .int .i64 0]) := he
        subst he
        have HSB := Lib.hid ((HSA.out.call hbB).alloc (.cells #[.int .u8 (qk : Int), .int .u64 (qa : Int), .int .u64 (qb : Int), .string qc] 52))
        have HQB := Lib.hid (BxO.new wB (.int .u8 (qk : Int)) (.int .u64 (qa : Int)) (.int .u64 (qb : Int)) (.string qc))
        clear hbB
        go_wp2_with fail
        with_reducible refine (HPP.out _).mono ?_
        rintro e wC ⟨yk, yn, yt, yks, yA, yl, yc, hyv, _, hyn, rfl, hyN, hbC⟩
        have hyv : putO ⟨qk, qa, qb, qc⟩ = .mk yk yn yt yks := hyv
        have hnx := below_next hbC ((Below.refl _ _).alloc (Nat.le_refl _) (.cells #[.int .u8 (yk : Int), .int .u64 (yn : Int), .string yt, .slice yA yl yc] 25))
        have HSC := Lib.hid (HSB.out.call hnx)
        have HQC := Lib.hid (HQB.out.call hnx)
        have HY := Lib.hid (fun (hT : Tab (wC.alloc (.cells #[.int .u8 (yk : Int), .int .u64 (yn : Int), .string yt, .slice yA yl yc] 25))) => get_of_put HQM.out hyv (by have := HQS.out; omega) hyn yA yl yc _ (hyN.kd.alloc _) hT)
        clear hbC hnx hyv hyn hyN HQB HSB
        go_wp2_with fail
        with_reducible refine (HY.out (HT.out.call HSC.out.low)).mono ?_
        rintro e wD ⟨rfl, hbD⟩
        have HSD := Lib.hid ((HSC.out.call hbD).alloc (.cells #[.int .u8 (qk : Int), .int .u64 (qa : Int), .int .u64 (qb : Int), .string qc] 52))
        obtain ⟨u0, u1, u2, u3, _⟩ := (HQC.out.call hbD).all
        have hul := (HQC.out.call hbD).lt
        have hune : ¬ wB.heap.size = wD.heap.size := by omega
        clear hbD HQC HSC
        cases hc : cOk s with
        | false =>
          have hp := fun w => putcond_any s w (by have := HD.out; omega)
          rw [show condV s = (Oc.zeroV, 1) from if_neg (by rw [hc]; exact Bool.false_ne_true)] at hp
          have HPC := Lib.hid hp
          clear hp hc
          go_wp2_with fail
          with_reducible refine (HPC.out _).mono ?_
          rintro e wE ⟨zk, zn, zt, zks, zA, zl, zc, _, _, _, rfl, _, hbE⟩
          have HSE := Lib.hid ((HSD.out.call hbE).alloc (.cells #[.int .u8 (zk : Int), .int .u64 (zn : Int), .string zt, .slice zA zl zc] 25))
          clear hbE
          go_wp2_with fail
          with_reducible refine (works8_any _ (HT.out.call HSE.out.low)).mono ?_
          rintro e wF ⟨rfl, hbF⟩
          go_wp2_with fail
          go_ret
          exact ⟨rfl, below_next HSE.out.low hbF⟩
        | true =>
          have hp := fun w => putcond_any s w (by have := HD.out; omega)
          rw [show condV s = (errV s, 0) from if_pos hc] at hp
          have HPC := Lib.hid hp
          have HCK := Lib.hid hc
          clear hp hc
          by_cases h0 : s.size = 0
          · have HE := Lib.hid (err_null h0)
            obtain rfl := empty_of h0
            clear h0
            go_wp2_with fail
            with_reducible refine (HPC.out _).mono ?_
            rintro e wE ⟨zk, zn, zt, zks, zA, zl, zc, hzv, _, hzn, rfl, hzN, hbE⟩
            have hzv : errV ⟨#[]⟩ = .mk zk zn zt zks := hzv
            have HSE := Lib.hid ((HSD.out.call hbE).alloc (.cells #[.int .u8 (zk : Int), .int .u64 (zn : Int), .string zt, .slice zA zl zc] 25))
            have HZB := Lib.hid (Box.new wE (.int .u8 (zk : Int)) (.int .u64 (zn : Int)) (.string zt) (.slice zA zl zc))
            have HZ := Lib.hid (fun (hT : Tab (wE.alloc (.cells #[.int .u8 (zk : Int), .int .u64 (zn : Int), .string zt, .slice zA zl zc] 25))) => cond_of_put HCK.out hzv (by have := HD.out; omega) hzn zA zl zc _ (hzN.kd.alloc _) hT)
            have hz1 : zk = 1 := by rw [HE.out] at hzv; unfold nullV at hzv; injection hzv with q1 q2 q3 q4; exact q1.symm
            have hzk : ((zk : Int) == 1) = true := by rw [hz1]; rfl
            clear hz1
            clear hbE hzv hzn hzN
            go_wp2_with fail
            with_reducible refine (HZ.out (HT.out.call HSE.out.low)).mono ?_
            rintro e wF ⟨rfl, hbF⟩
            obtain ⟨z0, z1, z2, z3, _⟩ := (HZB.out.call hbF).all
            have HSF := Lib.hid (HSE.out.call hbF)
            clear hbF z1 z2 z3
            go_wp2_with fail
            with_reducible refine (works8_any _ (HT.out.call HSF.out.low)).mono ?_
            rintro e wG ⟨rfl, hbG⟩
            go_wp2_with fail
            go_ret
            exact ⟨rfl, below_next HSF.out.low hbG⟩
          · have HE := Lib.hid (err_kind h0)
            have hd9 : s.toList.isEmpty = false := empty_no' h0
            clear h0
            go_wp2_with fail
            with_reducible refine (HPC.out _).mono ?_
            rintro e wE ⟨zk, zn, zt, zks, zA, zl, zc, hzv, _, hzn, rfl, hzN, hbE⟩
            have hzv : errV s = .mk zk zn zt zks := hzv
            have HSE := Lib.hid ((HSD.out.call hbE).alloc (.cells #[.int .u8 (zk : Int), .int .u64 (zn : Int), .string zt, .slice zA zl zc] 25))
            have HZB := Lib.hid (Box.new wE (.int .u8 (zk : Int)) (.int .u64 (zn : Int)) (.string zt) (.slice zA zl zc))
            have HZ := Lib.hid (fun (hT : Tab (wE.alloc (.cells #[.int .u8 (zk : Int), .int .u64 (zn : Int), .string zt, .slice zA zl zc] 25))) => cond_of_put HCK.out hzv (by have := HD.out; omega) hzn zA zl zc _ (hzN.kd.alloc _) hT)
            have hz1 : zk = 25 := by rw [HE.out] at hzv; injection hzv with q1 q2 q3 q4; exact q1.symm
            have hzk : ((zk : Int) == 1) = false := by rw [hz1]; rfl
            clear hz1
            clear hbE hzv hzn hzN
            go_wp2_with fail
            with_reducible refine (HZ.out (HT.out.call HSE.out.low)).mono ?_
            rintro e wF ⟨rfl, hbF⟩
            obtain ⟨z0, z1, z2, z3, _⟩ := (HZB.out.call hbF).all
            have HSF := Lib.hid (HSE.out.call hbF)
            clear hbF z1 z2 z3
            go_wp2_with fail
            with_reducible refine (works8_any _ (HT.out.call HSF.out.low)).mono ?_
            rintro e wG ⟨rfl, hbG⟩
            go_wp2_with fail
            go_ret
            exact ⟨rfl, below_next HSF.out.low hbG⟩
end Go.Proofs.YtobnbgbijdhjjaaDoor.outcomeBack
