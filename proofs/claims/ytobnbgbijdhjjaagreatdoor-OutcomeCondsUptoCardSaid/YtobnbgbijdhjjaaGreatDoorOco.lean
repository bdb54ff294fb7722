/-
  The walk of the statement OutcomeConds: PutCond and GetCond tell the value of any condition, and the condition of any value. Conditions: the table utf.shapes lies as the program's text lays it; what is read is of bulk at most 2^20.
  The statement OutcomeConds: PutCond and GetCond tell the value of any condition, and the condition of any value. Conditions: what is read is of bulk at most 2^20; as the card has it, the table utf.shapes lies as the program's text lays it.
-/
import Derived.Test.YtobnbgbijdhjjaaGreatDoorOxp
import Derived.Test.YtobnbgbijdhjjaaGreatDoorOxh
import Derived.Test.YtobnbgbijdhjjaaGreatDoorOci
import Derived.Test.YtobnbgbijdhjjaaGreatDoorLrg
import Derived.Test.YtobnbgbijdhjjaaGreatDoorOpo
import Derived.Deep.DeepHandedRow
namespace Go.Proofs.YtobnbgbijdhjjaaGreatDoor.outcomeConds
set_option maxRecDepth 100000
open Go.RowKit Go.Proofs.YtobnbgbijdhjjaaGreatDoor.Utf Go.Proofs.YtobnbgbijdhjjaaGreatDoor.Val Go.Proofs.YtobnbgbijdhjjaaGreatDoor.Fl Go.Proofs.YtobnbgbijdhjjaaGreatDoor.Oc V

theorem xsame_own {k n : Nat} {t : ByteArray} {ks : List V} {A A' : Option Addr} {l l' c c' : Nat} {w : World} (hN : bulkL ks ≤ 1073741824) (hk : k < 256) (hn : n < 18446744073709551616) (h : Kd w ks A l c) (h' : Kd w ks A' l' c') :
    Calls Tryz.prog 10 #[.agg #[.int .u8 (k : Int), .int .u64 (n : Int), .string t, .slice A l c], .agg #[.int .u8 (k : Int), .int .u64 (n : Int), .string t, .slice A' l' c']] w (GivesB true w) := by
  have := xsame_any (bulkL ks) k n t ks A l c k n t ks A' l' c' w (Nat.le_refl _) (by omega) hk hk hn hn h h'
  rwa [same_self] at this
theorem nil_size : (⟨#[]⟩ : ByteArray).size = 0 := rfl
theorem cond_bulk (s : ByteArray) : bulk (condV s).1 ≤ s.size + 10 := by
  unfold condV
  by_cases h : cOk s = true
  · rw [if_pos h]
    show bulk (errV s) ≤ _
    by_cases h : s.size = 0
    · rw [err_null h]; simp only [nullV, bulk, bulkL, nil_size]; omega
    · rw [err_kind h]; simp only [putL, bulk, bulkL, nil_size]; omega
  · rw [if_neg h]; simp only [Oc.zeroV, bulk, bulkL, nil_size]; omega
/-- What is kept: the value's box, its kids. -/
structure SC (w wi : World) (k n : Nat) (t : ByteArray) (ks : List V) (A : Option Addr) (l c : Nat) : Prop where
  b3 : Box wi w.heap.size (.int .u8 (k : Int)) (.int .u64 (n : Int)) (.string t) (.slice A l c)
  kd : Kd wi ks A l c
  low : Below w.heap.size w wi
section
variable {w wi w' : World} {k n : Nat} {t : ByteArray} {ks : List V} {A : Option Addr} {l c : Nat}
theorem SC.call (h : SC w wi k n t ks A l c) (hb : Below wi.heap.size wi w') : SC w w' k n t ks A l c := ⟨h.b3.call hb, h.kd.call hb, below_next h.low hb⟩
theorem SC.alloc (h : SC w wi k n t ks A l c) (o : Obj) : SC w (wi.alloc o) k n t ks A l c := h.call ((Below.refl _ _).alloc (Nat.le_refl _) _)
end

set_option maxHeartbeats 4000000 in
theorem walk (s : ByteArray) (k n : Nat) (t : ByteArray) (ks : List V) (A : Option Addr) (l c : Nat) (w : World) (hTab : Tab w) (hs : s.size ≤ 1048576) (hN : bulk (.mk k n t ks) ≤ 1048576) (hk : k < 256) (hn : n < 18446744073709551616) (hK : Kd w ks A l c) :
    Calls Tryz.prog 3 #[.string s, .agg #[.int .u8 (k : Int), .int .u64 (n : Int), .string t, .slice A l c]] w (GivesB true w) := by
  have hb0 : Below w.heap.size w (w.alloc (.cells #[.int .u8 (k : Int), .int .u64 (n : Int), .string t, .slice A l c] 25)) := (Below.refl _ _).alloc (Nat.le_refl _) _
  have HS := Lib.hid (show SC w (w.alloc (.cells #[.int .u8 (k : Int), .int .u64 (n : Int), .string t, .slice A l c] 25)) k n t ks A l c from ⟨Box.new w _ _ _ _, hK.call hb0, hb0⟩)
  have HT := Lib.hid hTab
  have HN := Lib.hid hN
  have HNN := Lib.hid hn
  have HSZ := Lib.hid hs
  have hll := large_any [.mk k n t ks] _ 1 1 _ (by simp only [bulkL]; omega) (kid1 (t := t) hk hn (hK.call hb0))
  simp only [World.size_alloc] at hll
  obtain ⟨big, hbig⟩ : ∃ q, decide (8192 < bigL [.mk k n t ks]) = q := ⟨_, rfl⟩
  rw [hbig] at hll
  have HL := Lib.hid hll
  clear hb0 hTab hN hk hn hK hll hbig
  by_cases h4 : 4096 < s.size
  · have hd : decide ((4096 : Int) < (s.size : Int)) = true := decide_eq_true (by omega)
    clear h4 hs
    go_enter Tryz.func3, Tryz.ntmps3
    go_wp2_with fail
    (with_reducible refine (works8_any _ (HT.out.call HS.out.low)).mono ?_)
    rintro e w1 ⟨rfl, hb1⟩
    go_wp2_with fail
    go_ret
    exact ⟨rfl, below_next HS.out.low hb1⟩
  have hd : decide ((4096 : Int) < (s.size : Int)) = false := decide_eq_false (by omega)
  clear h4 hs
  go_enter Tryz.func3, Tryz.ntmps3
  go_wp2_with fail
  (with_reducible refine HL.out.mono ?_)
  rintro e w0 ⟨rfl, hb0⟩
  have HS0 := Lib.hid ((HS.out.alloc (.cells #[.int .u8 (k : Int), .int .u64 (n : Int), .string t, .slice A l c] 25)).call hb0)
  clear hb0 HS HL hd
  cases big with
  | true =>
    go_wp2_with fail
    (with_reducible refine (works8_any _ (HT.out.call HS0.out.low)).mono ?_)
    rintro e w1 ⟨rfl, hb1⟩
    go_wp2_with fail
    go_ret
    exact ⟨rfl, below_next HS0.out.low hb1⟩
  | false =>
    have HP := Lib.hid (fun w => putcond_any s w (by have := HSZ.out; omega))
    have HQ := Lib.hid (fun w => xputcond_any s w (by have := HSZ.out; omega))
    have HBK := Lib.hid (show bulk (condV s).1 ≤ 1048600 by have := cond_bulk s; have := HSZ.out; omega)
    obtain ⟨er, her⟩ : ∃ er, (condV s).2 = er := ⟨_, rfl⟩
    rw [her] at HP HQ
    clear her
    go_wp2_with fail
    (with_reducible refine (HP.out _).mono ?_)
    rintro e w1 ⟨pk, pn, pt, pks, pA, pl, pc, hpv, hpk, hpn, rfl, hpN, hb1⟩
    have HS1 := Lib.hid ((HS0.out.call hb1).alloc (.cells #[.int .u8 (pk : Int), .int .u64 (pn : Int), .string pt, .slice pA pl pc] 25))
    have H5 := Lib.hid (Box.new w1 (.int .u8 (pk : Int)) (.int .u64 (pn : Int)) (.string pt) (.slice pA pl pc))
    have HPV := Lib.hid hpv
    have HPK := Lib.hid hpk
    have HPN := Lib.hid hpn
    have HK5 := Lib.hid (hpN.kd.alloc (.cells #[.int .u8 (pk : Int), .int .u64 (pn : Int), .string pt, .slice pA pl pc] 25))
    clear hb1 hpv hpk hpn hpN HS0
    go_wp2_with fail
    (with_reducible refine (HQ.out _).mono ?_)
    rintro e w2 ⟨qk, qn, qt, qks, yA, yl, yc, hqv, _, _, rfl, hqN, hb2⟩
    rw [HPV.out] at hqv
    injection hqv with q1 q2 q3 q4
    subst q1; subst q2; subst q3; subst q4
    have hnx := below_next hb2 ((Below.refl _ _).alloc (Nat.le_refl _) (.cells #[.int .u8 (pk : Int), .int .u64 (pn : Int), .string pt, .slice yA yl yc] 25))
    have HS2 := Lib.hid (HS1.out.call hnx)
    have H52 := Lib.hid (H5.out.call hnx)
    have HK52 := Lib.hid (HK5.out.call hnx)
    have H7 := Lib.hid (Box.new w2 (.int .u8 (pk : Int)) (.int .u64 (pn : Int)) (.string pt) (.slice yA yl yc))
    have HK7 := Lib.hid (hqN.kd.alloc (.cells #[.int .u8 (pk : Int), .int .u64 (pn : Int), .string pt, .slice yA yl yc] 25))
    obtain ⟨x0, x1, x2, x3, _⟩ := (HS1.out.call hb2).b3.all
    have hxl := (HS1.out.call hb2).b3.lt
    have hxne : ¬ w.heap.size = w2.heap.size := by omega
    clear hb2 hnx hqN HS1 H5 HK5 HP HQ
    go_wp2_with fail
    (with_reducible refine (getcond_any k n t ks A l c _ (by have := HN.out; simp only [bulk] at this; omega) (by have := HN.out; simp only [bulk] at this; omega) HNN.out HS2.out.kd (HT.out.call HS2.out.low)).mono ?_)
    have HXG := Lib.hid (fun w => xgetcond_any k n t ks A l c w HN.out HNN.out)
    cases hg : condR (.mk k n t ks) with
    | none =>
      rw [hg] at HXG
      clear hg
      rintro e w3 ⟨rfl, hb3⟩
      have HS3 := Lib.hid (HS2.out.call hb3)
      have H53 := Lib.hid (H52.out.call hb3)
      have HK53 := Lib.hid (HK52.out.call hb3)
      have H73 := Lib.hid (H7.out.call hb3)
      have HK73 := Lib.hid (HK7.out.call hb3)
      clear hb3 HS2 H52 HK52 H7 HK7 x0 x1 x2 x3 hxl hxne
      obtain ⟨x0, x1, x2, x3, _⟩ := HS3.out.b3.all
      go_wp2_with fail
      (with_reducible refine (HXG.out _ HS3.out.kd).mono ?_)
      rintro e w4 ⟨rfl, hb4⟩
      have HS4 := Lib.hid (HS3.out.call hb4)
      have HK54 := Lib.hid (HK53.out.call hb4)
      have HK74 := Lib.hid (HK73.out.call hb4)
      obtain ⟨y0, y1, y2, y3, _⟩ := (H53.out.call hb4).all
      obtain ⟨z0, z1, z2, z3, _⟩ := (H73.out.call hb4).all
      clear hb4 HS3 HK53 HK73 H53 H73 x0 x1 x2 x3 HXG
      go_wp2_with fail
      (with_reducible refine (xsame_own (by have := HBK.out; rw [HPV.out] at this; simp only [bulk] at this; omega) HPK.out HPN.out HK54.out HK74.out).mono ?_)
      rintro e w5 ⟨rfl, hb5⟩
      have HS5 := Lib.hid (HS4.out.call hb5)
      clear hb5 y0 y1 y2 y3 z0 z1 z2 z3
      go_wp2_with fail
      (with_reducible refine (works8_any _ (HT.out.call HS5.out.low)).mono ?_)
      rintro e w6 ⟨rfl, hb6⟩
      go_wp2_with fail
      go_ret
      exact ⟨rfl, below_next HS5.out.low hb6⟩
    | some sc =>
      rw [hg] at HXG
      clear hg
      rintro e w3 ⟨rfl, hb3⟩
      have HS3 := Lib.hid (HS2.out.call hb3)
      have H53 := Lib.hid (H52.out.call hb3)
      have HK53 := Lib.hid (HK52.out.call hb3)
      have H73 := Lib.hid (H7.out.call hb3)
      have HK73 := Lib.hid (HK7.out.call hb3)
      clear hb3 HS2 H52 HK52 H7 HK7 x0 x1 x2 x3 hxl hxne
      obtain ⟨x0, x1, x2, x3, _⟩ := HS3.out.b3.all
      go_wp2_with fail
      (with_reducible refine (HXG.out _ HS3.out.kd).mono ?_)
      rintro e w4 ⟨rfl, hb4⟩
      have HS4 := Lib.hid (HS3.out.call hb4)
      have HK54 := Lib.hid (HK53.out.call hb4)
      have HK74 := Lib.hid (HK73.out.call hb4)
      obtain ⟨y0, y1, y2, y3, _⟩ := (H53.out.call hb4).all
      obtain ⟨z0, z1, z2, z3, _⟩ := (H73.out.call hb4).all
      clear hb4 HS3 HK53 HK73 H53 H73 x0 x1 x2 x3 HXG
      go_wp2_with fail
      (with_reducible refine (xsame_own (by have := HBK.out; rw [HPV.out] at this; simp only [bulk] at this; omega) HPK.out HPN.out HK54.out HK74.out).mono ?_)
      rintro e w5 ⟨rfl, hb5⟩
      have HS5 := Lib.hid (HS4.out.call hb5)
      clear hb5 y0 y1 y2 y3 z0 z1 z2 z3
      go_wp2_with fail
      (with_reducible refine (works8_any _ (HT.out.call HS5.out.low)).mono ?_)
      rintro e w6 ⟨rfl, hb6⟩
      go_wp2_with fail
      go_ret
      exact ⟨rfl, below_next HS5.out.low hb6⟩
end Go.Proofs.YtobnbgbijdhjjaaGreatDoor.outcomeConds

namespace Go.Proofs.YtobnbgbijdhjjaaGreatDoor.outcomeConds
open Go.ChangeShapes Go.WideShapes Go.ChangeAt Go.RowKit Go.Proofs.YtobnbgbijdhjjaaGreatDoor.Utf Go.Proofs.YtobnbgbijdhjjaaGreatDoor.Val Go.Proofs.YtobnbgbijdhjjaaGreatDoor.Fl Go.Proofs.YtobnbgbijdhjjaaGreatDoor.Oc

set_option maxRecDepth 100000 in
theorem contract (H : Type) (enc : TypeId × Value → H) (W : World) (base : Nat) (args : Array Value) (ds gs : List (DataW H)) (before : List MemPlace)
    (hval0 : ∀ (j : Nat) t v, Tryz.f3.params[j]? = some t → args[j]? = some v → Value.okWide Tryz.prog W .any base t v)
    (hW : DataW.Whole enc Tryz.prog Tryz.f3.params.toList Rows.outcomeCondsSpec.vars false W args.toList ds gs before) (hk : Rows.uptoSmall H (ds ++ gs) = true) (hL : laidMetH Tryz.prog laid W) :
    Calls Tryz.prog 3 args W fun e W' => ∃ v, e = .returned v ∧ Rows.outcomeCondsSpec.post enc Tryz.prog Tryz.f3 false true false false W args v W' := by
  have hval : ∀ (j : Nat) t v, Tryz.f3.params[j]? = some t → args[j]? = some v → Value.okWide Tryz.prog W .any base t v := hval0
  have hW' := hW
  obtain ⟨p, q, hA0, hV, rfl, hfz, hnd⟩ := hW
  have hA : DataW.TrodAll enc Tryz.prog W 0 (fun _ => true) true Tryz.f3.params.toList args.toList ds p := hA0
  rw [Tryz.params3] at hA hval
  obtain ⟨v0, vs0, d0, ds0, p0, q0, hargs, rfl, rfl, h0, r0⟩ := trodAll_cons hA
  obtain ⟨v1, vs1, d1, ds1, p1, q1, rfl, rfl, rfl, h1, r1⟩ := trodAll_cons r0
  obtain ⟨rfl, rfl, rfl⟩ := trodAll_nil r1
  obtain rfl : args = #[v0, v1] := by cases args; simp_all
  obtain ⟨rfl, rfl⟩ := trodVars_none hV
  have hk := of_decide_eq_true hk
  simp only [List.append_nil, Rows.uptoBulkAll] at hk
  have hT := of_laid hL
  clear hA0 hval0
  simp only [List.append_nil] at hW'
  obtain ⟨s0, rfl, rfl, rfl, w0⟩ := Go.ChangeMaps.open_string under9 (hval 0 9 v0 rfl rfl) h0
  have hlt1 : ∀ x ∈ p1, x.block < W.heap.size := fun x hx => hW'.lt x (by simp [hx])
  obtain ⟨k1, n1, t1, ks1, A1, l1, c1, rfl, hk1, hn1, _, hK1, hB1⟩ := open_value (hval 1 25 v1 rfl rfl) h1
  refine (walk s0 k1 n1 t1 ks1 A1 l1 c1 W hT (by have hh := hk; simp only [Rows.uptoBulk] at hh; simp at hh; omega) (by omega) hk1 hn1 hK1).mono fun e W' ⟨he, hb⟩ => ?_
  subst he
  exact ⟨_, rfl, _, _, _, [], _, [], hW', trodAll_mk1 (shut_bool Tryz.underlying4 _), trodAll_cons_mk (Go.ChangeMaps.shut_string under9 w0) (trodAll_cons_mk (Below.trod laidOut (by kernel_rfl) (of_decide_eq_true (by kernel_rfl)) h1 hb hlt1) trodAll_mk0), rfl, hb.frame _, fun h => by cases h⟩

theorem laid_met (os : Os) : laidMet Tryz.prog laid ((World.doorLaid Tryz.prog 400 os).forCall (fun _ _ => 0) ⟨#[], #[.string ⟨#[]⟩, .agg #[.int .u8 0, .int .u64 0, .string ⟨#[]⟩, .slice none 0 0]], []⟩).memory :=
  laidMet_of_run' 8 (by kernel_rfl) (by kernel_rfl)
theorem reads (os : Os) {H : Type} (enc : TypeId × Value → H) : ∃ places, DataW.whole enc Tryz.prog ((World.doorLaid Tryz.prog 400 os).forCall (fun _ _ => 0) ⟨#[], #[.string ⟨#[]⟩, .agg #[.int .u8 0, .int .u64 0, .string ⟨#[]⟩, .slice none 0 0]], []⟩).memory Tryz.f3.params.toList Rows.outcomeCondsSpec.vars false #[.string ⟨#[]⟩, .agg #[.int .u8 0, .int .u64 0, .string ⟨#[]⟩, .slice none 0 0]].toList 8 = some ([.lit (.string []), .agg [.lit (.int .u8 0), .lit (.int .u64 0), .lit (.string []), .nil]], [], places) :=
  ⟨[], by kernel_rfl⟩

set_option maxRecDepth 100000 in
theorem lifted (os : Os) (started : os.Started) (H : Type) (enc : TypeId × Value → H) (F : Stop.Interp) :
    ReturnsInHanded {} Tryz.checked os 3 .any ((Rows.OpenSpec.upto Rows.outcomeCondsSpec).preRow enc Tryz.prog Tryz.f3 Rows.outcomeCondsUptoRow.domain false Rows.outcomeCondsUptoRow.laid) (((Rows.OpenSpec.upto Rows.outcomeCondsSpec).at F).post enc Tryz.prog Tryz.f3 false true false false) := by
  obtain ⟨places, hx⟩ := reads os enc
  refine returnsInHanded_of_row (C := Tryz.checked) (s := Rows.OpenSpec.upto Rows.outcomeCondsSpec) own started (by kernel_rfl) Tryz.func3
    (witness_row_at (enc := enc) (C := Tryz.checked) false (World.doorLaid Tryz.prog 400 os) #[.string ⟨#[]⟩, .agg #[.int .u8 0, .int .u64 0, .string ⟨#[]⟩, .slice none 0 0]] rfl (by kernel_rfl) (by kernel_rfl) (by kernel_rfl)
      (OpenSpec.preRow_of_cond 8 hx (by kernel_rfl) (fun k hk => by cases hk; kernel_rfl) (by kernel_rfl) (laid_met os))) ?_
  intro W base args ds gs before hval hW _ hcond _ hL _ _
  exact contract H enc W base args ds gs before hval hW (hcond _ rfl) hL

theorem said : Rows.OutcomeCondsUptoSaid :=
  OpenClaim.holds_of_cond 3 Tryz.f3 rfl rfl rfl rfl rfl rfl rfl ⟨rfl, rfl, rfl, rfl, rfl⟩ rfl rfl rfl rfl rfl (by kernel_rfl) Tryz.func3 (by kernel_rfl)
    (of_decide_eq_true (by kernel_rfl)) (by unfold Func.isWrapper; first | (rw [if_pos (by decide +kernel)]; kernel_rfl) | (rw [if_neg (by decide +kernel)]; exact ⟨rfl, rfl⟩))
    (fun os started H enc _ F => by rw [OpenClaim.pre_eq_preRow]; exact lifted os started H enc F)

/-- The statement: the tied card, where what is read is of bulk at most 2^20. -/
theorem proved : Rows.OutcomeCondsUptoCardSaid :=
  Claim7.holds_tied_plain_at .later [] [.data] true (true, "a117148d33e44fef6b803adadf7a303601a40165514525f258a66aa55a2ec0fc") false
    said (fun _ h => by cases h) (by kernel_rfl) (fun _ h => by cases h) outcomeCondsUpto_row_tie rfl ⟨rfl, rfl⟩ (by kernel_rfl) rfl
    (fun f fn hf hfn => by
      obtain rfl : f = 3 := Option.some.inj ((show Tryz.prog.funcNamed "bellwether/bellwetherlaw08.OutcomeConds" = some 3 by kernel_rfl).symm.trans hf) |>.symm
      obtain rfl : fn = Tryz.f3 := (Option.some.inj (Tryz.func3.symm.trans hfn)).symm
      exact ⟨by kernel_rfl, fun j t ht => by
        rw [Tryz.params3] at ht
        have hm : t ∈ [9, 25] := by simpa using Array.mem_of_getElem? ht
        have hall : ([9, 25].all fun u => !Tryz.prog.wantsStandIn u) = true := by kernel_rfl
        exact (show Tryz.prog.wantsStandIn t = false by simpa using List.all_eq_true.1 hall t hm)⟩)
    (by kernel_rfl)
end Go.Proofs.YtobnbgbijdhjjaaGreatDoor.outcomeConds
