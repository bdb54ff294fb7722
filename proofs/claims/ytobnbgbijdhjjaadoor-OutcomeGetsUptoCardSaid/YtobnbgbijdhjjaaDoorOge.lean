/-
  The walk of the statement OutcomeGets: Get tells the outcome of any value, or that there is none; it stays. Conditions: the table utf.shapes lies as the program's text lays it; values of bulk at most 2^20.
  The statement OutcomeGets: Get tells the outcome of any value, or that there is none; it stays. Conditions: what is read is of bulk at most 2^20; as the card has it, the table utf.shapes lies as the program's text lays it.
-/
import Derived.Test.YtobnbgbijdhjjaaDoorOxh
import Derived.Test.YtobnbgbijdhjjaaDoorOci
import Derived.Test.YtobnbgbijdhjjaaDoorLrg
import Derived.Test.YtobnbgbijdhjjaaDoorOpo
import Derived.Deep.DeepHandedRow
namespace Go.Proofs.YtobnbgbijdhjjaaDoor.Oc
set_option maxRecDepth 100000
open Go.RowKit Go.Proofs.YtobnbgbijdhjjaaDoor.Utf Go.Proofs.YtobnbgbijdhjjaaDoor.Val Go.Proofs.YtobnbgbijdhjjaaDoor.Fl V
theorem xsame_self' {k n : Nat} {t : ByteArray} {ks : List V} {A A' : Option Addr} {l l' c c' : Nat} {w : World} (hN : bulkL ks ≤ 1073741824) (hk : k < 256) (hn : n < 18446744073709551616) (h : Kd w ks A l c) (h' : Kd w ks A' l' c') :
    Calls Tryd.prog 19 #[.agg #[.int .u8 (k : Int), .int .u64 (n : Int), .string t, .slice A l c], .agg #[.int .u8 (k : Int), .int .u64 (n : Int), .string t, .slice A' l' c']] w (GivesB true w) := by
  have := xsame_any (bulkL ks) k n t ks A l c k n t ks A' l' c' w (Nat.le_refl _) (by omega) hk hk hn hn h h'
  rwa [same_self] at this
end Go.Proofs.YtobnbgbijdhjjaaDoor.Oc
namespace Go.Proofs.YtobnbgbijdhjjaaDoor.outcomeGets
set_option maxRecDepth 100000
open Go.RowKit Go.Proofs.YtobnbgbijdhjjaaDoor.Utf Go.Proofs.YtobnbgbijdhjjaaDoor.Val Go.Proofs.YtobnbgbijdhjjaaDoor.Fl Go.Proofs.YtobnbgbijdhjjaaDoor.Oc V

/-- What is kept: the value's box and its kids, the copy's box and its kids. -/
structure SK (w wi : World) (k n : Nat) (t : ByteArray) (ks : List V) (A : Option Addr) (l c : Nat) (g3 : Nat) (A2 : Option Addr) (l2 c2 : Nat) : Prop where
  b1 : Box wi w.heap.size (.int .u8 (k : Int)) (.int .u64 (n : Int)) (.string t) (.slice A l c)
  b3 : Box wi g3 (.int .u8 (k : Int)) (.int .u64 (n : Int)) (.string t) (.slice A2 l2 c2)
  kd : Kd wi ks A l c
  kd3 : Kd wi ks A2 l2 c2
  low : Below w.heap.size w wi
section
variable {w wi w' : World} {k n : Nat} {t : ByteArray} {ks : List V} {A : Option Addr} {l c : Nat} {g3 : Nat} {A2 : Option Addr} {l2 c2 : Nat}
theorem SK.call (h : SK w wi k n t ks A l c g3 A2 l2 c2) (hb : Below wi.heap.size wi w') : SK w w' k n t ks A l c g3 A2 l2 c2 := ⟨h.b1.call hb, h.b3.call hb, h.kd.call hb, h.kd3.call hb, below_next h.low hb⟩
theorem SK.alloc (h : SK w wi k n t ks A l c g3 A2 l2 c2) (o : Obj) : SK w (wi.alloc o) k n t ks A l c g3 A2 l2 c2 := h.call ((Below.refl _ _).alloc (Nat.le_refl _) _)
end

set_option maxHeartbeats 4000000 in
theorem walk (k n : Nat) (t : ByteArray) (ks : List V) (A : Option Addr) (l c : Nat) (w : World) (hTab : Tab w) (hN : bulk (.mk k n t ks) ≤ 1048576) (hk : k < 256) (hn : n < 18446744073709551616) (hK : Kd w ks A l c) :
    Calls Tryd.prog 5 #[.agg #[.int .u8 (k : Int), .int .u64 (n : Int), .string t, .slice A l c]] w (GivesB true w) := by
  have hb0 : Below w.heap.size w (w.alloc (.cells #[.int .u8 (k : Int), .int .u64 (n : Int), .string t, .slice A l c] 25)) := (Below.refl _ _).alloc (Nat.le_refl _) _
  have HX := Lib.hid (Box.new w (.int .u8 (k : Int)) (.int .u64 (n : Int)) (.string t) (.slice A l c))
  have HB := Lib.hid hb0
  have HT := Lib.hid hTab
  have HN := Lib.hid hN
  have HK := Lib.hid hk
  have HNN := Lib.hid hn
  have HKD := Lib.hid (hK.call hb0)
  have hll := large_any [.mk k n t ks] _ 1 1 _ (by simp only [bulkL]; omega) (kid1 (t := t) hk hn (hK.call hb0))
  simp only [World.size_alloc] at hll
  obtain ⟨big, hbig⟩ : ∃ q, decide (8192 < bigL [.mk k n t ks]) = q := ⟨_, rfl⟩
  rw [hbig] at hll
  have HL := Lib.hid hll
  clear hb0 hTab hN hk hn hK hll hbig
  go_enter Tryd.func5, Tryd.ntmps5
  go_wp2_with fail
  (with_reducible refine HL.out.mono ?_)
  rintro e w0 ⟨rfl, hb0⟩
  have hnx := below_next ((Below.refl _ _).alloc (Nat.le_refl _) (.cells #[.int .u8 (k : Int), .int .u64 (n : Int), .string t, .slice A l c] 25)) hb0
  have HX0 := Lib.hid (HX.out.call hnx)
  have HB0 := Lib.hid (below_next HB.out hnx)
  have HKD0 := Lib.hid (HKD.out.call hnx)
  clear hb0 hnx HX HB HKD HL
  cases big with
  | true =>
    go_wp2_with fail
    (with_reducible refine (works8_any _ (HT.out.call HB0.out)).mono ?_)
    rintro e w1 ⟨rfl, hb1⟩
    go_wp2_with fail
    go_ret
    exact ⟨rfl, below_next HB0.out hb1⟩
  | false =>
    obtain ⟨x0, x1, x2, x3, _⟩ := HX0.out.all
    go_wp2_with fail
    (with_reducible refine (xcopy_any k n t ks A l c _ (by have := HN.out; simp only [bulk] at this; omega) HKD0.out).mono ?_)
    rintro e w1 ⟨A2, l2, c2, rfl, hN2, hb1⟩
    have hS : SK w (w1.alloc (.cells #[.int .u8 (k : Int), .int .u64 (n : Int), .string t, .slice A2 l2 c2] 25)) k n t ks A l c w1.heap.size A2 l2 c2 :=
      ⟨(HX0.out.call hb1).alloc _, Box.new w1 _ _ _ _, (HKD0.out.call hb1).alloc _, hN2.kd.alloc _, (below_next HB0.out hb1).alloc (below_next HB0.out hb1).size _⟩
    have HS := Lib.hid hS
    clear hS hb1 hN2 HX0 HB0 HKD0 x0 x1 x2 x3
    go_wp2_with fail
    (with_reducible refine (oget_any k n t ks A2 l2 c2 _ (by have := HN.out; simp only [bulk] at this; omega) (by have := HN.out; simp only [bulk] at this; omega) HNN.out HS.out.kd3 (HT.out.call HS.out.low)).mono ?_)
    have HXG := Lib.hid (fun w => xoget_any k n t ks A l c w HN.out HNN.out)
    cases hg : getR (.mk k n t ks) with
    | none =>
      rw [hg] at HXG
      clear hg
      rintro e w2 ⟨rfl, hb2⟩
      have HS2 := Lib.hid ((HS.out.call hb2).alloc (.cells #[.int .u8 0, .int .u64 0, .int .u64 0, .string ⟨#[]⟩] 52))
      have HO4 := Lib.hid (BxO.new w2 (.int .u8 0) (.int .u64 0) (.int .u64 0) (.string ⟨#[]⟩))
      obtain ⟨x0, x1, x2, x3, _⟩ := (HS.out.call hb2).b1.all
      have hxl := (HS.out.call hb2).b1.lt
      have hxne : ¬ w.heap.size = w2.heap.size := by omega
      clear hb2 HS
      go_wp2_with fail
      (with_reducible refine (HXG.out _ HS2.out.kd).mono ?_)
      rintro e w3 ⟨rfl, hb3⟩
      have HS3 := Lib.hid ((HS2.out.call hb3).alloc (.cells #[.int .u8 0, .int .u64 0, .int .u64 0, .string ⟨#[]⟩] 52))
      obtain ⟨y0, y1, y2, y3, _⟩ := (HO4.out.call hb3).all
      have hyl := (HO4.out.call hb3).lt
      have hyne : ¬ w2.heap.size = w3.heap.size := by omega
      obtain ⟨u0, u1, u2, u3, _⟩ := (HS2.out.call hb3).b1.all
      obtain ⟨v0, v1, v2, v3, _⟩ := (HS2.out.call hb3).b3.all
      have hul := (HS2.out.call hb3).b1.lt
      have hvl := (HS2.out.call hb3).b3.lt
      have hune : ¬ w.heap.size = w3.heap.size := by omega
      have hvne : ¬ w1.heap.size = w3.heap.size := by omega
      clear hb3 HS2 HO4 x0 x1 x2 x3 hxl hxne HXG
      go_wp2_with fail
      (with_reducible refine (xsame_self' (by have := HN.out; simp only [bulk] at this; omega) HK.out HNN.out HS3.out.kd3 HS3.out.kd).mono ?_)
      rintro e w4 ⟨rfl, hb4⟩
      have HS4 := Lib.hid (HS3.out.call hb4)
      clear hb4 y0 y1 y2 y3 u0 u1 u2 u3 v0 v1 v2 v3
      go_wp2_with fail
      (with_reducible refine (works8_any _ (HT.out.call HS4.out.low)).mono ?_)
      rintro e w5 ⟨rfl, hb5⟩
      go_wp2_with fail
      go_ret
      exact ⟨rfl, below_next HS4.out.low hb5⟩
    | some q =>
      rw [hg] at HXG
      clear hg
      obtain ⟨qk, qa, qb, qc⟩ := q
      rintro e w2 ⟨he, hb2⟩
      have he : e = .returned (.tuple #[.agg #[.int .u8 (qk : Int), .int .u64 (qa : Int), .int .u64 (qb : Int), .string qc], .int .i64 0]) := he
      subst he
      have HS2 := Lib.hid ((HS.out.call hb2).alloc (.cells #[.int .u8 (qk : Int), .int .u64 (qa : Int), .int .u64 (qb : Int), .string qc] 52))
      have HO4 := Lib.hid (BxO.new w2 (.int .u8 (qk : Int)) (.int .u64 (qa : Int)) (.int .u64 (qb : Int)) (.string qc))
      obtain ⟨x0, x1, x2, x3, _⟩ := (HS.out.call hb2).b1.all
      have hxl := (HS.out.call hb2).b1.lt
      have hxne : ¬ w.heap.size = w2.heap.size := by omega
      clear hb2 HS
      go_wp2_with fail
      (with_reducible refine (HXG.out _ HS2.out.kd).mono ?_)
      rintro e w3 ⟨he, hb3⟩
      have he : e = .returned (.tuple #[.agg #[.int .u8 (qk : Int), .int .u64 (qa : Int), .int .u64 (qb : Int), .string qc], .int .i64 0]) := he
      subst he
      have HS3 := Lib.hid ((HS2.out.call hb3).alloc (.cells #[.int .u8 (qk : Int), .int .u64 (qa : Int), .int .u64 (qb : Int), .string qc] 52))
      obtain ⟨y0, y1, y2, y3, _⟩ := (HO4.out.call hb3).all
      have hyl := (HO4.out.call hb3).lt
      have hyne : ¬ w2.heap.size = w3.heap.size := by omega
      obtain ⟨u0, u1, u2, u3, _⟩ := (HS2.out.call hb3).b1.all
      obtain ⟨v0, v1, v2, v3, _⟩ := (HS2.out.call hb3).b3.all
      have hul := (HS2.out.call hb3).b1.lt
      have hvl := (HS2.out.call hb3).b3.lt
      have hune : ¬ w.heap.size = w3.heap.size := by omega
      have hvne : ¬ w1.heap.size = w3.heap.size := by omega
      clear hb3 HS2 HO4 x0 x1 x2 x3 hxl hxne HXG
      go_wp2_with fail
      (with_reducible refine (xsame_self' (by have := HN.out; simp only [bulk] at this; omega) HK.out HNN.out HS3.out.kd3 HS3.out.kd).mono ?_)
      rintro e w4 ⟨rfl, hb4⟩
      have HS4 := Lib.hid (HS3.out.call hb4)
      clear hb4 y0 y1 y2 y3 u0 u1 u2 u3 v0 v1 v2 v3
      go_wp2_with fail
      (with_reducible refine (works8_any _ (HT.out.call HS4.out.low)).mono ?_)
      rintro e w5 ⟨rfl, hb5⟩
      go_wp2_with fail
      go_ret
      exact ⟨rfl, below_next HS4.out.low hb5⟩
end Go.Proofs.YtobnbgbijdhjjaaDoor.outcomeGets

namespace Go.Proofs.YtobnbgbijdhjjaaDoor.outcomeGets
open Go.ChangeShapes Go.WideShapes Go.ChangeAt Go.RowKit Go.Proofs.YtobnbgbijdhjjaaDoor.Utf Go.Proofs.YtobnbgbijdhjjaaDoor.Val Go.Proofs.YtobnbgbijdhjjaaDoor.Fl Go.Proofs.YtobnbgbijdhjjaaDoor.Oc

set_option maxRecDepth 100000 in
theorem contract (H : Type) (enc : TypeId × Value → H) (W : World) (base : Nat) (args : Array Value) (ds gs : List (DataW H)) (before : List MemPlace)
    (hval0 : ∀ (j : Nat) t v, Tryd.f5.params[j]? = some t → args[j]? = some v → Value.okWide Tryd.prog W .any base t v)
    (hW : DataW.Whole enc Tryd.prog Tryd.f5.params.toList Rows.outcomeGetsSpec.vars false W args.toList ds gs before) (hk : Rows.uptoSmall H (ds ++ gs) = true) (hL : laidMetH Tryd.prog laid W) :
    Calls Tryd.prog 5 args W fun e W' => ∃ v, e = .returned v ∧ Rows.outcomeGetsSpec.post enc Tryd.prog Tryd.f5 false true false false W args v W' := by
  have hval : ∀ (j : Nat) t v, Tryd.f5.params[j]? = some t → args[j]? = some v → Value.okWide Tryd.prog W .any base t v := hval0
  have hW' := hW
  obtain ⟨p, q, hA0, hV, rfl, hfz, hnd⟩ := hW
  have hA : DataW.TrodAll enc Tryd.prog W 0 (fun _ => true) true Tryd.f5.params.toList args.toList ds p := hA0
  rw [Tryd.params5] at hA hval
  obtain ⟨v0, vs0, d0, ds0, p0, q0, hargs, rfl, rfl, h0, r0⟩ := trodAll_cons hA
  obtain ⟨rfl, rfl, rfl⟩ := trodAll_nil r0
  obtain rfl : args = #[v0] := by cases args; simp_all
  obtain ⟨rfl, rfl⟩ := trodVars_none hV
  have hk := of_decide_eq_true hk
  simp only [List.append_nil, Rows.uptoBulkAll] at hk
  have hT := of_laid hL
  clear hA0 hval0
  simp only [List.append_nil] at hW'
  have hlt0 : ∀ x ∈ p0, x.block < W.heap.size := fun x hx => hW'.lt x (by simp [hx])
  obtain ⟨k0, n0, t0, ks0, A0, l0, c0, rfl, hk0, hn0, _, hK0, hB0⟩ := open_value (hval 0 25 v0 rfl rfl) h0
  refine (walk k0 n0 t0 ks0 A0 l0 c0 W hT (by omega) hk0 hn0 hK0).mono fun e W' ⟨he, hb⟩ => ?_
  subst he
  exact ⟨_, rfl, _, _, _, [], _, [], hW', trodAll_mk1 (shut_bool Tryd.underlying4 _), trodAll_cons_mk (Below.trod laidOut (by kernel_rfl) (of_decide_eq_true (by kernel_rfl)) h0 hb hlt0) trodAll_mk0, rfl, hb.frame _, fun h => by cases h⟩

theorem laid_met (os : Os) : laidMet Tryd.prog laid ((World.doorLaid Tryd.prog 400 os).forCall (fun _ _ => 0) ⟨#[], #[.agg #[.int .u8 0, .int .u64 0, .string ⟨#[]⟩, .slice none 0 0]], []⟩).memory :=
  laidMet_of_run' 8 (by kernel_rfl) (by kernel_rfl)
theorem reads (os : Os) {H : Type} (enc : TypeId × Value → H) : ∃ places, DataW.whole enc Tryd.prog ((World.doorLaid Tryd.prog 400 os).forCall (fun _ _ => 0) ⟨#[], #[.agg #[.int .u8 0, .int .u64 0, .string ⟨#[]⟩, .slice none 0 0]], []⟩).memory Tryd.f5.params.toList Rows.outcomeGetsSpec.vars false #[.agg #[.int .u8 0, .int .u64 0, .string ⟨#[]⟩, .slice none 0 0]].toList 8 = some ([.agg [.lit (.int .u8 0), .lit (.int .u64 0), .lit (.string []), .nil]], [], places) :=
  ⟨[], by kernel_rfl⟩

set_option maxRecDepth 100000 in
theorem lifted (os : Os) (started : os.Started) (H : Type) (enc : TypeId × Value → H) (F : Stop.Interp) :
    ReturnsInHanded {} Tryd.checked os 5 .any ((Rows.OpenSpec.upto Rows.outcomeGetsSpec).preRow enc Tryd.prog Tryd.f5 Rows.outcomeGetsUptoRow.domain false Rows.outcomeGetsUptoRow.laid) (((Rows.OpenSpec.upto Rows.outcomeGetsSpec).at F).post enc Tryd.prog Tryd.f5 false true false false) := by
  obtain ⟨places, hx⟩ := reads os enc
  refine returnsInHanded_of_row (C := Tryd.checked) (s := Rows.OpenSpec.upto Rows.outcomeGetsSpec) own started (by kernel_rfl) Tryd.func5
    (witness_row_at (enc := enc) (C := Tryd.checked) false (World.doorLaid Tryd.prog 400 os) #[.agg #[.int .u8 0, .int .u64 0, .string ⟨#[]⟩, .slice none 0 0]] rfl (by kernel_rfl) (by kernel_rfl) (by kernel_rfl)
      (OpenSpec.preRow_of_cond 8 hx (by kernel_rfl) (fun k hk => by cases hk; kernel_rfl) (by kernel_rfl) (laid_met os))) ?_
  intro W base args ds gs before hval hW _ hcond _ hL _ _
  exact contract H enc W base args ds gs before hval hW (hcond _ rfl) hL

theorem said : Rows.OutcomeGetsUptoSaid :=
  OpenClaim.holds_of_cond 5 Tryd.f5 rfl rfl rfl rfl rfl rfl rfl ⟨rfl, rfl, rfl, rfl, rfl⟩ rfl rfl rfl rfl rfl (by kernel_rfl) Tryd.func5 (by kernel_rfl)
    (of_decide_eq_true (by kernel_rfl)) (by unfold Func.isWrapper; first | (rw [if_pos (by decide +kernel)]; kernel_rfl) | (rw [if_neg (by decide +kernel)]; exact ⟨rfl, rfl⟩))
    (fun os started H enc _ F => by rw [OpenClaim.pre_eq_preRow]; exact lifted os started H enc F)

/-- The statement: the tied card, where what is read is of bulk at most 2^20. -/
theorem proved : Rows.OutcomeGetsUptoCardSaid :=
  Claim7.holds_tied_plain_at .later [] [.data] true (true, "5bb52da14600f71b1a3860526cbaa819fff10eb0c8ab9aedc95be86f9aff6ec3") false
    said (fun _ h => by cases h) (by kernel_rfl) (fun _ h => by cases h) outcomeGetsUpto_row_tie rfl ⟨rfl, rfl⟩ (by kernel_rfl) rfl
    (fun f fn hf hfn => by
      obtain rfl : f = 5 := Option.some.inj ((show Tryd.prog.funcNamed "bellwether/bellwetherlaw08.OutcomeGets" = some 5 by kernel_rfl).symm.trans hf) |>.symm
      obtain rfl : fn = Tryd.f5 := (Option.some.inj (Tryd.func5.symm.trans hfn)).symm
      exact ⟨by kernel_rfl, fun j t ht => by
        rw [Tryd.params5] at ht
        have hm : t ∈ [25] := by simpa using Array.mem_of_getElem? ht
        have hall : ([25].all fun u => !Tryd.prog.wantsStandIn u) = true := by kernel_rfl
        exact (show Tryd.prog.wantsStandIn t = false by simpa using List.all_eq_true.1 hall t hm)⟩)
    (by kernel_rfl)
end Go.Proofs.YtobnbgbijdhjjaaDoor.outcomeGets
