/-
  The statement SerialOrder: THE THEOREM OF STAGE 3: the law returns true for any numbers: of numbers that stand less than half of all apart Less is an order, and all is as well, if each goes so many steps on. No condition.
-/
import Derived.Test.YthbabaeeaniicaaSer
import Derived.ProofKit
import Derived.OpenShut
namespace Go.Proofs.Ythbabaeeaniicaa.serialOrder
open Go.ChangeShapes Go.WideShapes Go.ChangeAt Go.RowKit Go.Proofs.Ythbabaeeaniicaa.Ser

theorem tmb (a : Int) (h : U a) : 0 ≤ a.tmod 2147483648 ∧ a.tmod 2147483648 < 2147483648 := by
  unfold U at h
  rw [Int.tmod_eq_emod_of_nonneg h.1]
  omega

theorem dd (x a b : Int) (ha : 0 ≤ a ∧ a < 2147483648) (hb : 0 ≤ b ∧ b < 2147483648) : ls (ad x a) (ad x b) = decide (a < b) := by
  unfold ls d ad
  exact Bool.eq_iff_iff.2 (by simp <;> omega)

theorem moved (p q n : Int) : d (ad p n) (ad q n) = d p q := by unfold d ad; omega

theorem walk (x a b c n : Int) (_ : U x) (ha : U a) (hb : U b) (hc : U c) (_ : I n) (w : World) :
    Calls Try.prog 6 #[.int .u32 x, .int .u32 a, .int .u32 b, .int .u32 c, .int .i64 n] w fun e w' => e = .returned (.bool true) ∧ w = w' := by
  have qa := tmb a ha
  have qb := tmb b hb
  have qc := tmb c hc
  obtain ⟨A, hA⟩ : ∃ t, a.tmod 2147483648 = t := ⟨_, rfl⟩
  obtain ⟨B, hB⟩ : ∃ t, b.tmod 2147483648 = t := ⟨_, rfl⟩
  obtain ⟨C, hC⟩ : ∃ t, c.tmod 2147483648 = t := ⟨_, rfl⟩
  rw [hA] at qa
  rw [hB] at qb
  rw [hC] at qc
  have e1 := dd x A B qa qb
  have e2 := dd x B C qb qc
  have e3 := dd x A C qa qc
  have m0 := moved (ad x A) (ad x B) n
  have m1 : ls (ad (ad x A) n) (ad (ad x B) n) = ls (ad x A) (ad x B) := by unfold ls; rw [m0]
  have m2 : sp (ad (ad x A) n) (ad (ad x B) n) = sp (ad x A) (ad x B) := by unfold sp; rw [m0]
  have m3 : sq (ad (ad x A) n) (ad (ad x B) n) = sq (ad x A) (ad x B) := by unfold sq; rw [m0]
  clear m0
  have key : (A < B ∧ B < C ∧ A < C) ∨ (A < B ∧ ¬ B < C) ∨ ¬ A < B := by omega
  obtain ⟨t1, t2, t3⟩ | ⟨t1, t2⟩ | t1 := key
  · rw [decide_eq_true t1] at e1
    rw [decide_eq_true t2] at e2
    rw [decide_eq_true t3] at e3
    rw [e1] at m1
    go_enter Try.func6, Try.ntmps6
    go_wp2_with (first
      | (go_at_call 11; refine (less_any _ _ _).mono ?_; rintro e w' ⟨rfl, rfl⟩)
      | (go_at_call 13; refine (add_any _ _ _).mono ?_; rintro e w' ⟨rfl, rfl⟩)
      | (go_at_call 9; refine (span_any _ _ _).mono ?_; rintro e w' ⟨rfl, rfl⟩)
      | (go_at_call 15; refine (in_any _ _ _ _ (by unfold I at *; omega)).mono ?_; rintro e w' ⟨rfl, rfl⟩)
      | (go_at_call 17; refine (works_any _).mono ?_; rintro e w' ⟨rfl, rfl⟩))
    go_ret
    exact ⟨rfl, rfl⟩
  · rw [decide_eq_true t1] at e1
    rw [decide_eq_false t2] at e2
    rw [e1] at m1
    clear e3
    go_enter Try.func6, Try.ntmps6
    go_wp2_with (first
      | (go_at_call 11; refine (less_any _ _ _).mono ?_; rintro e w' ⟨rfl, rfl⟩)
      | (go_at_call 13; refine (add_any _ _ _).mono ?_; rintro e w' ⟨rfl, rfl⟩)
      | (go_at_call 9; refine (span_any _ _ _).mono ?_; rintro e w' ⟨rfl, rfl⟩)
      | (go_at_call 15; refine (in_any _ _ _ _ (by unfold I at *; omega)).mono ?_; rintro e w' ⟨rfl, rfl⟩)
      | (go_at_call 17; refine (works_any _).mono ?_; rintro e w' ⟨rfl, rfl⟩))
    go_ret
    exact ⟨rfl, rfl⟩
  · rw [decide_eq_false t1] at e1
    rw [e1] at m1
    clear e2 e3
    go_enter Try.func6, Try.ntmps6
    go_wp2_with (first
      | (go_at_call 11; refine (less_any _ _ _).mono ?_; rintro e w' ⟨rfl, rfl⟩)
      | (go_at_call 13; refine (add_any _ _ _).mono ?_; rintro e w' ⟨rfl, rfl⟩)
      | (go_at_call 9; refine (span_any _ _ _).mono ?_; rintro e w' ⟨rfl, rfl⟩)
      | (go_at_call 15; refine (in_any _ _ _ _ (by unfold I at *; omega)).mono ?_; rintro e w' ⟨rfl, rfl⟩)
      | (go_at_call 17; refine (works_any _).mono ?_; rintro e w' ⟨rfl, rfl⟩))
    go_ret
    exact ⟨rfl, rfl⟩

theorem own : ownKnob Try.prog.godebug = none := by kernel_rfl

set_option maxRecDepth 100000 in
theorem lifted (os : Os) (started : os.Started) (H : Type) (enc : TypeId × Value → H) :
    ReturnsInHanded {} Try.checked os 6 .any (Rows.serialOrderSpec.pre6 enc Try.prog Try.f6 Rows.serialOrderRow.domain false) (Rows.serialOrderSpec.post enc Try.prog Try.f6 false true false false) := by
  refine returnsInHanded_of_change (C := Try.checked) own started (by kernel_rfl) Try.func6
    (ChangeSpec.witness6 (enc := enc) (C := Try.checked) false ⟨#[], #[.int .u32 0, .int .u32 0, .int .u32 0, .int .u32 0, .int .i64 0], []⟩ 8 (by kernel_rfl) (by kernel_rfl) (by kernel_rfl) (by kernel_rfl)) ?_
  intro W base args ds gs before hval0 hW hcnd _
  have hval : ∀ (j : Nat) t v, Try.f6.params[j]? = some t → args[j]? = some v → Value.okWide Try.prog W .any base t v := hval0
  have hW' := hW
  obtain ⟨p, q, hA0, hV, rfl, hfz, hnd⟩ := hW
  have hA : DataW.TrodAll enc Try.prog W 0 (fun _ => true) true Try.f6.params.toList args.toList ds p := hA0
  rw [Try.params6] at hA hval
  obtain ⟨v0, vs0, d0, ds0, p0, q0, hargs, rfl, rfl, h0, r0⟩ := trodAll_cons hA
  obtain ⟨v1, vs1, d1, ds1, p1, q1, rfl, rfl, rfl, h1, r1⟩ := trodAll_cons r0
  obtain ⟨v2, vs2, d2, ds2, p2, q2, rfl, rfl, rfl, h2, r2⟩ := trodAll_cons r1
  obtain ⟨v3, vs3, d3, ds3, p3, q3, rfl, rfl, rfl, h3, r3⟩ := trodAll_cons r2
  obtain ⟨v4, vs4, d4, ds4, p4, q4, rfl, rfl, rfl, h4, r4⟩ := trodAll_cons r3
  obtain ⟨rfl, rfl, rfl⟩ := trodAll_nil r4
  obtain rfl : args = #[v0, v1, v2, v3, v4] := by cases args; simp_all
  obtain ⟨rfl, rfl⟩ := trodVars_none hV
  obtain ⟨a0, rfl, rfl, rfl, w0⟩ := open_int Try.underlying22 (hval 0 22 v0 rfl rfl) h0
  obtain ⟨a1, rfl, rfl, rfl, w1⟩ := open_int Try.underlying22 (hval 1 22 v1 rfl rfl) h1
  obtain ⟨a2, rfl, rfl, rfl, w2⟩ := open_int Try.underlying22 (hval 2 22 v2 rfl rfl) h2
  obtain ⟨a3, rfl, rfl, rfl, w3⟩ := open_int Try.underlying22 (hval 3 22 v3 rfl rfl) h3
  obtain ⟨a4, rfl, rfl, rfl, w4⟩ := open_int Try.underlying3 (hval 4 3 v4 rfl rfl) h4
  clear hA0 hval0
  simp only [List.append_nil] at hW'
  have b0 : U a0 := by have := w0; simp [Lit.wf, IntKind.min, IntKind.max, IntKind.signed, IntKind.bits] at this; unfold U; omega
  have b1 : U a1 := by have := w1; simp [Lit.wf, IntKind.min, IntKind.max, IntKind.signed, IntKind.bits] at this; unfold U; omega
  have b2 : U a2 := by have := w2; simp [Lit.wf, IntKind.min, IntKind.max, IntKind.signed, IntKind.bits] at this; unfold U; omega
  have b3 : U a3 := by have := w3; simp [Lit.wf, IntKind.min, IntKind.max, IntKind.signed, IntKind.bits] at this; unfold U; omega
  have b4 : I a4 := by have := w4; simp [Lit.wf, IntKind.min, IntKind.max, IntKind.signed, IntKind.bits] at this; unfold I; omega
  refine (walk a0 a1 a2 a3 a4 b0 b1 b2 b3 b4 W).mono fun e W' ⟨he, hg⟩ => ?_
  subst he
  subst hg
  exact ⟨_, rfl, _, _, _, [], [], [], hW', trodAll_mk1 (shut_bool Try.underlying4 _), trodAll_cons_mk (shut_int Try.underlying22 w0) (trodAll_cons_mk (shut_int Try.underlying22 w1) (trodAll_cons_mk (shut_int Try.underlying22 w2) (trodAll_cons_mk (shut_int Try.underlying22 w3) (trodAll_cons_mk (shut_int Try.underlying3 w4) trodAll_mk0)))), rfl, (Below.refl _ _).frame _, fun h => by cases h⟩

theorem over : Rows.serialOrderRow.holds Try.pinned (OpenSpec.ofChange Rows.serialOrderSpec) :=
  OpenClaim.holds_of_wide 6 Try.f6 rfl rfl rfl rfl rfl rfl rfl ⟨rfl, rfl, rfl, rfl, rfl⟩ rfl rfl rfl rfl rfl (by kernel_rfl) Try.func6 (by kernel_rfl)
    (of_decide_eq_true (by kernel_rfl)) (by unfold Func.isWrapper; first | (rw [if_pos (by decide +kernel)]; kernel_rfl) | (rw [if_neg (by decide +kernel)]; exact ⟨rfl, rfl⟩))
    (fun os started H enc _ => lifted os started H enc)

/-- The statement. -/
theorem proved : Rows.SerialOrderSaid :=
  over
end Go.Proofs.Ythbabaeeaniicaa.serialOrder
