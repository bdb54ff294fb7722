/-
  The statement OctetSigns: the law returns true for every number and every width, and its arguments read as before. No condition.
-/
import Derived.Test.YtaennednmkbihaaWorks
import Derived.ProofKit
import Derived.OpenShut
namespace Go.Proofs.Ytaennednmkbihaa.octetSigns
open Go.ChangeShapes Go.WideShapes Go.ChangeAt Go.RowKit Go.Proofs.Ytaennednmkbihaa.Oct

theorem sg_fits (X m : Nat) (hX : X < 18446744073709551616) (h1 : 1 ≤ m) (h8 : m ≤ 8) :
    (wrap64 (sg (X % 256 ^ m) m : Nat) = wrap64 X) ↔ (m = 8 ∨ (-(2 ^ (8 * m - 1) : Int) ≤ wrap64 X ∧ wrap64 X < 2 ^ (8 * m - 1))) := by
  by_cases h : m = 8
  · subst h
    have e : sg (X % 256 ^ 8) 8 = X := by
      unfold sg
      rw [if_neg (by omega)]
      omega
    rw [e]
    simp
  · rw [sg_val _ m h1 (by omega)]
    unfold wrap64
    obtain rfl | rfl | rfl | rfl | rfl | rfl | rfl : m = 1 ∨ m = 2 ∨ m = 3 ∨ m = 4 ∨ m = 5 ∨ m = 6 ∨ m = 7 := by omega
    all_goals simp
    all_goals split <;> omega

theorem sg_fits' (X m : Nat) (hX : X < 18446744073709551616) (h1 : 1 ≤ m) (h7 : m ≤ 7) :
    (wrap64 (sg (X % 256 ^ m) m : Nat) = wrap64 X) ↔ (wrap64 (-wrap64 (2 ^ (8 * m - 1))) ≤ wrap64 X ∧ wrap64 X < wrap64 (2 ^ (8 * m - 1))) := by
  rw [sg_fits X m hX h1 (by omega)]
  have e : wrap64 (2 ^ (8 * m - 1)) = 2 ^ (8 * m - 1) ∧ wrap64 (-(2 ^ (8 * m - 1))) = -(2 ^ (8 * m - 1)) := by
    obtain rfl | rfl | rfl | rfl | rfl | rfl | rfl : m = 1 ∨ m = 2 ∨ m = 3 ∨ m = 4 ∨ m = 5 ∨ m = 6 ∨ m = 7 := by omega
    all_goals unfold wrap64; constructor <;> decide
  rw [e.1, e.2]
  constructor
  · rintro (h | h)
    · omega
    · exact h
  · exact .inr

theorem own : ownKnob Try.prog.godebug = none := by kernel_rfl

set_option maxHeartbeats 800000 in
theorem walk (X : Nat) (k : Int) (hX : X < 18446744073709551616) (w : World) :
    Calls Try.prog 4 #[.int .u64 X, .int .i64 k] w fun e w' => e = .returned (.bool true) ∧ Below w.heap.size w w' := by
  go_enter Try.func4, Try.ntmps4
  go_wp2_with (first
    | (go_at_call 16; refine (sgn_any X k _).mono ?_; rintro e w' ⟨rfl, rfl⟩)
    | (go_at_call 17; refine (sgr_any X k _ hX).mono ?_; rintro e w' ⟨rfl, rfl⟩))
  go_loopw [5] (fun i wr => ∃ m : Nat, 1 ≤ m ∧ m ≤ 9 ∧ i = .int .i64 m ∧ Below w.heap.size w wr) (fun i _ => 9 - (intOf i).toNat)
  case atStart => exact ⟨1, by omega, by omega, rfl, Below.refl _ _⟩
  case round =>
    obtain ⟨m, h1, h9, rfl, hb⟩ := hrel
    by_cases h8 : m ≤ 8
    · have HF : Hid (m ≤ 7 → ((wrap64 (sg (X % 256 ^ m) m : Nat) = wrap64 X) ↔ (wrap64 (-wrap64 (2 ^ (8 * m - 1))) ≤ wrap64 X ∧ wrap64 X < wrap64 (2 ^ (8 * m - 1))))) := Lib.hid (sg_fits' X m hX h1)
      have H8 : Hid (m = 8 → wrap64 (sg (X % 256 ^ m) m : Nat) = wrap64 X) := Lib.hid fun h => (sg_fits X m hX h1 h8).2 (.inl h)
      have hwd : wd (m : Int) = m := by unfold wd; rw [if_pos (by omega)]; simp
      have HW := Lib.hid hwd
      clear hwd
      go_wp2_with fail
      refine (lay_any none 0 0 [] X m _ (Rd.zero _ _ _) (by omega)).mono ?_
      rw [HW.out]
      rintro e w1 ⟨A1, n1, c1, rfl, ho1, hb1⟩
      have hr1 := ho1.rd
      have hl1 := Lib.hid ho1.len
      have ht : Hid (told ([] ++ be X m) = .tuple #[.int .u64 (X % 256 ^ m : Nat), .bool true]) := Lib.hid (by rw [told_some _ (by simp [be_length]; omega), List.nil_append, tl_be])
      go_wp2_with fail
      refine (tell_any _ A1 n1 c1 _ _ hr1).mono ?_
      rw [ht.out]
      rintro e w1' ⟨rfl, rfl⟩
      generalize X % 256 ^ m = y at *
      go_wp2_with fail
      refine (sgn_any y m _).mono ?_
      rw [Int.toNat_natCast]
      rintro e w1' ⟨rfl, rfl⟩
      generalize sg y m = s at *
      clear ht hl1 hr1 HW
      have hb' : Below w.heap.size w w1 := hb.trans (hb1.mono hb.size)
      clear ho1 hb1 hb
      obtain ⟨P, hP⟩ : ∃ P, wrap64 (2 ^ (8 * m - 1)) = P := ⟨_, rfl⟩
      rw [hP] at HF
      obtain ⟨N, hN⟩ : ∃ N, wrap64 (-P) = N := ⟨_, rfl⟩
      rw [hN] at HF
      obtain ⟨x, hx⟩ : ∃ x, wrap64 (X : Int) = x := ⟨_, rfl⟩
      rw [hx] at HF H8
      obtain ⟨z, hz⟩ : ∃ z, wrap64 (s : Int) = z := ⟨_, rfl⟩
      rw [hz] at HF H8
      by_cases hm8 : m = 8
      · have q := H8.out hm8
        have qb : (z == x) = true := by simpa using q
        have d8 : ((m : Int) == 8) = true := by simp; omega
        have hm9 : 8 ≤ m := by omega
        clear HF H8 q hm8
        go_wp2
        exact ⟨⟨m + 1, by omega, by omega, by go_num, hb'⟩, by simp [intOf]; omega⟩
      · have d8 : ((m : Int) == 8) = false := by simp; omega
        have hm7 : m ≤ 7 := by omega
        by_cases q : z = x
        · have qb : (z == x) = true := by simpa using q
          obtain ⟨hf1, hf2⟩ := (HF.out hm7).1 q
          have hd2 : decide (x < P) = true := by simpa using hf2
          clear HF H8 q hf2 hm8
          go_wp2
          exact ⟨⟨m + 1, by omega, by omega, by go_num, hb'⟩, by simp [intOf]; omega⟩
        · have qb : (z == x) = false := by simpa using q
          have hf : ¬ (N ≤ x ∧ x < P) := fun h => q ((HF.out hm7).2 h)
          clear HF H8 q hm8
          by_cases hf1 : N ≤ x
          · have hd2 : decide (x < P) = false := by
              rw [decide_eq_false_iff_not]
              exact fun h => hf ⟨hf1, h⟩
            clear hf
            go_wp2
            exact ⟨⟨m + 1, by omega, by omega, by go_num, hb'⟩, by simp [intOf]; omega⟩
          · clear hf
            go_wp2
            exact ⟨⟨m + 1, by omega, by omega, by go_num, hb'⟩, by simp [intOf]; omega⟩
    · go_wp2_with (go_at_call 9; refine (works_any _).mono ?_; rintro e w1 ⟨rfl, hb1⟩)
      go_ret
      exact ⟨rfl, hb.trans (hb1.mono hb.size)⟩

set_option maxRecDepth 100000 in
theorem lifted (os : Os) (started : os.Started) (H : Type) (enc : TypeId × Value → H) :
    ReturnsInHanded {} Try.checked os 4 .any (Rows.octetSignsSpec.pre6 enc Try.prog Try.f4 Rows.octetSignsRow.domain false) (Rows.octetSignsSpec.post enc Try.prog Try.f4 false true false false) := by
  refine returnsInHanded_of_change (C := Try.checked) own started (by kernel_rfl) Try.func4
    (ChangeSpec.witness6 (enc := enc) (C := Try.checked) false ⟨#[], #[.int .u64 0, .int .i64 0], []⟩ 8 (by kernel_rfl) (by kernel_rfl) (by kernel_rfl) (by kernel_rfl)) ?_
  intro W base args ds gs before hval0 hW hcnd _
  have hval : ∀ (j : Nat) t v, Try.f4.params[j]? = some t → args[j]? = some v → Value.okWide Try.prog W .any base t v := hval0
  have hW' := hW
  obtain ⟨p, q, hA0, hV, rfl, hfz, hnd⟩ := hW
  have hA : DataW.TrodAll enc Try.prog W 0 (fun _ => true) true Try.f4.params.toList args.toList ds p := hA0
  rw [Try.params4] at hA hval
  obtain ⟨v0, vs0, d0, ds0, p0, q0, hargs, rfl, rfl, h0, r0⟩ := trodAll_cons hA
  obtain ⟨v1, vs1, d1, ds1, p1, q1, rfl, rfl, rfl, h1, r1⟩ := trodAll_cons r0
  obtain ⟨rfl, rfl, rfl⟩ := trodAll_nil r1
  obtain rfl : args = #[v0, v1] := by cases args; simp_all
  obtain ⟨rfl, rfl⟩ := trodVars_none hV
  obtain ⟨a0, rfl, rfl, rfl, w0⟩ := open_int Try.underlying23 (hval 0 23 v0 rfl rfl) h0
  obtain ⟨a1, rfl, rfl, rfl, w1⟩ := open_int Try.underlying3 (hval 1 3 v1 rfl rfl) h1
  clear hA0 hval0
  simp only [List.append_nil] at hW'
  obtain ⟨X, rfl⟩ := Int.eq_ofNat_of_zero_le (a := a0) (by have := w0; simp [Lit.wf, IntKind.min, IntKind.max, IntKind.signed, IntKind.bits] at this; omega)
  have hX : X < 18446744073709551616 := by have := w0; simp [Lit.wf, IntKind.min, IntKind.max, IntKind.signed, IntKind.bits] at this; omega
  refine (walk X a1 hX W).mono fun e W' ⟨he, hg⟩ => ?_
  subst he
  exact ⟨_, rfl, _, _, _, [], [], [], hW', trodAll_mk1 (shut_bool Try.underlying4 _), trodAll_cons_mk (shut_int Try.underlying23 w0) (trodAll_cons_mk (shut_int Try.underlying3 w1) trodAll_mk0), rfl, hg.frame _, fun h => by cases h⟩

theorem over : Rows.octetSignsRow.holds Try.pinned (OpenSpec.ofChange Rows.octetSignsSpec) :=
  OpenClaim.holds_of_wide 4 Try.f4 rfl rfl rfl rfl rfl rfl rfl ⟨rfl, rfl, rfl, rfl, rfl⟩ rfl rfl rfl rfl rfl (by kernel_rfl) Try.func4 (by kernel_rfl)
    (of_decide_eq_true (by kernel_rfl)) (by unfold Func.isWrapper; first | (rw [if_pos (by decide +kernel)]; kernel_rfl) | (rw [if_neg (by decide +kernel)]; exact ⟨rfl, rfl⟩))
    (fun os started H enc _ => lifted os started H enc)

/-- The statement. -/
theorem proved : Rows.OctetSignsSaid :=
  over
end Go.Proofs.Ytaennednmkbihaa.octetSigns
