/-
  The statement OctetRanks: the law returns true for all numbers and widths, and its arguments read as before. No condition.
-/
import Derived.Test.YtaennednmkbihaaGuard
namespace Go.Proofs.Ytaennednmkbihaa.octetRanks
open Go.ChangeShapes Go.WideShapes Go.ChangeAt Go.RowKit Go.Proofs.Ytaennednmkbihaa.Oct

theorem less_mod (X Y : Nat) : ∀ n, Op.bytesLess (be X n) (be Y n) = decide (X % 256 ^ n < Y % 256 ^ n)
  | 0 => by simp [be, Op.bytesLess, Nat.mod_one]
  | n + 1 => by
    have ih := less_mod X Y n
    have ea : (UInt8.ofNat (X / 256 ^ n)).toNat = X / 256 ^ n % 256 := by simp
    have eb : (UInt8.ofNat (Y / 256 ^ n)).toNat = Y / 256 ^ n % 256 := by simp
    have mx : X % 256 ^ (n + 1) = X % 256 ^ n + 256 ^ n * (X / 256 ^ n % 256) := by rw [Nat.mod_pow_succ]
    have my : Y % 256 ^ (n + 1) = Y % 256 ^ n + 256 ^ n * (Y / 256 ^ n % 256) := by rw [Nat.mod_pow_succ]
    have lx : X % 256 ^ n < 256 ^ n := Nat.mod_lt _ (Nat.pow_pos (by omega))
    have ly : Y % 256 ^ n < 256 ^ n := Nat.mod_lt _ (Nat.pow_pos (by omega))
    rw [be, be, Op.bytesLess, ih, mx, my, Bool.eq_iff_iff]
    simp only [Bool.or_eq_true, Bool.and_eq_true, decide_eq_true_eq, beq_iff_eq, UInt8.lt_iff_toNat_lt, ← UInt8.toNat_inj, ea, eb]
    generalize X / 256 ^ n % 256 = a at *
    generalize Y / 256 ^ n % 256 = b at *
    generalize X % 256 ^ n = x at *
    generalize Y % 256 ^ n = y at *
    generalize 256 ^ n = p at *
    rcases Nat.lt_trichotomy a b with h | h | h
    · have : p * a + p ≤ p * b := by
        have := Nat.mul_le_mul_left p (show a + 1 ≤ b from h)
        rw [Nat.mul_add] at this
        omega
      constructor
      · intro _; omega
      · intro _; exact .inl h
    · subst h
      constructor
      · rintro (h | h) <;> omega
      · intro h; exact .inr ⟨rfl, by omega⟩
    · have : p * b + p ≤ p * a := by
        have := Nat.mul_le_mul_left p (show b + 1 ≤ a from h)
        rw [Nat.mul_add] at this
        omega
      constructor
      · rintro (h | h) <;> omega
      · intro h; omega

theorem less_be (X Y n : Nat) (hx : X < 256 ^ n) (hy : Y < 256 ^ n) : Op.bytesLess (be X n) (be Y n) = decide (X < Y) := by
  rw [less_mod, Nat.mod_eq_of_lt hx, Nat.mod_eq_of_lt hy]

theorem shr_zero (X N : Nat) (h : ((X : Int) / 2 ^ (8 * N)) = 0) : X < 256 ^ N := by
  rw [pow256]
  have e : ((X : Int) / 2 ^ (8 * N)) = ((X / 2 ^ (8 * N) : Nat) : Int) := by simp
  rw [e] at h
  exact (Nat.div_eq_zero_iff_lt (Nat.two_pow_pos _)).1 (by omega)

theorem shr_some (X N : Nat) (h : ((X : Int) / 2 ^ (8 * N)) ≠ 0) : 0 < X := by
  rcases Nat.eq_zero_or_pos X with h0 | h0
  · subst h0; simp at h
  · exact h0

theorem round_end (X' Y' : Nat) (hX : X' < 18446744073709551616) (hY : Y' < 18446744073709551616) (hp : 0 < X' + Y') : (∃ X1 Y1 : Nat, X1 < 18446744073709551616 ∧ Y1 < 18446744073709551616 ∧ Value.int IntKind.u64 ((X' : Int) / 256) = Value.int IntKind.u64 X1 ∧ Value.int IntKind.u64 ((Y' : Int) / 256) = Value.int IntKind.u64 Y1) ∧
    (intOf (Value.int IntKind.u64 ((X' : Int) / 256))).toNat + (intOf (Value.int IntKind.u64 ((Y' : Int) / 256))).toNat < (intOf (Value.int IntKind.u64 X')).toNat + (intOf (Value.int IntKind.u64 Y')).toNat := by
  refine ⟨⟨X' / 256, Y' / 256, by omega, by omega, by simp, by simp⟩, ?_⟩
  simp only [intOf]
  omega

set_option maxHeartbeats 800000 in
theorem walk (X Y V : Nat) (hX : X < 18446744073709551616) (hY : Y < 18446744073709551616) (hV : V < 256) (w : World) :
    Calls Try.prog 8 #[.int .u64 X, .int .u64 Y, .int .u8 V] w fun e w' => e = .returned (.bool true) ∧ Below w.heap.size w w' := by
  obtain ⟨N, hN, hN8⟩ : ∃ N : Nat, (V : Int) % 9 = (N : Int) ∧ N ≤ 8 := ⟨V % 9, by omega, by omega⟩
  have hwd : wd (N : Int) = N := by unfold wd; rw [if_pos (by omega)]; simp
  have HW : Hid (wd (N : Int) = N) := Lib.hid hwd
  clear hwd
  go_enter Try.func8, Try.ntmps8
  go_wp2_with fail
  rw [hN]
  clear hN
  go_loop [0, 1] (fun x y => ∃ X' Y' : Nat, X' < 18446744073709551616 ∧ Y' < 18446744073709551616 ∧ x = .int .u64 X' ∧ y = .int .u64 Y') (fun x y => (intOf x).toNat + (intOf y).toNat)
  case atStart => exact ⟨X, Y, hX, hY, rfl, rfl⟩
  case round =>
    clear hX hY
    obtain ⟨X', Y', hX, hY, rfl, rfl⟩ := hrel
    by_cases h0 : N = 0
    · subst h0
      go_wp2_with fail
      refine (lay_any none 0 0 [] X' 0 _ (Rd.zero _ _ _) (by omega)).mono ?_
      rw [show wd 0 = 0 from rfl]
      rintro e w1 ⟨A1, n1, c1, rfl, ho1, hb1⟩
      obtain rfl := n_of ho1 0 rfl
      go_wp2_with fail
      refine (lay_any none 0 0 [] Y' 0 _ (Rd.zero _ _ _) (by omega)).mono ?_
      rw [show wd 0 = 0 from rfl]
      rintro e w2 ⟨A2, n2, c2, rfl, ho2, hb2⟩
      obtain rfl := n_of ho2 0 rfl
      have ho1' := ho1.below hb2
      have hbe : Below w.heap.size w w2 := hb1.trans (hb2.mono hb1.size)
      clear ho1 hb1 hb2
      go_wp2_with fail
      refine (tell_any _ A1 0 c1 _ _ ho1'.rd).mono ?_
      rw [show told ([] ++ be X' 0) = .tuple #[.int .u64 0, .bool true] from rfl]
      rintro e w3 ⟨rfl, rfl⟩
      clear ho1' ho2
      go_wp2_with (go_at_call 9; refine (works_any _).mono ?_; rintro e w4 ⟨rfl, hb4⟩)
      go_ret
      exact ⟨rfl, hbe.trans (hb4.mono hbe.size)⟩
    by_cases h8 : N = 8
    · have d8 : decide ((N : Int) < 8) = false := by simp; omega
      have lx : X' < 256 ^ N := by subst h8; omega
      have ly : Y' < 256 ^ N := by subst h8; omega
      have h81 : 8 ≤ N := by omega
      clear h8 h0
      have EX : Hid (X' % 256 ^ N = X') := Lib.hid (Nat.mod_eq_of_lt lx)
      have EY : Hid (Y' % 256 ^ N = Y') := Lib.hid (Nat.mod_eq_of_lt ly)
      have LE : Hid (Op.bytesLess (be X' N) (be Y' N) = decide (X' < Y')) := Lib.hid (less_be X' Y' N lx ly)
      have t1 : Hid (told ([] ++ be X' N) = .tuple #[.int .u64 (X' : Nat), .bool true]) := Lib.hid (by rw [told_some _ (by simp [be_length]; omega), List.nil_append, tl_be, EX.out])
      have t2 : Hid (told ([] ++ be Y' N) = .tuple #[.int .u64 (Y' : Nat), .bool true]) := Lib.hid (by rw [told_some _ (by simp [be_length]; omega), List.nil_append, tl_be, EY.out])
      have dn : ((N : Int) == 0) = false := by simp; omega
      clear lx ly EX EY
      go_wp2_with fail
      refine (lay_any none 0 0 [] X' N _ (Rd.zero _ _ _) (by omega)).mono ?_
      rw [HW.out]
      rintro e w1 ⟨A1, n1, c1, rfl, ho1, hb1⟩
      obtain rfl := n_of ho1 N (by simp [be_length])
      go_wp2_with fail
      refine (lay_any none 0 0 [] Y' n1 _ (Rd.zero _ _ _) (by omega)).mono ?_
      rw [HW.out]
      rintro e w2 ⟨A2, n2, c2, rfl, ho2, hb2⟩
      obtain rfl := n_of ho2 n1 (by simp [be_length])
      have ho1' := ho1.below hb2
      have hs1 := run_str c1 ho1'.rd
      have hs2 := run_str c2 ho2.rd
      have hbe : Below w.heap.size w w2 := hb1.trans (hb2.mono hb1.size)
      clear ho1 hb1 hb2
      have hlx : Hid (Op.bytesLess ([] ++ be X' n2) ([] ++ be Y' n2) = decide (X' < Y')) := LE
      rw [List.nil_append] at hs1 hs2
      go_wp2_with fail
      refine (tell_any _ A1 n2 c1 _ _ ho1'.rd).mono ?_
      rw [t1.out]
      rintro e w3 ⟨rfl, rfl⟩
      go_wp2_with fail
      refine (tell_any _ A2 n2 c2 _ _ ho2.rd).mono ?_
      rw [t2.out]
      rintro e w3 ⟨rfl, rfl⟩
      generalize be X' n2 = lx at *
      generalize be Y' n2 = ly at *
      have hle := LE.out
      clear t1 t2 hlx LE ho1' ho2
      go_wp2_with (go_at_call 9; refine (works_any _).mono ?_; rintro e w4 ⟨rfl, hb4⟩)
      go_ret
      exact ⟨rfl, hbe.trans (hb4.mono hbe.size)⟩
    · have d8 : decide ((N : Int) < 8) = true := by simp; omega
      have d0 : decide (0 < (N : Int)) = true := by simp; omega
      have h71 : N ≤ 7 := by omega
      have h11 : 1 ≤ N := by omega
      clear h0 h8
      obtain ⟨qx, hqx⟩ : ∃ q, ((X' : Int) / 2 ^ (8 * N)) = q := ⟨_, rfl⟩
      obtain ⟨qy, hqy⟩ : ∃ q, ((Y' : Int) / 2 ^ (8 * N)) = q := ⟨_, rfl⟩
      by_cases hx0 : qx = 0
      · by_cases hy0 : qy = 0
        · have bx : (qx != 0) = false := by simpa using hx0
          have bY : (qy != 0) = false := by simpa using hy0
          have lx : X' < 256 ^ N := shr_zero X' N (hqx.trans hx0)
          have ly : Y' < 256 ^ N := shr_zero Y' N (hqy.trans hy0)
          clear hx0 hy0
          have EX : Hid (X' % 256 ^ N = X') := Lib.hid (Nat.mod_eq_of_lt lx)
          have EY : Hid (Y' % 256 ^ N = Y') := Lib.hid (Nat.mod_eq_of_lt ly)
          have LE : Hid (Op.bytesLess (be X' N) (be Y' N) = decide (X' < Y')) := Lib.hid (less_be X' Y' N lx ly)
          have t1 : Hid (told ([] ++ be X' N) = .tuple #[.int .u64 (X' : Nat), .bool true]) := Lib.hid (by rw [told_some _ (by simp [be_length]; omega), List.nil_append, tl_be, EX.out])
          have t2 : Hid (told ([] ++ be Y' N) = .tuple #[.int .u64 (Y' : Nat), .bool true]) := Lib.hid (by rw [told_some _ (by simp [be_length]; omega), List.nil_append, tl_be, EY.out])
          have dn : ((N : Int) == 0) = false := by simp; omega
          clear lx ly EX EY
          go_wp2_with fail
          refine (lay_any none 0 0 [] X' N _ (Rd.zero _ _ _) (by omega)).mono ?_
          rw [HW.out]
          rintro e w1 ⟨A1, n1, c1, rfl, ho1, hb1⟩
          obtain rfl := n_of ho1 N (by simp [be_length])
          go_wp2_with fail
          refine (lay_any none 0 0 [] Y' n1 _ (Rd.zero _ _ _) (by omega)).mono ?_
          rw [HW.out]
          rintro e w2 ⟨A2, n2, c2, rfl, ho2, hb2⟩
          obtain rfl := n_of ho2 n1 (by simp [be_length])
          have ho1' := ho1.below hb2
          have hs1 := run_str c1 ho1'.rd
          have hs2 := run_str c2 ho2.rd
          have hbe : Below w.heap.size w w2 := hb1.trans (hb2.mono hb1.size)
          clear ho1 hb1 hb2
          have hlx : Hid (Op.bytesLess ([] ++ be X' n2) ([] ++ be Y' n2) = decide (X' < Y')) := LE
          rw [List.nil_append] at hs1 hs2
          go_wp2_with fail
          refine (tell_any _ A1 n2 c1 _ _ ho1'.rd).mono ?_
          rw [t1.out]
          rintro e w3 ⟨rfl, rfl⟩
          go_wp2_with fail
          refine (tell_any _ A2 n2 c2 _ _ ho2.rd).mono ?_
          rw [t2.out]
          rintro e w3 ⟨rfl, rfl⟩
          generalize be X' n2 = lx at *
          generalize be Y' n2 = ly at *
          have hle := LE.out
          clear t1 t2 hlx LE ho1' ho2
          go_wp2_with (go_at_call 9; refine (works_any _).mono ?_; rintro e w4 ⟨rfl, hb4⟩)
          go_ret
          exact ⟨rfl, hbe.trans (hb4.mono hbe.size)⟩
        · have bx : (qx != 0) = false := by simpa using hx0
          have bY : (qy != 0) = true := by simpa using hy0
          have hp : 0 < Y' := shr_some Y' N (by rw [hqy]; exact hy0)
          clear hx0 hy0
          go_wp2
          exact round_end X' Y' hX hY (by omega)
      · have bx : (qx != 0) = true := by simpa using hx0
        have hp : 0 < X' := shr_some X' N (by rw [hqx]; exact hx0)
        clear hx0
        go_wp2
        exact round_end X' Y' hX hY (by omega)

set_option maxRecDepth 100000 in
theorem lifted (os : Os) (started : os.Started) (H : Type) (enc : TypeId × Value → H) :
    ReturnsInHanded {} Try.checked os 8 .any (Rows.octetRanksSpec.pre6 enc Try.prog Try.f8 Rows.octetRanksRow.domain false) (Rows.octetRanksSpec.post enc Try.prog Try.f8 false true false false) := by
  refine returnsInHanded_of_change (C := Try.checked) own started (by kernel_rfl) Try.func8
    (ChangeSpec.witness6 (enc := enc) (C := Try.checked) false ⟨#[], #[.int .u64 0, .int .u64 0, .int .u8 0], []⟩ 8 (by kernel_rfl) (by kernel_rfl) (by kernel_rfl) (by kernel_rfl)) ?_
  intro W base args ds gs before hval0 hW hcnd _
  have hval : ∀ (j : Nat) t v, Try.f8.params[j]? = some t → args[j]? = some v → Value.okWide Try.prog W .any base t v := hval0
  have hW' := hW
  obtain ⟨p, q, hA0, hV, rfl, hfz, hnd⟩ := hW
  have hA : DataW.TrodAll enc Try.prog W 0 (fun _ => true) true Try.f8.params.toList args.toList ds p := hA0
  rw [Try.params8] at hA hval
  obtain ⟨v0, vs0, d0, ds0, p0, q0, hargs, rfl, rfl, h0, r0⟩ := trodAll_cons hA
  obtain ⟨v1, vs1, d1, ds1, p1, q1, rfl, rfl, rfl, h1, r1⟩ := trodAll_cons r0
  obtain ⟨v2, vs2, d2, ds2, p2, q2, rfl, rfl, rfl, h2, r2⟩ := trodAll_cons r1
  obtain ⟨rfl, rfl, rfl⟩ := trodAll_nil r2
  obtain rfl : args = #[v0, v1, v2] := by cases args; simp_all
  obtain ⟨rfl, rfl⟩ := trodVars_none hV
  obtain ⟨a0, rfl, rfl, rfl, w0⟩ := open_int Try.underlying23 (hval 0 23 v0 rfl rfl) h0
  obtain ⟨a1, rfl, rfl, rfl, w1⟩ := open_int Try.underlying23 (hval 1 23 v1 rfl rfl) h1
  obtain ⟨a2, rfl, rfl, rfl, w2⟩ := open_int Try.underlying5 (hval 2 5 v2 rfl rfl) h2
  clear hA0 hval0
  simp only [List.append_nil] at hW'
  have b0 : 0 ≤ a0 ∧ a0 ≤ 18446744073709551615 := by simpa [Lit.wf, IntKind.min, IntKind.max, IntKind.signed, IntKind.bits] using w0
  have b1 : 0 ≤ a1 ∧ a1 ≤ 18446744073709551615 := by simpa [Lit.wf, IntKind.min, IntKind.max, IntKind.signed, IntKind.bits] using w1
  have b2 : 0 ≤ a2 ∧ a2 ≤ 255 := by simpa [Lit.wf, IntKind.min, IntKind.max, IntKind.signed, IntKind.bits] using w2
  obtain ⟨X, rfl⟩ := Int.eq_ofNat_of_zero_le b0.1
  obtain ⟨Y, rfl⟩ := Int.eq_ofNat_of_zero_le b1.1
  obtain ⟨V, rfl⟩ := Int.eq_ofNat_of_zero_le b2.1
  refine (walk X Y V (by omega) (by omega) (by omega) W).mono fun e W' ⟨he, hb⟩ => ?_
  subst he
  exact ⟨_, rfl, _, _, _, [], [], [], hW', trodAll_mk1 (shut_bool Try.underlying4 _), trodAll_cons_mk (shut_int Try.underlying23 w0) (trodAll_cons_mk (shut_int Try.underlying23 w1) (trodAll_cons_mk (shut_int Try.underlying5 w2) trodAll_mk0)), rfl, hb.frame _, fun h => by cases h⟩

theorem over : Rows.octetRanksRow.holds Try.pinned (OpenSpec.ofChange Rows.octetRanksSpec) :=
  OpenClaim.holds_of_wide 8 Try.f8 rfl rfl rfl rfl rfl rfl rfl ⟨rfl, rfl, rfl, rfl, rfl⟩ rfl rfl rfl rfl rfl (by kernel_rfl) Try.func8 (by kernel_rfl)
    (of_decide_eq_true (by kernel_rfl)) (by unfold Func.isWrapper; first | (rw [if_pos (by decide +kernel)]; kernel_rfl) | (rw [if_neg (by decide +kernel)]; exact ⟨rfl, rfl⟩))
    (fun os started H enc _ => lifted os started H enc)

/-- The statement. -/
theorem proved : Rows.OctetRanksSaid :=
  over
end Go.Proofs.Ytaennednmkbihaa.octetRanks
