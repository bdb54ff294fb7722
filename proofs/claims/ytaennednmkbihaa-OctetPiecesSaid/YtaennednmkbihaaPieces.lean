/-
  The statement OctetPieces: the law returns true for all bytes, pieces and widths, and its arguments read as before. No condition.
-/
import Derived.Test.YtaennednmkbihaaGuard
namespace Go.Proofs.Ytaennednmkbihaa.octetPieces
open Go.ChangeShapes Go.WideShapes Go.ChangeAt Go.RowKit Go.Proofs.Ytaennednmkbihaa.Oct

theorem walk_long (A A' : Option Addr) (n c n' c' : Nat) (k : Int) (w : World) (h : 65536 < n ∨ 65536 < n') :
    Calls Try.prog 5 #[.slice A n c, .slice A' n' c', .int .i64 k] w fun e w' => e = .returned (.bool true) ∧ Below w.heap.size w w' := by
  by_cases h1 : 65536 < n
  · clear h
    go_enter Try.func5, Try.ntmps5
    go_wp2_with (go_at_call 9; refine (works_any _).mono ?_; rintro e w1 ⟨rfl, hb1⟩)
    go_ret
    exact ⟨rfl, hb1⟩
  · have h2 : 65536 < n' := by omega
    have d1 : decide (65536 < (n : Int)) = false := by simp; omega
    clear h
    go_enter Try.func5, Try.ntmps5
    go_wp2_with (go_at_call 9; refine (works_any _).mono ?_; rintro e w1 ⟨rfl, hb1⟩)
    go_ret
    exact ⟨rfl, hb1⟩

/-- Both calls' answers, the code's and the document's, as one fact. -/
theorem walk_short (A A' : Option Addr) (n c n' c' : Nat) (l p : List UInt8) (k : Int) (w : World) (hr : Rd w w.heap.size A n l) (hr' : Rd w w.heap.size A' n' p) (h1 : n ≤ 65536) (h2 : n' ≤ 65536) (L : List UInt8) (err : Int)
    (hL : ∀ (B B' : Option Addr) (d d' : Nat) (W : World), Rd W W.heap.size B n l → Rd W W.heap.size B' n' p → Calls Try.prog 18 #[.slice B n d, .slice B' n' d', .int .i64 k] W (GivesE W.heap.size L err W))
    (hR : ∀ (B B' : Option Addr) (d d' : Nat) (W : World), Rd W W.heap.size B n l → Rd W W.heap.size B' n' p → Calls Try.prog 19 #[.slice B n d, .slice B' n' d', .int .i64 k] W (GivesE W.heap.size L err W)) :
    Calls Try.prog 5 #[.slice A n c, .slice A' n' c', .int .i64 k] w fun e w' => e = .returned (.bool true) ∧ Below w.heap.size w w' := by
  have HL := Lib.hid hL
  have HR := Lib.hid hR
  have d1 : decide (65536 < (n : Int)) = false := by simp; omega
  have d2 : decide (65536 < (n' : Int)) = false := by simp; omega
  clear hL hR
  go_enter Try.func5, Try.ntmps5
  go_wp2_with fail
  refine (guarded_any A n c l _ hr h1).mono ?_
  rintro e w1 ⟨A1, c1, rfl, hg1, hb1⟩
  have hr1 := (hr.below hb1).mono hb1.size
  have hr1' := (hr'.below hb1).mono hb1.size
  clear hr hr'
  go_wp2_with fail
  refine (guarded_any A' n' c' p _ hr1' h2).mono ?_
  rintro e w2 ⟨A2, c2, rfl, hg2, hb2⟩
  have hg1a := hg1.below hb2
  have hr2 := (hr1.below hb2).mono hb2.size
  have hr2' := (hr1'.below hb2).mono hb2.size
  clear hr1 hr1' hg1
  go_wp2_with fail
  refine (HL.out A1 A2 c1 c2 w2 hg1a.rd hg2.rd).mono ?_
  rintro e w3 ⟨A3, n3, c3, rfl, ho3, hb3⟩
  have hg1b := hg1a.below hb3
  have hg2b := hg2.below hb3
  have hr3 := (hr2.below hb3).mono hb3.size
  have hr3' := (hr2'.below hb3).mono hb3.size
  clear hr2 hr2' hg1a hg2
  go_wp2_with fail
  refine (HR.out A A' c c' w3 hr3 hr3').mono ?_
  rintro e w4 ⟨A4, n4, c4, rfl, ho4, hb4⟩
  have hg1c := hg1b.below hb4
  have hg2c := hg2b.below hb4
  have hr4 := (hr3.below hb4).mono hb4.size
  have hr4' := (hr3'.below hb4).mono hb4.size
  have hs3 := run_str c3 (ho3.below hb4).rd
  have hs4 := run_str c4 ho4.rd
  have hbe : Below w.heap.size w w4 := ((hb1.trans (hb2.mono hb1.size)).trans (hb3.mono (Nat.le_trans hb1.size hb2.size))).trans (hb4.mono (Nat.le_trans (Nat.le_trans hb1.size hb2.size) hb3.size))
  clear hr3 hr3' hg1b hg2b ho3 ho4 hb1 hb2 hb3 hb4
  go_wp2_with (first
    | (go_at_call_of 15 (Value.slice A1 n c1); refine (whole_any _ _ A1 A n c1 c l _ hg1c hr4 h1).mono ?_; rintro e w' ⟨rfl, rfl⟩)
    | (go_at_call_of 15 (Value.slice A2 n' c2); refine (whole_any _ _ A2 A' n' c2 c' p _ hg2c hr4' h2).mono ?_; rintro e w' ⟨rfl, rfl⟩)
    | (go_at_call 9; refine (works_any _).mono ?_; rintro e w5 ⟨rfl, hb5⟩))
  go_ret
  exact ⟨rfl, hbe.trans (hb5.mono hbe.size)⟩

theorem walk (A A' : Option Addr) (n c n' c' : Nat) (l p : List UInt8) (k : Int) (w : World) (hr : Rd w w.heap.size A n l) (hr' : Rd w w.heap.size A' n' p) :
    Calls Try.prog 5 #[.slice A n c, .slice A' n' c', .int .i64 k] w fun e w' => e = .returned (.bool true) ∧ Below w.heap.size w w' := by
  by_cases h : 65536 < n ∨ 65536 < n'
  · exact walk_long A A' n c n' c' k w h
  · by_cases hk : okp k n'
    · exact walk_short A A' n c n' c' l p k w hr hr' (by omega) (by omega) _ _ (fun B B' d d' W q q' => layp_yes B B' n d n' d' l p k W hk q q' (by omega) (by omega)) (fun B B' d d' W q q' => rlayp_yes B B' n d n' d' l p k W hk q q' (by omega) (by omega))
    · exact walk_short A A' n c n' c' l p k w hr hr' (by omega) (by omega) _ _ (fun B B' d d' W _ _ => layp_no B B' n d n' d' k W _ hk) (fun B B' d d' W _ _ => rlayp_no B B' n d n' d' k W _ hk)

set_option maxRecDepth 100000 in
theorem lifted (os : Os) (started : os.Started) (H : Type) (enc : TypeId × Value → H) :
    ReturnsInHanded {} Try.checked os 5 .any (Rows.octetPiecesSpec.pre6 enc Try.prog Try.f5 Rows.octetPiecesRow.domain false) (Rows.octetPiecesSpec.post enc Try.prog Try.f5 false true false false) := by
  refine returnsInHanded_of_change (C := Try.checked) own started (by kernel_rfl) Try.func5
    (ChangeSpec.witness6 (enc := enc) (C := Try.checked) false ⟨#[], #[.slice none 0 0, .slice none 0 0, .int .i64 0], []⟩ 8 (by kernel_rfl) (by kernel_rfl) (by kernel_rfl) (by kernel_rfl)) ?_
  intro W base args ds gs before hval0 hW hcnd _
  have hval : ∀ (j : Nat) t v, Try.f5.params[j]? = some t → args[j]? = some v → Value.okWide Try.prog W .any base t v := hval0
  have hW' := hW
  obtain ⟨p, q, hA0, hV, rfl, hfz, hnd⟩ := hW
  have hA : DataW.TrodAll enc Try.prog W 0 (fun _ => true) true Try.f5.params.toList args.toList ds p := hA0
  rw [Try.params5] at hA hval
  obtain ⟨v0, vs0, d0, ds0, p0, q0, hargs, rfl, rfl, h0, r0⟩ := trodAll_cons hA
  obtain ⟨v1, vs1, d1, ds1, p1, q1, rfl, rfl, rfl, h1, r1⟩ := trodAll_cons r0
  obtain ⟨v2, vs2, d2, ds2, p2, q2, rfl, rfl, rfl, h2, r2⟩ := trodAll_cons r1
  obtain ⟨rfl, rfl, rfl⟩ := trodAll_nil r2
  obtain rfl : args = #[v0, v1, v2] := by cases args; simp_all
  obtain ⟨rfl, rfl⟩ := trodVars_none hV
  obtain ⟨a2, rfl, rfl, rfl, w2⟩ := open_int Try.underlying3 (hval 2 3 v2 rfl rfl) h2
  clear hA0 hval0
  simp only [List.append_nil] at hW'
  have hlt0 : ∀ x ∈ p0, x.block < W.heap.size := fun x hx => hW'.lt x (by simp [hx])
  have hlt1 : ∀ x ∈ p1, x.block < W.heap.size := fun x hx => hW'.lt x (by simp [hx])
  obtain ⟨A, n, c, l, rfl, hnc, hcm, hr⟩ := open_bytes (hval 0 22 v0 rfl rfl) h0 hlt0
  obtain ⟨A', n', c', l', rfl, hnc', hcm', hr'⟩ := open_bytes (hval 1 22 v1 rfl rfl) h1 hlt1
  refine (walk A A' n c n' c' l l' a2 W hr hr').mono fun e W' ⟨he, hb⟩ => ?_
  subst he
  exact ⟨_, rfl, _, _, _, [], _, [], hW', trodAll_mk1 (shut_bool Try.underlying4 _), trodAll_cons_mk (Below.trod laidOut (by kernel_rfl) (of_decide_eq_true (by kernel_rfl)) h0 hb hlt0) (trodAll_cons_mk (Below.trod laidOut (by kernel_rfl) (of_decide_eq_true (by kernel_rfl)) h1 hb hlt1) (trodAll_cons_mk (shut_int Try.underlying3 w2) trodAll_mk0)), rfl, hb.frame _, fun h => by cases h⟩

theorem over : Rows.octetPiecesRow.holds Try.pinned (OpenSpec.ofChange Rows.octetPiecesSpec) :=
  OpenClaim.holds_of_wide 5 Try.f5 rfl rfl rfl rfl rfl rfl rfl ⟨rfl, rfl, rfl, rfl, rfl⟩ rfl rfl rfl rfl rfl (by kernel_rfl) Try.func5 (by kernel_rfl)
    (of_decide_eq_true (by kernel_rfl)) (by unfold Func.isWrapper; first | (rw [if_pos (by decide +kernel)]; kernel_rfl) | (rw [if_neg (by decide +kernel)]; exact ⟨rfl, rfl⟩))
    (fun os started H enc _ => lifted os started H enc)

/-- The statement. -/
theorem proved : Rows.OctetPiecesSaid :=
  over
end Go.Proofs.Ytaennednmkbihaa.octetPieces
