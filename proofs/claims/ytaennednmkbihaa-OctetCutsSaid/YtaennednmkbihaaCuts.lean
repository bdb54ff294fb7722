/-
  The statement OctetCuts: the law returns true for all bytes and widths, and its arguments read as before. No condition.
-/
import Derived.Test.YtaennednmkbihaaGuard
import Derived.Test.YtaennednmkbihaaRpiece
namespace Go.Proofs.Ytaennednmkbihaa.octetCuts
open Go.ChangeShapes Go.WideShapes Go.ChangeAt Go.RowKit Go.Proofs.Ytaennednmkbihaa.Oct

theorem walk_long (A : Option Addr) (n c : Nat) (k : Int) (w : World) (h1 : 65536 < n) :
    Calls Try.prog 6 #[.slice A n c, .int .i64 k] w fun e w' => e = .returned (.bool true) ∧ Below w.heap.size w w' := by
  go_enter Try.func6, Try.ntmps6
  go_wp2_with (go_at_call 9; refine (works_any _).mono ?_; rintro e w1 ⟨rfl, hb1⟩)
  go_ret
  exact ⟨rfl, hb1⟩

theorem own_store {w : World} {base g n c : Nat} {l : List UInt8} (h : Own w base (some ⟨g, 0, none⟩) n c l) (j : Nat) (z : UInt8) : Own (w.setCell ⟨g, j, none⟩ (.int .u8 (z.toNat : Int))) base (some ⟨g, 0, none⟩) n c (l.set j z) := by
  have := (World.ownsRow.stored h j (.int .u8 (z.toNat : Int))).1
  unfold Own bs at *
  rw [List.map_set]
  exact this

/-- A slice of the call's own stays one, whatever byte is stored anywhere. -/
theorem own_any {w : World} {base n c : Nat} {A : Option Addr} {l : List UInt8} (h : Own w base A n c l) (g j : Nat) (z : UInt8) : ∃ l', Own (w.setCell ⟨g, j, none⟩ (.int .u8 (z.toNat : Int))) base A n c l' := by
  rcases h.2 with ⟨e, h0⟩ | ⟨g', cap, cur, e, _⟩
  · injection e with e1 e2 e3
    subst e1
    subst e2
    subst e3
    have hl : l = [] := List.eq_nil_of_length_eq_zero h.len
    subst hl
    exact ⟨[], World.ownsRow_nil _ _ 5 1⟩
  · injection e with e1 _ _
    subst e1
    by_cases hg : g' = g
    · subst hg
      exact ⟨_, own_store h j z⟩
    · refine ⟨l, World.ownsRow.kept h (row := some g) ⟨rfl, rfl, rfl, by simp [World.setCell], fun k _ hk => Below.heap_setCell w ⟨g, j, none⟩ _ k (fun e => hk (by rw [e]))⟩ (.inr ?_)⟩
      simp only [Value.ownBlock]
      intro e
      injection e with e
      exact hg e

theorem inc_byte (c : UInt8) : ((c.toNat : Int) + 1) % 256 = ((c + 1).toNat : Int) := by
  simp [UInt8.toNat_add]

set_option maxHeartbeats 800000 in
theorem walk_short (A : Option Addr) (n c : Nat) (l : List UInt8) (k : Int) (w : World) (hr : Rd w w.heap.size A n l) (h1 : n ≤ 65536) (hnc : n ≤ c) :
    Calls Try.prog 6 #[.slice A n c, .int .i64 k] w fun e w' => e = .returned (.bool true) ∧ Below w.heap.size w w' := by
  have d1 : decide (65536 < (n : Int)) = false := by simp; omega
  obtain ⟨pp, hpp⟩ : ∃ pp, ppc l k = pp := ⟨_, rfl⟩
  obtain ⟨rr, hrr⟩ : ∃ rr, prs l k = rr := ⟨_, rfl⟩
  obtain ⟨ee, hee⟩ : ∃ ee, perr l k = ee := ⟨_, rfl⟩
  have HP := Lib.hid hpp
  have HR := Lib.hid hrr
  have HE := Lib.hid hee
  clear hpp hrr hee
  go_enter Try.func6, Try.ntmps6
  go_wp2_with fail
  refine (guarded_any A n c l _ hr h1).mono ?_
  rintro e w1 ⟨A1, c1, rfl, hg1, hb1⟩
  have hr1 := (hr.below hb1).mono hb1.size
  clear hr
  go_wp2_with fail
  refine (piece_any A1 n c1 l k w1 hg1.rd (by have := hg1.cap; omega) (by omega)).mono ?_
  rw [HP.out, HR.out, HE.out]
  rintro e w2 ⟨P, np, cp, R, nr, cr, rfl, hoP, hoR, hb2⟩
  have hr2 := (hr1.below hb2).mono hb2.size
  go_wp2_with fail
  refine (rpiece_any A n c l k w2 hr2 hnc (by omega)).mono ?_
  rw [HP.out, HR.out, HE.out]
  rintro e w3 ⟨P', np', cp', R', nr', cr', rfl, hrP, hrR, hb3⟩
  have hoP3 := hoP.below hb3
  have hoR3 := hoR.below hb3
  have hb13 : Below w1.heap.size w1 w3 := hb2.trans (hb3.mono hb2.size)
  have q1 := run_str cp hoP3.rd
  have q2 := run_str cp' hrP
  have q3 := run_str cr hoR3.rd
  have q4 := run_str cr' hrR
  obtain ⟨hP1, hP2⟩ := hoP.cap
  obtain ⟨hR1, hR2⟩ := hoR.cap
  unfold maxLen at hP2 hR2
  clear hoP hoR hr2 hb2 hb3 hrP hrR
  go_wp2
  go_loopw [12] (fun i wr => ∃ (m : Nat) (Lp Lr : List UInt8), m ≤ np ∧ i = .int .i64 m ∧ Own wr w1.heap.size P np cp Lp ∧ Own wr w1.heap.size R nr cr Lr ∧ Below w1.heap.size w1 wr) (fun i _ => np - (intOf i).toNat)
  case atStart => exact ⟨0, pp, rr, Nat.zero_le _, rfl, hoP3, hoR3, hb13⟩
  case round =>
    clear q1 q2 q3 q4 hoP3 hoR3 hb13
    obtain ⟨m, Lp, Lr, hm, rfl, ho, ho', hb⟩ := hrel
    by_cases hlt : m < np
    · obtain ⟨g, cg, hv, hg1', hg2'⟩ := World.ownsRow.form ho (by omega)
      injection hv with hv _ _
      subst hv
      obtain ⟨b', o', c', he, hbl, hx, hcell⟩ := (ho).rd.at_ hlt
      injection he with he
      injection he with he1 he2
      subst he1
      subst he2
      rw [Nat.zero_add] at hcell
      have hfro := World.ownsRow.frozenAt ho m
      have hst := own_store ho m (c' + 1)
      obtain ⟨Lo, hso⟩ := own_any ho' g m (c' + 1)
      have hbn : Below w1.heap.size w1 (wr.setCell ⟨g, m, none⟩ (.int .u8 ((c' + 1).toNat : Int))) := hb.setCell hg1' _
      have HI := Lib.hid (inc_byte c')
      clear hx
      go_wp2
      rw [HI.out]
      exact ⟨⟨m + 1, _, _, by omega, by go_num, hst, hso, hbn⟩, by simp [intOf]; omega⟩
    · obtain ⟨wo, rfl⟩ : ∃ wo : World, wo = wr := ⟨_, rfl⟩
      go_wp2
      go_loopw [13] (fun i wr => ∃ (m : Nat) (Lp Lr : List UInt8), m ≤ nr ∧ i = .int .i64 m ∧ Own wr w1.heap.size P np cp Lp ∧ Own wr w1.heap.size R nr cr Lr ∧ Below w1.heap.size w1 wr) (fun i _ => nr - (intOf i).toNat)
      case atStart => exact ⟨0, Lp, Lr, Nat.zero_le _, rfl, ho, ho', hb⟩
      case round =>
        clear ho ho' hb hlt
        obtain ⟨m, Lp, Lr, hm, rfl, ho, ho', hb⟩ := hrel
        by_cases hlt : m < nr
        · obtain ⟨g, cg, hv, hg1', hg2'⟩ := World.ownsRow.form ho' (by omega)
          injection hv with hv _ _
          subst hv
          obtain ⟨b', o', c', he, hbl, hx, hcell⟩ := (ho').rd.at_ hlt
          injection he with he
          injection he with he1 he2
          subst he1
          subst he2
          rw [Nat.zero_add] at hcell
          have hfro := World.ownsRow.frozenAt ho' m
          have hst := own_store ho' m (c' + 1)
          obtain ⟨Lo, hso⟩ := own_any ho g m (c' + 1)
          have hbn : Below w1.heap.size w1 (wr.setCell ⟨g, m, none⟩ (.int .u8 ((c' + 1).toNat : Int))) := hb.setCell hg1' _
          have HI := Lib.hid (inc_byte c')
          clear hx
          go_wp2
          rw [HI.out]
          exact ⟨⟨m + 1, _, _, by omega, by go_num, hso, hst, hbn⟩, by simp [intOf]; omega⟩
        · have hg4 := hg1.below hb
          have hr4 := hr1.below hb
          go_wp2_with (first
            | (go_at_call 15; refine (whole_any _ _ A1 A n c1 c l _ hg4 hr4 h1).mono ?_; rintro e w' ⟨rfl, rfl⟩)
            | (go_at_call 9; refine (works_any _).mono ?_; rintro e w5 ⟨rfl, hb5⟩))
          go_ret
          exact ⟨rfl, (hb1.trans (hb.mono hb1.size)).trans (hb5.mono (Nat.le_trans hb1.size hb.size))⟩

theorem walk (A : Option Addr) (n c : Nat) (l : List UInt8) (k : Int) (w : World) (hr : Rd w w.heap.size A n l) (hnc : n ≤ c) :
    Calls Try.prog 6 #[.slice A n c, .int .i64 k] w fun e w' => e = .returned (.bool true) ∧ Below w.heap.size w w' := by
  by_cases h : 65536 < n
  · exact walk_long A n c k w h
  · exact walk_short A n c l k w hr (by omega) hnc

set_option maxRecDepth 100000 in
theorem lifted (os : Os) (started : os.Started) (H : Type) (enc : TypeId × Value → H) :
    ReturnsInHanded {} Try.checked os 6 .any (Rows.octetCutsSpec.pre6 enc Try.prog Try.f6 Rows.octetCutsRow.domain false) (Rows.octetCutsSpec.post enc Try.prog Try.f6 false true false false) := by
  refine returnsInHanded_of_change (C := Try.checked) own started (by kernel_rfl) Try.func6
    (ChangeSpec.witness6 (enc := enc) (C := Try.checked) false ⟨#[], #[.slice none 0 0, .int .i64 0], []⟩ 8 (by kernel_rfl) (by kernel_rfl) (by kernel_rfl) (by kernel_rfl)) ?_
  intro W base args ds gs before hval0 hW hcnd _
  have hval : ∀ (j : Nat) t v, Try.f6.params[j]? = some t → args[j]? = some v → Value.okWide Try.prog W .any base t v := hval0
  have hW' := hW
  obtain ⟨p, q, hA0, hV, rfl, hfz, hnd⟩ := hW
  have hA : DataW.TrodAll enc Try.prog W 0 (fun _ => true) true Try.f6.params.toList args.toList ds p := hA0
  rw [Try.params6] at hA hval
  obtain ⟨v0, vs0, d0, ds0, p0, q0, hargs, rfl, rfl, h0, r0⟩ := trodAll_cons hA
  obtain ⟨v1, vs1, d1, ds1, p1, q1, rfl, rfl, rfl, h1, r1⟩ := trodAll_cons r0
  obtain ⟨rfl, rfl, rfl⟩ := trodAll_nil r1
  obtain rfl : args = #[v0, v1] := by cases args; simp_all
  obtain ⟨rfl, rfl⟩ := trodVars_none hV
  obtain ⟨a1, rfl, rfl, rfl, w1⟩ := open_int Try.underlying3 (hval 1 3 v1 rfl rfl) h1
  clear hA0 hval0
  simp only [List.append_nil] at hW'
  have hlt0 : ∀ x ∈ p0, x.block < W.heap.size := fun x hx => hW'.lt x (by simp [hx])
  obtain ⟨A, n, c, l, rfl, hnc, hcm, hr⟩ := open_bytes (hval 0 22 v0 rfl rfl) h0 hlt0
  refine (walk A n c l a1 W hr hnc).mono fun e W' ⟨he, hb⟩ => ?_
  subst he
  exact ⟨_, rfl, _, _, _, [], _, [], hW', trodAll_mk1 (shut_bool Try.underlying4 _), trodAll_cons_mk (Below.trod laidOut (by kernel_rfl) (of_decide_eq_true (by kernel_rfl)) h0 hb hlt0) (trodAll_cons_mk (shut_int Try.underlying3 w1) trodAll_mk0), rfl, hb.frame _, fun h => by cases h⟩

theorem over : Rows.octetCutsRow.holds Try.pinned (OpenSpec.ofChange Rows.octetCutsSpec) :=
  OpenClaim.holds_of_wide 6 Try.f6 rfl rfl rfl rfl rfl rfl rfl ⟨rfl, rfl, rfl, rfl, rfl⟩ rfl rfl rfl rfl rfl (by kernel_rfl) Try.func6 (by kernel_rfl)
    (of_decide_eq_true (by kernel_rfl)) (by unfold Func.isWrapper; first | (rw [if_pos (by decide +kernel)]; kernel_rfl) | (rw [if_neg (by decide +kernel)]; exact ⟨rfl, rfl⟩))
    (fun os started H enc _ => lifted os started H enc)

/-- The statement. -/
theorem proved : Rows.OctetCutsSaid :=
  over
end Go.Proofs.Ytaennednmkbihaa.octetCuts
