/-
  The statement IntakePlays: whatever comes, in whatever pieces, every answer is the document's; what is handed in and out is nobody else's; of any input the law answers true, and the input stays. No condition.
-/
import Derived.Test.YtdjncacknmejoaaIplX
import Derived.Test.YtdjncacknmejoaaIar
import Derived.SizedLaws
namespace Go.Proofs.Ytdjncacknmejoaa.intakePlays
open Go.ChangeShapes Go.WideShapes Go.ChangeAt Go.RowKit Go.Deep Go.Proofs.Ytdjncacknmejoaa.Utf Go.Proofs.Ytdjncacknmejoaa.Fr Go.Proofs.Ytdjncacknmejoaa.It

set_option maxRecDepth 100000
section
variable {H : Type} {enc : TypeId × Value → H}
theorem weights_all {P : Program} {e : TypeId} {d : DataW H} : ∀ {ds : List (DataW H)}, d ∈ ds → ∀ n ∈ d.weights P e, n ∈ DataW.weightsAll P e ds
  | d0 :: ds, h, n, hn => by
    simp only [DataW.weightsAll, List.mem_append]
    rcases List.mem_cons.1 h with h | h
    · subst h; exact .inl hn
    · exact .inr (weights_all h n hn)
theorem open_sized {W : World} {r : Reach} {b0 : Nat} {v : Value} {d : DataW H} {p : List MemPlace} (hval : Value.okWide Try.prog W r b0 23 v) (h : DataW.Trod enc Try.prog W 0 (fun _ => true) true 23 v d p) (hlt : ∀ x ∈ p, x.block < W.heap.size) (hw : ∀ n ∈ d.weights Try.prog 23, n ≤ reachBytes) :
    ∃ A n c F L C Z, v = .slice A n c ∧ n ≤ c ∧ c ≤ maxLen ∧ Ps W W.heap.size A n F L C Z ∧ ∀ r, r < n → C r ≤ reachBytes := by
  obtain ⟨a0, len, cap, rfl⟩ := okWide_slice Try.underlying23 hval
  obtain ⟨fuel, hf⟩ := h
  rcases open_int_rows Try.underlying23 Try.underlying24 Try.underlying5 cells23 cells5 hf with ⟨hcs, hx⟩ | ⟨a, len', cap', A, L, C, Z, hcs, _, hl, hm, hx, hcell⟩
  · simp [Value.cells] at hcs
    obtain ⟨rfl, rfl, rfl⟩ := hcs
    exact ⟨none, 0, 0, fun _ => none, fun _ => 0, fun _ => 0, fun _ => [], rfl, Nat.le_refl _, by unfold maxLen; omega, fun r hr => absurd hr (by omega), fun r hr => absurd hr (by omega)⟩
  · simp [Value.cells] at hcs
    obtain ⟨rfl, rfl, rfl⟩ := hcs
    simp only [Prod.mk.injEq] at hx
    obtain ⟨rfl, rfl⟩ := hx
    refine ⟨some a, len, cap, A, L, C, fun r => ((Z r).take (L r)).map fun z => z.toNat, rfl, hl, hm, fun r hr => ?_, fun r hr => ?_⟩
    rotate_left
    · obtain ⟨hc, hLC, hCm, hZ, hwf, hnil, hin⟩ := hcell r (by omega)
      cases hA : A r with
      | none => rw [hnil hA]; exact Nat.zero_le _
      | some a' =>
        rw [← hZ]
        refine hw _ ?_
        simp only [DataW.weights, Try.underlying23]
        refine List.mem_cons_of_mem _ (List.mem_append_left _ (weights_all (d := intRow .u8 (A r) (L r) (Z r)) (List.mem_map.2 ⟨r, List.mem_range.2 hr, rfl⟩) _ ?_))
        rw [hA]
        have hb1 : Try.prog.bytesOf 5 = 1 := by kernel_rfl
        have hlen : ((lits .u8 ((Z r).take (L r)) : List (DataW H)).length + (lits .u8 ((Z r).drop (L r)) : List (DataW H)).length) * Try.prog.bytesOf 5 = (Z r).length := by
          simp [lits, hb1]
          omega
        simp only [intRow, DataW.weights, Try.underlying24]
        rw [hlen]
        exact List.mem_cons_self
    obtain ⟨hc, hLC, hCm, hZ, hwf, hnil, hin⟩ := hcell r (by omega)
    obtain ⟨b, off, spot⟩ := a
    have hspot : spot = none := by simpa [Addr.add] using World.cell?_spot (hcell 0 (by omega)).1
    subst hspot
    rw [add_plain] at hc
    refine ⟨b, off, rfl, hlt (.cell b off) (List.mem_append_left _ (MemPlace.mem_row.2 ⟨0, by omega, by simp⟩)), hc, hLC, by simp; omega, ?_, fun hn => ?_⟩
    · intro x hx
      obtain ⟨z, hz', rfl⟩ := List.mem_map.1 hx
      exact (u8_of_wf (hwf z (List.mem_of_mem_take hz'))).2
    cases hA : A r with
    | none => have := hnil hA; omega
    | some a' =>
      obtain ⟨_, hcells⟩ := hin a' hA
      obtain ⟨b', off', spot'⟩ := a'
      have hspot' : spot' = none := by simpa [Addr.add] using World.cell?_spot (hcells 0 (by omega))
      subst hspot'
      refine ⟨b', off', rfl, hlt (.cell b' off') (List.mem_append_right _ (List.mem_flatMap.2 ⟨r, List.mem_range.2 (by omega), ?_⟩)), fun k hk => ?_⟩
      · simp only [intRowPlaces, hA]
        exact MemPlace.mem_row.2 ⟨0, by omega, by simp⟩
      · have hk' : k < L r := by simp at hk; omega
        have hkz : k < (Z r).length := by omega
        have := hcells k (by omega)
        rw [add_plain] at this
        rw [this, List.getD_eq_getElem?_getD, List.getElem?_eq_getElem hkz, Option.getD_some, List.getElem_map, List.getElem_take]
        have h0 := (u8_of_wf (hwf _ (List.getElem_mem hkz))).1
        rw [Int.toNat_of_nonneg h0]
end
theorem walk (size : Nat) (A : Option Addr) (n c : Nat) (F : Nat → Option Addr) (L C : Nat → Nat) (Z : Nat → List Nat) (Q : Option Addr) (nq cq : Nat) (q : List Nat) (w : World) (hs : size < 4294967296) (hP : Ps w w.heap.size A n F L C Z) (hn : n ≤ 9223372036854775807) (hL : ∀ r, r < n → L r ≤ 140737488355328) (hq : Rd .u8 256 w w.heap.size Q nq q) :
    Calls Try.prog 3 #[.int .u32 (size : Int), .slice A n c, .slice Q nq cq] w fun e w' => e = .returned (.bool true) ∧ Below w.heap.size w w' := by
  by_cases hM : 512 ≤ size ∧ size ≤ 4096
  · exact walk_yes size A n c F L C Z Q nq cq q w hP hn hL hq hM.1 hM.2
  · exact walk_no size A n c F L C Z Q nq cq w hs hP hn hL hM
set_option maxRecDepth 100000 in
theorem lifted (os : Os) (started : os.Started) (H : Type) (enc : TypeId × Value → H) :
    ReturnsInHanded {} Try.checked os 3 .any (Rows.intakePlaysSpec.pre6 enc Try.prog Try.f3 Rows.intakePlaysRow.domain false) (Rows.intakePlaysSpec.post enc Try.prog Try.f3 false true false false) := by
  refine returnsInHanded_of_change_sized (C := Try.checked) own started (by kernel_rfl) Try.func3
    (ChangeSpec.witness6 (enc := enc) (C := Try.checked) false ⟨#[], #[.int .u32 0, .slice none 0 0, .slice none 0 0], []⟩ 8 (by kernel_rfl) (by kernel_rfl) (by kernel_rfl) (by kernel_rfl)) ?_
  intro W base args ds gs before hval0 hW hcnd hz _
  have hval : ∀ (j : Nat) t v, Try.f3.params[j]? = some t → args[j]? = some v → Value.okWide Try.prog W .any base t v := hval0
  have hW' := hW
  obtain ⟨p, q, hA0, hV, rfl, hfz, hnd⟩ := hW
  have hA : DataW.TrodAll enc Try.prog W 0 (fun _ => true) true Try.f3.params.toList args.toList ds p := hA0
  rw [Try.params3] at hA hval
  obtain ⟨v0, vs0, d0, ds0, p0, q0, hargs, rfl, rfl, h0, r0⟩ := trodAll_cons hA
  obtain ⟨v1, vs1, d1, ds1, p1, q1, rfl, rfl, rfl, h1, r1⟩ := trodAll_cons r0
  obtain ⟨v2, vs2, d2, ds2, p2, q2, rfl, rfl, rfl, h2, r2⟩ := trodAll_cons r1
  obtain ⟨rfl, rfl, rfl⟩ := trodAll_nil r2
  obtain rfl : args = #[v0, v1, v2] := by cases args; simp_all
  obtain ⟨rfl, rfl⟩ := trodVars_none hV
  clear hA0 hval0
  simp only [List.append_nil] at hW'
  obtain ⟨a0, rfl, rfl, rfl, w0⟩ := open_int Try.underlying22 (hval 0 22 v0 rfl rfl) h0
  have b0 : 0 ≤ a0 ∧ a0 < 4294967296 := by have := w0; simp [Lit.wf, IntKind.min, IntKind.max, IntKind.signed, IntKind.bits] at this; omega
  obtain ⟨X0, rfl⟩ := Int.eq_ofNat_of_zero_le b0.1
  have hlt1 : ∀ x ∈ p1, x.block < W.heap.size := fun x hx => hW'.lt x (by simp [hx])
  have hw1 : ∀ n ∈ d1.weights Try.prog 23, n ≤ reachBytes := fun n hn => by
    have := List.all_eq_true.1 hz _ (DataW.weights_mem_each (j := 1) (t := 23) (d := d1) rfl rfl n hn)
    simpa using this
  obtain ⟨A1, l1, c1, F1, L1, C1, Z1, rfl, hc1, hm1, hr1, hC1⟩ := open_sized (hval 1 23 v1 rfl rfl) h1 hlt1 hw1
  have hlt2 : ∀ x ∈ p2, x.block < W.heap.size := fun x hx => hW'.lt x (by simp [hx])
  obtain ⟨A2, l2, c2, b2, rfl, hc2, hm2, hr2⟩ := open_nums (K := .u8) (M := 256) Try.underlying24 Try.underlying5 cells5 (fun _ => u8_of_wf) (hval 2 24 _ rfl rfl) h2 hlt2
  refine (walk X0 A1 l1 c1 F1 L1 C1 Z1 A2 l2 c2 b2 W (by omega) hr1 (by unfold maxLen at hm1; omega) (fun r hr => by obtain ⟨_, _, _, _, _, hLC, _⟩ := hr1 r hr; have := hC1 r hr; have := reachBytes_lt; omega) hr2).mono fun e W' ⟨he, hb⟩ => ?_
  subst he
  exact ⟨_, rfl, _, _, _, [], _, [], hW', trodAll_mk1 (shut_bool Try.underlying4 _), trodAll_cons_mk (shut_int Try.underlying22 w0) (trodAll_cons_mk (Below.trod laidOut (by kernel_rfl) (of_decide_eq_true (by kernel_rfl)) h1 hb hlt1) (trodAll_cons_mk (Below.trod laidOut (by kernel_rfl) (of_decide_eq_true (by kernel_rfl)) h2 hb hlt2) trodAll_mk0)), rfl, hb.frame _, fun h => by cases h⟩

theorem over : Rows.intakePlaysRow.holds Try.pinned (OpenSpec.ofChange Rows.intakePlaysSpec) :=
  OpenClaim.holds_of_wide 3 Try.f3 rfl rfl rfl rfl rfl rfl rfl ⟨rfl, rfl, rfl, rfl, rfl⟩ rfl rfl rfl rfl rfl (by kernel_rfl) Try.func3 (by kernel_rfl)
    (of_decide_eq_true (by kernel_rfl)) (by unfold Func.isWrapper; first | (rw [if_pos (by decide +kernel)]; kernel_rfl) | (rw [if_neg (by decide +kernel)]; exact ⟨rfl, rfl⟩))
    (fun os started H enc _ => lifted os started H enc)

/-- The statement. -/
theorem proved : Rows.IntakePlaysSaid :=
  over
end Go.Proofs.Ytdjncacknmejoaa.intakePlays
