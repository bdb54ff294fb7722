/-
  Arguments of type api.Outcome, opened. No condition.
-/
import Derived.Test.YtohmnbefokhjpaaDoorOpen
import Derived.Test.YtohmnbefokhjpaaDoorOci
namespace Go.Proofs.YtohmnbefokhjpaaDoor.Oc
set_option maxRecDepth 100000
open Go.ChangeShapes Go.WideShapes Go.ChangeAt Go.RowKit Go.Proofs.YtohmnbefokhjpaaDoor.Utf Go.Proofs.YtohmnbefokhjpaaDoor.Val V
variable {H : Type} {enc : TypeId × Value → H}

theorem open_out_of {W : World} {fuel : Nat} {cs : List Value} {x : DataW H × List MemPlace} (h : DataW.trod enc Tryd.prog W 0 (fun _ => true) true fuel 24 cs = some x) :
    ∃ (k a b : Nat) (s : ByteArray), cs = [.int .u8 k, .int .u64 a, .int .u64 b, .string s] ∧ k < 256 ∧ a < 18446744073709551616 ∧ b < 18446744073709551616 ∧ s.size ≤ Rows.uptoBulk x.1 := by
  obtain ⟨xs, m, rfl, rfl, hl, hlen, hf⟩ := DataW.trod_struct Tryd.underlying24 h
  match xs, hlen with
  | [y0, y1, y2, y3], _ =>
    have h0 := hf 0 _ rfl
    have h1 := hf 1 _ rfl
    have h2 := hf 2 _ rfl
    have h3 := hf 3 _ rfl
    rw [show Tryd.prog.cellsOf 24 = 4 by kernel_rfl] at hl
    match cs, hl with
    | [c0, c1, c2, c3], _ =>
      have e0 : ((List.drop 0 [c0, c1, c2, c3]).take (Tryd.prog.cellsOf 5)) = [c0] := by rw [show Tryd.prog.cellsOf 5 = 1 by kernel_rfl]; rfl
      have e1 : ((List.drop 1 [c0, c1, c2, c3]).take (Tryd.prog.cellsOf 22)) = [c1] := by rw [show Tryd.prog.cellsOf 22 = 1 by kernel_rfl]; rfl
      have e2 : ((List.drop 2 [c0, c1, c2, c3]).take (Tryd.prog.cellsOf 22)) = [c2] := by rw [show Tryd.prog.cellsOf 22 = 1 by kernel_rfl]; rfl
      have e3 : ((List.drop 3 [c0, c1, c2, c3]).take (Tryd.prog.cellsOf 9)) = [c3] := by rw [show Tryd.prog.cellsOf 9 = 1 by kernel_rfl]; rfl
      have g0 : DataW.trod enc Tryd.prog W 0 (fun _ => true) true m 5 [c0] = some y0 := by rw [← e0]; exact h0
      have g1 : DataW.trod enc Tryd.prog W 0 (fun _ => true) true m 22 [c1] = some y1 := by rw [← e1]; exact h1
      have g2 : DataW.trod enc Tryd.prog W 0 (fun _ => true) true m 22 [c2] = some y2 := by rw [← e2]; exact h2
      have g3 : DataW.trod enc Tryd.prog W 0 (fun _ => true) true m 9 [c3] = some y3 := by rw [← e3]; exact h3
      obtain ⟨k, hk, rfl, wk⟩ := DataW.trod_int Tryd.underlying5 g0
      obtain ⟨u, hu, rfl, wu⟩ := DataW.trod_int Tryd.underlying22 g1
      obtain ⟨z, hz, rfl, wz⟩ := DataW.trod_int Tryd.underlying22 g2
      obtain ⟨t, ht, rfl, _⟩ := DataW.trod_string under9 g3
      have bk : 0 ≤ k ∧ k < 256 := by simp [Lit.wf, IntKind.min, IntKind.max, IntKind.signed, IntKind.bits] at wk; omega
      have bu : 0 ≤ u ∧ u < 18446744073709551616 := by simp [Lit.wf, IntKind.min, IntKind.max, IntKind.signed, IntKind.bits] at wu; omega
      have bz : 0 ≤ z ∧ z < 18446744073709551616 := by simp [Lit.wf, IntKind.min, IntKind.max, IntKind.signed, IntKind.bits] at wz; omega
      obtain ⟨k', rfl⟩ := Int.eq_ofNat_of_zero_le bk.1
      obtain ⟨u', rfl⟩ := Int.eq_ofNat_of_zero_le bu.1
      obtain ⟨z', rfl⟩ := Int.eq_ofNat_of_zero_le bz.1
      simp only [List.cons.injEq, and_true] at hk hu hz ht
      subst hk hu hz ht
      refine ⟨k', u', z', t, rfl, by omega, by omega, by omega, ?_⟩
      simp only [List.map_cons, List.map_nil, Rows.uptoBulk, Rows.uptoBulkAll]
      simp
      omega
/-- An argument api.Outcome. -/
theorem open_out {W : World} {r : Reach} {b0 : Nat} {v : Value} {d : DataW H} {p : List MemPlace} (hval : Value.okWide Tryd.prog W r b0 24 v) (h : DataW.Trod enc Tryd.prog W 0 (fun _ => true) true 24 v d p) :
    ∃ (k a b : Nat) (s : ByteArray), v = .agg #[.int .u8 k, .int .u64 a, .int .u64 b, .string s] ∧ k < 256 ∧ a < 18446744073709551616 ∧ b < 18446744073709551616 ∧ s.size ≤ Rows.uptoBulk d := by
  obtain ⟨cs, rfl, hsz⟩ := okWide_struct Tryd.underlying24 hval
  obtain ⟨fuel, hf⟩ := h
  obtain ⟨k, a, b, s, hcs, hk, ha, hb, hs⟩ := open_out_of hf
  simp only [Value.cells] at hcs
  refine ⟨k, a, b, s, ?_, hk, ha, hb, hs⟩
  congr 1
  cases cs
  simp at hcs
  simp [hcs]
end Go.Proofs.YtohmnbefokhjpaaDoor.Oc
