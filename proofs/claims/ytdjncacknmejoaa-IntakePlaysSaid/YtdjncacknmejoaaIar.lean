/-
  Arguments of the laws of layer 12, opened: rows of rows of bytes, rows of numbers of 16 bits. No condition.
-/
import Derived.Test.YtdjncacknmejoaaFrg
namespace Go.Proofs.Ytdjncacknmejoaa.It
set_option maxRecDepth 100000
open Go.ChangeShapes Go.WideShapes Go.ChangeAt Go.RowKit Go.Deep Go.Proofs.Ytdjncacknmejoaa.Utf Go.Proofs.Ytdjncacknmejoaa.Fr

section
variable {H : Type} {enc : TypeId × Value → H}
/-- Many bytes in memory: of each its slice, and how it reads. -/
def Ps (w : World) (B : Nat) (A : Option Addr) (n : Nat) (F : Nat → Option Addr) (L C : Nat → Nat) (Z : Nat → List Nat) : Prop :=
  ∀ r, r < n → ∃ b o, A = some ⟨b, o, none⟩ ∧ b < B ∧ w.cell? ⟨b, o + r, none⟩ = some (.slice (F r) (L r) (C r)) ∧ L r ≤ C r ∧ Rd .u8 256 w B (F r) (L r) (Z r)
theorem Ps.below {w w' : World} {B : Nat} {A : Option Addr} {n : Nat} {F : Nat → Option Addr} {L C : Nat → Nat} {Z : Nat → List Nat} (h : Ps w B A n F L C Z) (hb : Below B w w') : Ps w' B A n F L C Z := fun r hr => by
  obtain ⟨b, o, e, hbB, hc, hl, hr'⟩ := h r hr
  exact ⟨b, o, e, hbB, (hb.cell (p := ⟨b, o + r, none⟩) hbB).trans hc, hl, hr'.below hb⟩
theorem cells23 : Try.prog.cellsOf 24 = 1 := by kernel_rfl
theorem open_parts {W : World} {r : Reach} {b0 : Nat} {v : Value} {d : DataW H} {p : List MemPlace} (hval : Value.okWide Try.prog W r b0 23 v) (h : DataW.Trod enc Try.prog W 0 (fun _ => true) true 23 v d p) (hlt : ∀ x ∈ p, x.block < W.heap.size) :
    ∃ A n c F L C Z, v = .slice A n c ∧ n ≤ c ∧ c ≤ maxLen ∧ Ps W W.heap.size A n F L C Z ∧ ∀ r, r < n → C r ≤ maxLen := by
  obtain ⟨a0, len, cap, rfl⟩ := okWide_slice Try.underlying23 hval
  obtain ⟨fuel, hf⟩ := h
  rcases open_int_rows Try.underlying23 Try.underlying24 Try.underlying5 cells23 cells5 hf with ⟨hcs, hx⟩ | ⟨a, len', cap', A, L, C, Z, hcs, _, hl, hm, hx, hcell⟩
  · simp [Value.cells] at hcs
    obtain ⟨rfl, rfl, rfl⟩ := hcs
    exact ⟨none, 0, 0, fun _ => none, fun _ => 0, fun _ => 0, fun _ => [], rfl, Nat.le_refl _, by unfold maxLen; omega, fun r hr => absurd hr (by omega), fun r hr => absurd hr (by omega)⟩
  · simp [Value.cells] at hcs
    obtain ⟨rfl, rfl, rfl⟩ := hcs
    simp only [Prod.mk.injEq] at hx
    obtain ⟨rfl, rfl⟩ := hx
    refine ⟨some a, len, cap, A, L, C, fun r => ((Z r).take (L r)).map fun z => z.toNat, rfl, hl, hm, fun r hr => ?_, fun r hr => (hcell r (by omega)).2.2.1⟩
    obtain ⟨hc, hLC, hCm, hZ, hwf, hnil, hin⟩ := hcell r (by omega)
    obtain ⟨b, off, spot⟩ := a
    have hspot : spot = none := by simpa [Addr.add] using World.cell?_spot (hcell 0 (by omega)).1
    subst hspot
    rw [add_plain] at hc
    refine ⟨b, off, rfl, hlt (.cell b off) (List.mem_append_left _ (MemPlace.mem_row.2 ⟨0, by omega, by simp⟩)), hc, hLC, by simp; omega, ?_, fun hn => ?_⟩
    · intro x hx
      obtain ⟨z, hz', rfl⟩ := List.mem_map.1 hx
      exact (u8_of_wf (hwf z (List.mem_of_mem_take hz'))).2
    cases hA : A r with
    | none => have := hnil hA; omega
    | some a' =>
      obtain ⟨_, hcells⟩ := hin a' hA
      obtain ⟨b', off', spot'⟩ := a'
      have hspot' : spot' = none := by simpa [Addr.add] using World.cell?_spot (hcells 0 (by omega))
      subst hspot'
      refine ⟨b', off', rfl, hlt (.cell b' off') (List.mem_append_right _ (List.mem_flatMap.2 ⟨r, List.mem_range.2 (by omega), ?_⟩)), fun k hk => ?_⟩
      · simp only [intRowPlaces, hA]
        exact MemPlace.mem_row.2 ⟨0, by omega, by simp⟩
      · have hk' : k < L r := by simp at hk; omega
        have hkz : k < (Z r).length := by omega
        have := hcells k (by omega)
        rw [add_plain] at this
        rw [this, List.getD_eq_getElem?_getD, List.getElem?_eq_getElem hkz, Option.getD_some, List.getElem_map, List.getElem_take]
        have h0 := (u8_of_wf (hwf _ (List.getElem_mem hkz))).1
        rw [Int.toNat_of_nonneg h0]
theorem cells37 : Try.prog.cellsOf 37 = 1 := by kernel_rfl
theorem u16_of_wf {z : Int} (h : (Lit.int .u16 z).wf = true) : 0 ≤ z ∧ z.toNat < 65536 := by
  have : 0 ≤ z ∧ z ≤ 65535 := by simpa [Lit.wf, IntKind.min, IntKind.max, IntKind.signed, IntKind.bits] using h
  omega
end
end Go.Proofs.Ytdjncacknmejoaa.It
