/-
  Plain facts on rows of pieces, and words for a slice of slices and a slice of bools that came in. No condition.
-/
import Derived.Test.YtaennednmkbihaaGuard
import Derived.Test.YtaennednmkbihaaRpiece
import Derived.Deep.Matrix
import Derived.Deep.Grids
namespace Go.Proofs.Ytaennednmkbihaa.Oct
open Go.RowKit

/-- A piece behind its length, which has k bytes. -/
def laid (l : List UInt8) (k : Nat) : List UInt8 := be l.length k ++ l
theorem laid_length (l : List UInt8) (k : Nat) : (laid l k).length = k + l.length := by simp [laid, be_length]

/-- m pieces from number i on, one behind the other. -/
def rf (Z : Nat → List UInt8) (k : Nat → Nat) : Nat → Nat → List UInt8
  | _, 0 => []
  | i, m + 1 => laid (Z i) (k i) ++ rf Z k (i + 1) m

theorem rf_add (Z : Nat → List UInt8) (k : Nat → Nat) : ∀ (m i : Nat), rf Z k i (m + 1) = rf Z k i m ++ laid (Z (i + m)) (k (i + m))
  | 0, i => by simp [rf]
  | m + 1, i => by
    rw [rf, rf_add Z k m (i + 1), rf, List.append_assoc, show i + 1 + m = i + (m + 1) from by omega]

theorem tl_laid (l : List UInt8) (k : Nat) (r : List UInt8) (hk : 1 ≤ k) (hl : l.length ≤ 255) : tl ((laid l k ++ r).take k) = l.length := by
  unfold laid
  rw [List.append_assoc, List.take_append_of_le_length (by rw [be_length]; omega), List.take_of_length_le (by rw [be_length]; omega), tl_be]
  apply Nat.mod_eq_of_lt
  have : (256 : Nat) ^ 1 ≤ 256 ^ k := Nat.pow_le_pow_right (by omega) hk
  omega

theorem good_laid (l : List UInt8) (k : Nat) (r : List UInt8) (hk : k = 1 ∨ k = 4) (hl : l.length ≤ 255) : pgood (laid l k ++ r) (k : Int) := by
  have ht := tl_laid l k r (by omega) hl
  refine ⟨by omega, ?_, ?_, ?_⟩
  · rw [Int.toNat_natCast, List.length_append, laid_length]; omega
  · rw [Int.toNat_natCast, ht]; omega
  · rw [Int.toNat_natCast, ht, List.length_append, laid_length]; omega

theorem ppc_laid (l : List UInt8) (k : Nat) (r : List UInt8) (hk : k = 1 ∨ k = 4) (hl : l.length ≤ 255) : ppc (laid l k ++ r) (k : Int) = l := by
  unfold ppc
  rw [if_pos (good_laid l k r hk hl), Int.toNat_natCast, tl_laid l k r (by omega) hl]
  unfold laid
  rw [List.append_assoc, List.drop_append_of_le_length (by rw [be_length]; omega), List.drop_of_length_le (by rw [be_length]; omega), List.nil_append, List.take_append_of_le_length (by omega), List.take_of_length_le (by omega)]
theorem prs_laid (l : List UInt8) (k : Nat) (r : List UInt8) (hk : k = 1 ∨ k = 4) (hl : l.length ≤ 255) : prs (laid l k ++ r) (k : Int) = r := by
  unfold prs
  rw [if_pos (good_laid l k r hk hl), Int.toNat_natCast, tl_laid l k r (by omega) hl, List.drop_append_of_le_length (by rw [laid_length]; omega), List.drop_of_length_le (by rw [laid_length]; omega), List.nil_append]
theorem perr_laid (l : List UInt8) (k : Nat) (r : List UInt8) (hk : k = 1 ∨ k = 4) (hl : l.length ≤ 255) : perr (laid l k ++ r) (k : Int) = 0 := by
  unfold perr
  rw [if_pos (good_laid l k r hk hl)]
theorem perr_short (l : List UInt8) (k : Nat) (hk : k = 1 ∨ k = 4) (hl : l.length ≤ 255) : perr ((laid l k).take (k + l.length - 1)) (k : Int) = 7 := by
  have hn : ¬ pgood ((laid l k).take (k + l.length - 1)) (k : Int) := by
    rintro ⟨_, h1, _, h3⟩
    rw [Int.toNat_natCast] at h1 h3
    rw [List.length_take, laid_length] at h1 h3
    rw [List.take_take, Nat.min_eq_left (by omega)] at h3
    have ht := tl_laid l k [] (by omega) hl
    rw [List.append_nil] at ht
    rw [ht] at h3
    omega
  unfold perr
  rw [if_neg hn, if_pos (by omega)]

/-- How many bytes tell the length of piece i. -/
def wn (T : Nat → Bool) (n i : Nat) : Nat := if i < n ∧ T i = true then 4 else 1
theorem wn_or (T : Nat → Bool) (n i : Nat) : wn T n i = 1 ∨ wn T n i = 4 := by unfold wn; split <;> simp

/-- A slice of n slices of bytes that came in. -/
def Ps (w : World) (B : Nat) (A : Option Addr) (n : Nat) (F : Nat → Option Addr) (L C : Nat → Nat) (Z : Nat → List UInt8) : Prop :=
  ∀ r, r < n → ∃ b o, A = some ⟨b, o, none⟩ ∧ b < B ∧ w.cell? ⟨b, o + r, none⟩ = some (.slice (F r) (L r) (C r)) ∧ L r ≤ C r ∧ Rd w B (F r) (L r) (Z r)
/-- A slice of n bools that came in. -/
def Bs (w : World) (B : Nat) (A : Option Addr) (n : Nat) (T : Nat → Bool) : Prop :=
  ∀ r, r < n → ∃ b o, A = some ⟨b, o, none⟩ ∧ b < B ∧ w.cell? ⟨b, o + r, none⟩ = some (.bool (T r))

theorem Ps.below {w w' : World} {B : Nat} {A : Option Addr} {n : Nat} {F : Nat → Option Addr} {L C : Nat → Nat} {Z : Nat → List UInt8} (h : Ps w B A n F L C Z) (hb : Below B w w') : Ps w' B A n F L C Z := fun r hr => by
  obtain ⟨b, o, e, h1, h2, h3, h4⟩ := h r hr
  exact ⟨b, o, e, h1, (hb.cell (p := ⟨b, o + r, none⟩) h1).trans h2, h3, h4.below hb⟩
theorem Bs.below {w w' : World} {B : Nat} {A : Option Addr} {n : Nat} {T : Nat → Bool} (h : Bs w B A n T) (hb : Below B w w') : Bs w' B A n T := fun r hr => by
  obtain ⟨b, o, e, h1, h2⟩ := h r hr
  exact ⟨b, o, e, h1, (hb.cell (p := ⟨b, o + r, none⟩) h1).trans h2⟩

theorem wide_any (B : Nat) (A : Option Addr) (n c i : Nat) (T : Nat → Bool) (w : World) (h : Bs w B A n T) :
    Calls Try.prog 22 #[.slice A n c, .int .i64 i] w fun e w' => e = .returned (.int .i64 (wn T n i : Nat)) ∧ w = w' := by
  by_cases hlt : i < n
  · obtain ⟨b, o, rfl, hb, hc⟩ := h i hlt
    have dl : decide (i < n) = true := by simpa using hlt
    cases hT : T i with
    | true =>
      have e : wn T n i = 4 := by unfold wn; rw [if_pos ⟨hlt, hT⟩]
      rw [e]
      rw [hT] at hc
      clear e hT
      go_enter Try.func22, Try.ntmps22
      go_wp2
      go_ret
      exact ⟨rfl, rfl⟩
    | false =>
      have e : wn T n i = 1 := by unfold wn; rw [if_neg (by simp [hT])]
      rw [e]
      rw [hT] at hc
      clear e hT
      go_enter Try.func22, Try.ntmps22
      go_wp2
      go_ret
      exact ⟨rfl, rfl⟩
  · have e : wn T n i = 1 := by unfold wn; rw [if_neg (fun h => hlt h.1)]
    rw [e]
    have dl : decide (i < n) = false := by simpa using hlt
    clear e
    go_enter Try.func22, Try.ntmps22
    go_wp2
    go_ret
    exact ⟨rfl, rfl⟩

theorem cells22 : Try.prog.cellsOf 22 = 1 := by kernel_rfl
theorem cells4 : Try.prog.cellsOf 4 = 1 := by kernel_rfl

section
open Go.ChangeShapes Go.WideShapes Go.ChangeAt Go.Deep
variable {H : Type} {enc : TypeId × Value → H}
theorem open_long {W : World} {r : Reach} {b0 : Nat} {v : Value} {d : DataW H} {p : List MemPlace} (hval : Value.okWide Try.prog W r b0 42 v) (h : DataW.Trod enc Try.prog W 0 (fun _ => true) true 42 v d p) (hlt : ∀ x ∈ p, x.block < W.heap.size) :
    ∃ A n c T, v = .slice A n c ∧ n ≤ c ∧ c ≤ maxLen ∧ Bs W W.heap.size A n T := by
  obtain ⟨a0, len, cap, rfl⟩ := okWide_slice Try.underlying42 hval
  obtain ⟨fuel, hf⟩ := h
  rcases open_bools Try.underlying42 Try.underlying4 cells4 hf with ⟨hcs, hx⟩ | ⟨a, len', cap', B, hcs, _, hl, hm, hx, hcell⟩
  · simp [Value.cells] at hcs
    obtain ⟨rfl, rfl, rfl⟩ := hcs
    exact ⟨none, 0, 0, fun _ => false, rfl, Nat.le_refl _, by unfold maxLen; omega, fun r hr => absurd hr (by omega)⟩
  · simp [Value.cells] at hcs
    obtain ⟨rfl, rfl, rfl⟩ := hcs
    simp only [Prod.mk.injEq] at hx
    obtain ⟨rfl, rfl⟩ := hx
    refine ⟨some a, len, cap, B, rfl, hl, hm, fun r hr => ?_⟩
    obtain ⟨b, off, spot⟩ := a
    have hspot : spot = none := by simpa [Addr.add] using World.cell?_spot (hcell 0 (by omega))
    subst hspot
    refine ⟨b, off, rfl, hlt (.cell b off) (MemPlace.mem_row.2 ⟨0, by omega, by simp⟩), ?_⟩
    have := hcell r (by omega)
    rwa [add_plain] at this

theorem open_pieces {W : World} {r : Reach} {b0 : Nat} {v : Value} {d : DataW H} {p : List MemPlace} (hval : Value.okWide Try.prog W r b0 41 v) (h : DataW.Trod enc Try.prog W 0 (fun _ => true) true 41 v d p) (hlt : ∀ x ∈ p, x.block < W.heap.size) :
    ∃ A n c F L C Z, v = .slice A n c ∧ n ≤ c ∧ c ≤ maxLen ∧ Ps W W.heap.size A n F L C Z := by
  obtain ⟨a0, len, cap, rfl⟩ := okWide_slice Try.underlying41 hval
  obtain ⟨fuel, hf⟩ := h
  rcases open_int_rows Try.underlying41 Try.underlying22 Try.underlying5 cells22 cells5 hf with ⟨hcs, hx⟩ | ⟨a, len', cap', A, L, C, Z, hcs, _, hl, hm, hx, hcell⟩
  · simp [Value.cells] at hcs
    obtain ⟨rfl, rfl, rfl⟩ := hcs
    exact ⟨none, 0, 0, fun _ => none, fun _ => 0, fun _ => 0, fun _ => [], rfl, Nat.le_refl _, by unfold maxLen; omega, fun r hr => absurd hr (by omega)⟩
  · simp [Value.cells] at hcs
    obtain ⟨rfl, rfl, rfl⟩ := hcs
    simp only [Prod.mk.injEq] at hx
    obtain ⟨rfl, rfl⟩ := hx
    refine ⟨some a, len, cap, A, L, C, fun r => ((Z r).take (L r)).map fun z => UInt8.ofNat z.toNat, rfl, hl, hm, fun r hr => ?_⟩
    obtain ⟨hc, hLC, hCm, hZ, hwf, hnil, hin⟩ := hcell r (by omega)
    obtain ⟨b, off, spot⟩ := a
    have hspot : spot = none := by simpa [Addr.add] using World.cell?_spot (hcell 0 (by omega)).1
    subst hspot
    rw [add_plain] at hc
    refine ⟨b, off, rfl, hlt (.cell b off) (List.mem_append_left _ (MemPlace.mem_row.2 ⟨0, by omega, by simp⟩)), hc, hLC, by simp; omega, fun hn => ?_⟩
    cases hA : A r with
    | none => have := hnil hA; omega
    | some a' =>
      obtain ⟨_, hcells⟩ := hin a' hA
      obtain ⟨b', off', spot'⟩ := a'
      have hspot' : spot' = none := by simpa [Addr.add] using World.cell?_spot (hcells 0 (by omega))
      subst hspot'
      refine ⟨b', off', rfl, hlt (.cell b' off') (List.mem_append_right _ (List.mem_flatMap.2 ⟨r, List.mem_range.2 (by omega), ?_⟩)), fun k hk => ?_⟩
      · simp only [intRowPlaces, hA]
        exact MemPlace.mem_row.2 ⟨0, by omega, by simp⟩
      · have hk' : k < L r := by simp at hk; omega
        have hkz : k < (Z r).length := by omega
        have := hcells k (by omega)
        rw [add_plain] at this
        rw [this, List.getD_eq_getElem?_getD, List.getElem?_eq_getElem hkz, Option.getD_some, List.getElem_map, List.getElem_take]
        exact congrArg (fun z => some (Value.int IntKind.u8 z)) (u8_of_wf (hwf _ (List.getElem_mem hkz)))
end
end Go.Proofs.Ytaennednmkbihaa.Oct
