/-
  The statement IntakePlays, walked: it answers true. Memory that was there stays. Condition: slices of less than 2^47 bytes.
-/
import Derived.Test.YtdjncacknmejoaaIxf
import Derived.Test.YtdjncacknmejoaaRm
import Derived.Test.YtdjncacknmejoaaIar
import Derived.Deep.CutRange
namespace Go.Proofs.Ytdjncacknmejoaa.intakePlays
set_option maxRecDepth 100000
open Go.RowKit Go.Proofs.Ytdjncacknmejoaa.Utf Go.Proofs.Ytdjncacknmejoaa.Enc Go.Proofs.Ytdjncacknmejoaa.Fr Go.Proofs.Ytdjncacknmejoaa.It

def sumL (L : Nat → Nat) : Nat → Nat
  | 0 => 0
  | j + 1 => sumL L j + L j
theorem sumL_le {L : Nat → Nat} {M : Nat} : ∀ {n : Nat}, (∀ r, r < n → L r ≤ M) → sumL L n ≤ n * M
  | 0, _ => by simp [sumL]
  | n + 1, h => by
    have h1 := sumL_le (n := n) fun r hr => h r (by omega)
    have h2 := h n (by omega)
    rw [Nat.succ_mul]
    unfold sumL
    omega
theorem le_sumL {L : Nat → Nat} : ∀ {n r : Nat}, r < n → L r ≤ sumL L n
  | 0, _, h => by omega
  | n + 1, r, h => by
    unfold sumL
    by_cases he : r = n
    · subst he; omega
    · have := le_sumL (L := L) (n := n) (r := r) (by omega)
      omega
/-- Large: where it says no, no piece is long. -/
def SaysL (n : Nat) (L : Nat → Nat) (w : World) (e : Ending) (w' : World) : Prop := (∃ b : Bool, e = .returned (.bool b) ∧ (b = false → ∀ r, r < n → L r ≤ 8192)) ∧ w = w'
theorem large_plays (A : Option Addr) (n c : Nat) (F : Nat → Option Addr) (L C : Nat → Nat) (Z : Nat → List Nat) (w : World) (hP : Ps w w.heap.size A n F L C Z) (hn : n ≤ 9223372036854775807) (hL : ∀ r, r < n → L r ≤ 140737488355328) :
    Calls Try.prog 9 #[.slice A n c] w (SaysL n L w) := by
  have HP := Lib.hid hP
  have HL := Lib.hid hL
  clear hP hL
  go_enter Try.func9, Try.ntmps9
  go_wp2
  go_loopw [3, 4] (fun s i wr => ∃ (j : Nat) (z : Int), j ≤ n ∧ i = .int .i64 (j : Int) ∧ s = .int .i64 z ∧ Hid (j ≤ 400 → z = (sumL L j : Int)) ∧ w = wr) (fun _ i _ => n - (intOf i).toNat)
  case atStart => exact ⟨0, 0, by omega, rfl, rfl, Lib.hid fun _ => rfl, rfl⟩
  case round =>
    obtain ⟨j, z, hj, rfl, rfl, hz, rfl⟩ := hrel
    by_cases hlt : j < n
    · obtain ⟨b, o, rfl, hb, hc, hl, hr⟩ := HP.out j hlt
      have d1 : decide ((j : Int) < (n : Int)) = true := by simp; omega
      have i0 : (0 : Int) ≤ (j : Int) := by omega
      have i1 : (j : Int) < (n : Int) := by omega
      have HJ := Lib.hid (show j + 1 ≤ n by omega)
      have hz' : Hid (j + 1 ≤ 400 → wrap64 (z + (L j : Int)) = (sumL L (j + 1) : Int)) := Lib.hid fun h => by
        have h1 := hz.out (by omega)
        have h2 := sumL_le (L := L) (n := j) (M := 140737488355328) fun r hr => HL.out r (by omega)
        have h3 := HL.out j (by omega)
        have h4 : j * 140737488355328 ≤ 400 * 140737488355328 := Nat.mul_le_mul_right _ (by omega)
        rw [h1]
        show wrap64 ((sumL L j : Int) + (L j : Int)) = ((sumL L j + L j : Nat) : Int)
        unfold wrap64
        omega
      clear hr
      go_wp2
      go_roundw
      case rel => exact ⟨j + 1, _, HJ.out, by go_num, rfl, hz', trivial⟩
      case measure => simp [intOf]; omega
    · obtain rfl : j = n := by omega
      have d1 : decide ((j : Int) < (j : Int)) = false := by simp
      by_cases h1 : 8192 < z
      · have d2 : decide (8192 < z) = true := by simpa using h1
        go_wp2
        all_goals
          go_ret
          exact ⟨⟨true, rfl, fun h => by cases h⟩, rfl⟩
      · have d2 : decide (8192 < z) = false := by simpa using h1
        by_cases h2 : 400 < j
        · have d3 : decide (400 < (j : Int)) = true := by simp; omega
          clear h2
          go_wp2
          all_goals
            go_ret
            exact ⟨⟨true, rfl, fun h => by cases h⟩, rfl⟩
        · have d3 : decide (400 < (j : Int)) = false := by simp; omega
          have HF : Hid (∀ r, r < j → L r ≤ 8192) := Lib.hid fun r hr => by
            have h3 := hz.out (by omega)
            have h4 := le_sumL (L := L) hr
            omega
          clear h1 h2
          go_wp2
          all_goals
            go_ret
            exact ⟨⟨false, rfl, fun _ => HF.out⟩, rfl⟩
/-- Both intakes, alike, apart from one another, none of the caller's. -/
structure PS (B0 : Nat) (w : World) (g h gx c : Nat) (A : Option Addr) (s : St) : Prop where
  inn : In w g h s
  xin : XIn w gx A c s
  lo : ∀ b, Xi g h b ∨ Xx gx A b → B0 ≤ b
  dis : ∀ b, Xi g h b → ¬ Xx gx A b
section
variable {B0 g h gx c : Nat} {A : Option Addr} {s s1 : St} {w w1 w2 : World} {X : Nat → Prop}
theorem In.hlt (i : In w g h s) : h < w.heap.size := i.lt
theorem PS.off (p : PS B0 w g h gx c A s) (ho : Off X w w1) (hx : ∀ b, X b → ¬ Xi g h b ∧ ¬ Xx gx A b) : PS B0 w1 g h gx c A s :=
  ⟨p.inn.off ho (fun e => (hx g e).1 (.inl rfl)) (fun e => (hx h e).1 (.inr rfl)), p.xin.off ho (fun e => (hx gx e).2 (.inl rfl)) (fun b hb e => (hx b e).2 (.inr hb)), p.lo, p.dis⟩
theorem PS.call (p : PS B0 w g h gx c A s) (hb : Below w.heap.size w w1) : PS B0 w1 g h gx c A s := p.off (X := fun _ => False) (Off.of _ hb) fun _ h => h.elim
theorem PS.far (p : PS B0 w g h gx c A s) {b : Nat} (hb : w.heap.size ≤ b) : ¬ Xi g h b ∧ ¬ Xx gx A b := by
  refine ⟨fun e => ?_, fun e => ?_⟩
  · have h1 := p.inn.glt
    have h2 := p.inn.lt
    rcases e with e | e <;> omega
  · rcases e with e | e
    · have := p.xin.glt
      omega
    · have := p.xin.blk b e
      omega
/-- Behind a call of the one, the other is as it was. -/
theorem PS.other (p : PS B0 w g h gx c A s) (ho : Off (Xi g h) w w1) : XIn w1 gx A c s :=
  p.xin.off ho (fun e => p.dis _ e (.inl rfl)) (fun _ hb e => p.dis _ e (.inr hb))
theorem PS.both {c2 : Nat} {A2 : Option Addr} (p : PS B0 w g h gx c A s) (hB : B0 ≤ w.heap.size) (hi : In w1 g h s1) (ho : Off (Xi g h) w w1) (hx : XIn w2 gx A2 c2 s1) (ho2 : Off (Xx gx A) w1 w2) (ha : ∀ b, Bof A2 b → Bof A b ∨ w1.heap.size ≤ b) : PS B0 w2 g h gx c2 A2 s1 := by
  have hs := ho.size
  refine ⟨hi.off ho2 (p.dis g (.inl rfl)) (p.dis h (.inr rfl)), hx, fun b hb => ?_, fun b hb => ?_⟩
  · rcases hb with hb | hb | hb
    · exact p.lo b (.inl hb)
    · exact p.lo b (.inr (.inl hb))
    · rcases ha b hb with h1 | h1
      · exact p.lo b (.inr (.inr h1))
      · omega
  · intro e
    rcases e with e | e
    · exact p.dis b hb (.inl e)
    · rcases ha b e with h1 | h1
      · exact p.dis b hb (.inr h1)
      · have h3 := hi.glt
        have h4 := hi.lt
        rcases hb with hb | hb <;> omega
theorem PS.below (p : PS B0 w g h gx c A s) (hB : B0 ≤ w.heap.size) (ho : Off (Xi g h) w w1) (ho2 : Off (Xx gx A) w1 w2) : Below B0 w w2 :=
  (ho.below hB fun b _ e => by have := p.lo b (.inl e); omega).trans (ho2.below (Nat.le_trans hB ho.size) fun b _ e => by have := p.lo b (.inr e); omega)
end
end Go.Proofs.Ytdjncacknmejoaa.intakePlays
