/-
  A slice that the call itself made, used as a stack: its top, taking it off; cutting slices of values from the front. No condition.
-/
import Derived.Test.YtdbcdabijolagaaDoorAlone
namespace Go.Proofs.YtdbcdabijolagaaDoor.Val
open Go.RowKit Go.Proofs.YtdbcdabijolagaaDoor.Utf V

theorem own_pop {w : World} {base : Nat} {e : TypeId} {size n m c : Nat} {A : Option Addr} {xs ys : List Value} (h : w.ownsRow base e size (.slice A n c) n (xs ++ ys)) (hx : xs.length = m * size) (hm : m < n) :
    w.ownsRow base e size (.slice A m c) m xs := by
  refine ⟨hx, ?_⟩
  rcases h.2 with ⟨_, h0⟩ | ⟨g, cap, cur, hv, hb, hg, hnc, hcm, hcs, htake⟩
  · omega
  · injection hv with h1 _ h3
    subst h1
    subst h3
    refine .inr ⟨g, c, cur, rfl, hb, hg, by omega, hcm, hcs, ?_⟩
    have hle : m * size ≤ n * size := Nat.mul_le_mul_right _ (by omega)
    have := congrArg (List.take (m * size)) htake
    have e2 : (xs ++ ys).take (m * size) = xs := by rw [← hx]; simp
    rw [List.take_take, Nat.min_eq_left hle, e2] at this
    exact this

theorem own_form {w : World} {base : Nat} {e : TypeId} {size n c : Nat} {A : Option Addr} {xs : List Value} (h : w.ownsRow base e size (.slice A n c) n xs) (hn : 0 < n) : ∃ g, A = some ⟨g, 0, none⟩ ∧ base ≤ g ∧ g < w.heap.size := by
  obtain ⟨g, cap, hv, hb, hlt⟩ := h.form hn
  injection hv with h1
  exact ⟨g, h1, hb, hlt⟩
theorem own_cap {w : World} {base : Nat} {e : TypeId} {size n c : Nat} {A : Option Addr} {xs : List Value} (h : w.ownsRow base e size (.slice A n c) n xs) : n ≤ c := by
  rcases h.2 with ⟨e, h0⟩ | ⟨g, cap, cur, hv, hb, hg, hnc, _⟩
  · omega
  · injection hv with _ _ h3
    omega

/-- x[:k], of whatever slice. -/
theorem cut_top {T e : TypeId} {size : Nat} (hT : Tryd.prog.underlying T = some (.slice e)) (he : Tryd.prog.elem T = e) (hi : (Tryd.prog.info? e).map (·.size) = some size) (A : Option Addr) (n c k : Nat) (hk : k ≤ n) (hnc : n ≤ c) :
    (∀ (W : World) (i : Int), i = k → (Instr.slice T (.slice A n c) none (some (.int .i64 i)) none).run Tryd.prog W = .ok (.slice A k c) W) ∧ (∀ (W : World) (i : Int), i = k → (Instr.sliceAt T (.slice A n c) none (some (.int .i64 i)) none).run Tryd.prog W = .ok (.slice A k c) W) := by
  have hT' : Tryd.prog.underlying T = some (.slice (Tryd.prog.elem T)) := by rw [he]; exact hT
  have hsz : ∀ W : World, (sizeOf e).run Tryd.prog W = .ok size W := fun W => by
    cases hq : Tryd.prog.info? e with
    | none => rw [hq] at hi; cases hi
    | some x => rw [hq] at hi; injection hi with hi; simp [sizeOf, typeInfo, hq, hi]
  have h1 : ∀ (W : World) (i : Int), i = k → (Instr.slice T (.slice A n c) none (some (.int .i64 i)) none).run Tryd.prog W = .ok (.slice A k c) W := fun W i hi => by
    subst hi
    rw [run_slice_h (P := Tryd.prog) (w := W) T A n c hT' .i64 (k : Int) (by omega) (by omega), he, hsz]
    simp only [Result.andThen, sliced]
    cases A <;> simp [Addr.add]
  refine ⟨h1, fun W i hi => ?_⟩
  rw [run_sliceAt_slice (P := Tryd.prog) (w := W) T _ _ _ _ hT']; exact h1 W i hi

theorem elemVals : Tryd.prog.elem 23 = 25 := by kernel_rfl
theorem sizeVal : (Tryd.prog.info? 25).map (·.size) = some 4 := by kernel_rfl

/-- x[k:] of values, under a name of its own. -/
theorem cut_vals (A : Option Addr) (n c k : Nat) (hk : k ≤ n) (hnc : n ≤ c) : ∃ A1 c1, n - k ≤ c1 ∧
    (∀ (W : World) (i : Int), i = k → (Instr.slice 23 (.slice A n c) (some (.int .i64 i)) none none).run Tryd.prog W = .ok (.slice A1 (n - k) c1) W) ∧ (∀ (W : World) (i : Int), i = k → (Instr.sliceAt 23 (.slice A n c) (some (.int .i64 i)) none none).run Tryd.prog W = .ok (.slice A1 (n - k) c1) W) ∧
    ∀ own w P ks, Kids own w P ks A n c → Kids own w P (ks.drop k) A1 (n - k) c1 := by
  have hT' : Tryd.prog.underlying 23 = some (.slice (Tryd.prog.elem 23)) := by rw [elemVals]; exact Tryd.underlying23
  have hsz : ∀ W : World, (sizeOf 25).run Tryd.prog W = .ok 4 W := fun W => by
    have hi := sizeVal
    cases hq : Tryd.prog.info? 25 with
    | none => rw [hq] at hi; cases hi
    | some x => rw [hq] at hi; injection hi with hi; simp [sizeOf, typeInfo, hq, hi]
  have h1 : ∀ (W : World) (i : Int), i = k → (Instr.slice 23 (.slice A n c) (some (.int .i64 i)) none none).run Tryd.prog W = .ok (.slice (if c = k then A else A.map (·.add (k * 4))) (n - k) (c - k)) W := fun W i hi => by
    subst hi
    rw [run_slice_l (P := Tryd.prog) (w := W) 23 A n c hT' .i64 (k : Int) (by omega) (by omega), elemVals, hsz]
    simp only [Result.andThen, sliced, Int.toNat_natCast]
  refine ⟨_, _, ?_, h1, fun W i hi => ?_, fun own w P ks h => ⟨by rw [List.length_drop, ← h.1], ?_, fun hl => ?_⟩⟩
  · omega
  · rw [run_sliceAt_slice (P := Tryd.prog) (w := W) 23 _ _ _ _ hT']; exact h1 W i hi
  · omega
  · obtain ⟨b, o, rfl, hP, ho, hrow⟩ := h.2.2 (by omega)
    rw [if_neg (by omega)]
    refine ⟨b, o + k * 4, ?_, hP, ho, rowL_mk fun i v hi => ?_⟩
    · simp only [Option.map_some]
      unfold Addr.add
      split
      · rename_i h0; rw [h0]; rfl
      · rfl
    · rw [List.getElem?_drop] at hi
      have := rowL_at hrow hi
      rwa [show o + (k + i) * 4 = o + k * 4 + i * 4 by omega] at this
end Go.Proofs.YtdbcdabijolagaaDoor.Val
