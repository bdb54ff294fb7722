/-
  The statement IdleSilent, walked: it answers true. Memory that was there stays. No condition.
-/
import Derived.Test.YtbbbanfggcediaaIdw
namespace Go.Proofs.Ytbbbanfggcediaa.idleSilent
set_option maxRecDepth 100000
open Go.RowKit Go.Proofs.Ytbbbanfggcediaa.Utf Go.Proofs.Ytbbbanfggcediaa.Ob Go.Proofs.Ytbbbanfggcediaa.Id

theorem new_s (n : Nat) (S : Int) (w : World) (hn : 1 ≤ n ∧ n ≤ 5000) (hS : 0 ≤ S ∧ S < 1099511627776) : Calls Try.prog 8 #[.int .u32 (n : Int), .int .u32 0, .int .i64 S] w (GivesIdl (n : Int) S 0 S w) := by
  have h := inew_any n 0 S w (by omega) (by omega)
  have e1 : ((lenN n : Nat) : Int) = (n : Int) := by unfold lenN; omega
  have e2 : momI 0 0 S = S := by unfold momI; omega
  have e3 : momI S 0 S = S := by unfold momI; omega
  have e4 : ((halfN (lenN 0) : Nat) : Int) = 0 := rfl
  rw [e1, e2, e3, e4] at h
  exact h
theorem over_no (n S X : Int) (hX : S ≤ X ∧ X ≤ 2305843009213693952) (h : X < S + n) : overB n S (momI S S X) = false := by
  have e : momI S S X = X := by unfold momI; omega
  rw [e]
  simp [overB]
  omega
theorem over_yes (n S X : Int) (hn : 1 ≤ n) (hX : S ≤ X ∧ X ≤ 2305843009213693952) (h : S + n ≤ X) : overB n S (momI S S X) = true := by
  have e : momI S S X = X := by unfold momI; omega
  rw [e]
  simp [overB]
  omega
theorem over_got (n S X : Int) (hn : 1 ≤ n) (hX : S ≤ X ∧ X ≤ 2305843009213693952) : overB n X (momI X S X) = false := by
  have e : momI X S X = X := by unfold momI; omega
  rw [e]
  simp [overB]
  omega
theorem mom_got (S X : Int) (hX : S ≤ X ∧ X ≤ 2305843009213693952) : momI S S X = X := by unfold momI; omega
theorem when_s (n S : Int) (hn : 1 ≤ n) : WhenV n S 0 S = .tuple #[.int .i64 (S + n), .bool true] := by
  have h : ¬ n = 0 := by omega
  simp [WhenV, whenI, whenB, h]
theorem gn {w w1 w2 w3 : World} {b : Nat} {o g p s : Int} (hs : w.heap.size ≤ b) (hb : Below w.heap.size w w1) (h : Off (fun i => i = b) w1 w2) (hw : Below w2.heap.size w2 w3) (_ : Idl w1 b o g p s) : Below w.heap.size w w3 := bn (bo hb h (fun i hi e => by omega)) hw
set_option maxHeartbeats 4000000 in
theorem walk_at (own M n : Nat) (start T S : Int) (w : World) (hM1 : (own : Int) % 5000 = (M : Int)) (hM2 : (own : Int).tmod 5000 = (M : Int)) (hMn : (1 : Int) + (M : Int) = (n : Int)) (hn : 1 ≤ n ∧ n ≤ 5000) (hT : start.tmod 1099511627776 = T) (hT2 : -1099511627776 < T ∧ T < 1099511627776) (hS : 0 ≤ S ∧ S < 1099511627776) (hST : (T < 0 ∧ -T = S) ∨ (0 ≤ T ∧ T = S)) :
    Calls Try.prog 4 #[.int .u32 (own : Int), .int .i64 start] w fun e w' => e = .returned (.bool true) ∧ Below w.heap.size w w' := by
  have HN := Lib.hid (fun wx => new_s n S wx hn hS)
  have L1 := Lib.hid (over_no (n : Int) S (S + n - 1) (by omega) (by omega))
  have L2 := Lib.hid (over_yes (n : Int) S (S + n) (by omega) (by omega) (by omega))
  have L3 := Lib.hid (over_yes (n : Int) S (S + n + 1000) (by omega) (by omega) (by omega))
  have L5 := Lib.hid (over_got (n : Int) S (S + n + 2000) (by omega) (by omega))
  have M5 := Lib.hid (mom_got S (S + n + 2000) (by omega))
  have HW := Lib.hid (when_s (n : Int) S (by omega))
  have hM3 : M ≤ 4999 := by omega
  rcases hST with ⟨ht, hs⟩ | ⟨ht, hs⟩
  · have d : decide (T < 0) = true := by simpa using ht
    go_enter Try.func4, Try.ntmps4
    go_wp2_with fail
    with_reducible refine (HN.out _).mono ?_
    rintro e w1 ⟨b, rfl, h1, hb, b1⟩
    go_wp2_with fail
    with_reducible refine (when_at (S + n) true _ h1 HW.out).mono ?_
    rintro e w2 ⟨rfl, b2⟩
    have h2 := h1.call b2
    go_wp2_with fail
    with_reducible refine (late_at (S + n - 1) (v := false) _ h2 L1.out).mono ?_
    rintro e w3 ⟨rfl, b3⟩
    have h3 := h2.call b3
    go_wp2_with fail
    with_reducible refine (late_at (S + n) (v := true) _ h3 L2.out).mono ?_
    rintro e w4 ⟨rfl, b4⟩
    have h4 := h3.call b4
    go_wp2_with fail
    with_reducible refine (late_at (S + n + 1000) (v := true) _ h4 L3.out).mono ?_
    rintro e w5 ⟨rfl, b5⟩
    have h5 := h4.call b5
    go_wp2_with fail
    with_reducible refine (due_at (S + n + 1000) (v := false) _ h5 rfl).mono ?_
    rintro e w6 ⟨rfl, b6⟩
    have h6 := h5.call b6
    go_wp2_with fail
    with_reducible refine (got_at (S + n + 2000) (S + n + 2000) _ h6 M5.out).mono ?_
    rintro e w7 ⟨rfl, h7, o7⟩
    go_wp2_with fail
    with_reducible refine (late_at (S + n + 2000) (v := false) _ h7 L5.out).mono ?_
    rintro e w8 ⟨rfl, b8⟩
    go_wp2_with fail
    with_reducible refine (works14_any _).mono ?_
    rintro e w9 ⟨rfl, b9⟩
    go_wp2
    go_ret
    exact ⟨rfl, bn (gn hb (bn (bn (bn (bn (bn b1 b2) b3) b4) b5) b6) o7 b8 h6) b9⟩
  · have d : decide (T < 0) = false := by simpa using ht
    subst hs
    go_enter Try.func4, Try.ntmps4
    go_wp2_with fail
    with_reducible refine (HN.out _).mono ?_
    rintro e w1 ⟨b, rfl, h1, hb, b1⟩
    go_wp2_with fail
    with_reducible refine (when_at (T + n) true _ h1 HW.out).mono ?_
    rintro e w2 ⟨rfl, b2⟩
    have h2 := h1.call b2
    go_wp2_with fail
    with_reducible refine (late_at (T + n - 1) (v := false) _ h2 L1.out).mono ?_
    rintro e w3 ⟨rfl, b3⟩
    have h3 := h2.call b3
    go_wp2_with fail
    with_reducible refine (late_at (T + n) (v := true) _ h3 L2.out).mono ?_
    rintro e w4 ⟨rfl, b4⟩
    have h4 := h3.call b4
    go_wp2_with fail
    with_reducible refine (late_at (T + n + 1000) (v := true) _ h4 L3.out).mono ?_
    rintro e w5 ⟨rfl, b5⟩
    have h5 := h4.call b5
    go_wp2_with fail
    with_reducible refine (due_at (T + n + 1000) (v := false) _ h5 rfl).mono ?_
    rintro e w6 ⟨rfl, b6⟩
    have h6 := h5.call b6
    go_wp2_with fail
    with_reducible refine (got_at (T + n + 2000) (T + n + 2000) _ h6 M5.out).mono ?_
    rintro e w7 ⟨rfl, h7, o7⟩
    go_wp2_with fail
    with_reducible refine (late_at (T + n + 2000) (v := false) _ h7 L5.out).mono ?_
    rintro e w8 ⟨rfl, b8⟩
    go_wp2_with fail
    with_reducible refine (works14_any _).mono ?_
    rintro e w9 ⟨rfl, b9⟩
    go_wp2
    go_ret
    exact ⟨rfl, bn (gn hb (bn (bn (bn (bn (bn b1 b2) b3) b4) b5) b6) o7 b8 h6) b9⟩
theorem walk (own : Nat) (start : Int) (w : World) (ho : own < 4294967296) (_ : (Lit.int .i64 start).wf = true) :
    Calls Try.prog 4 #[.int .u32 (own : Int), .int .i64 start] w fun e w' => e = .returned (.bool true) ∧ Below w.heap.size w w' := by
  have hb := Int.tmod_lt_of_pos start (show (0 : Int) < 1099511627776 by omega)
  have hb2 : -1099511627776 < start.tmod 1099511627776 := by
    rcases Int.lt_or_le start 0 with h | h
    · have := Int.tmod_lt_of_pos (-start) (show (0 : Int) < 1099511627776 by omega)
      rw [Int.neg_tmod] at this
      omega
    · have := Int.tmod_nonneg 1099511627776 h
      omega
  have hm : (own : Int).tmod 5000 = (own : Int) % 5000 := Int.tmod_eq_emod_of_nonneg (by omega)
  rcases Int.lt_or_le (start.tmod 1099511627776) 0 with h | h
  · exact walk_at own (own % 5000) (own % 5000 + 1) start _ (-(start.tmod 1099511627776)) w (by omega) (by omega) (by omega) (by omega) rfl ⟨hb2, hb⟩ (by omega) (Or.inl ⟨h, rfl⟩)
  · exact walk_at own (own % 5000) (own % 5000 + 1) start _ (start.tmod 1099511627776) w (by omega) (by omega) (by omega) (by omega) rfl ⟨hb2, hb⟩ (by omega) (Or.inr ⟨h, rfl⟩)
end Go.Proofs.Ytbbbanfggcediaa.idleSilent
