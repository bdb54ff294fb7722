/-
  The statement IdleMeets, walked: it answers true. Memory that was there stays. No condition.
-/
import Derived.Test.YtbbbanfggcediaaIdw
namespace Go.Proofs.Ytbbbanfggcediaa.idleMeets
set_option maxRecDepth 100000
open Go.RowKit Go.Proofs.Ytbbbanfggcediaa.Utf Go.Proofs.Ytbbbanfggcediaa.Ob Go.Proofs.Ytbbbanfggcediaa.Id

theorem mom_le (g s X : Int) (hg : g ≤ X) (hs : s ≤ X) (hX : X ≤ 2305843009213693952) : momI g s X = X := by unfold momI; omega
theorem due_yes (t g s X : Int) (ht : 1 ≤ t) (hg : g ≤ X) (hs : s ≤ X) (hX : X ≤ 2305843009213693952) (h : s + t ≤ X) : overB t s (momI g s X) = true := by
  rw [mom_le g s X hg hs hX]
  simp [overB]
  omega
theorem due_no (t g s X : Int) (hg : g ≤ X) (hs : s ≤ X) (hX : X ≤ 2305843009213693952) (h : X < s + t) : overB t s (momI g s X) = false := by
  rw [mom_le g s X hg hs hX]
  simp [overB]
  omega
theorem late_no (t g s X : Int) (hg : g ≤ X) (hs : s ≤ X) (hX : X ≤ 2305843009213693952) (h : X < g + t) : overB t g (momI g s X) = false := by
  rw [mom_le g s X hg hs hX]
  simp [overB]
  omega
theorem new_m (p q : Nat) (S : Int) (w : World) (hp : 2 ≤ p ∧ p ≤ 1001) (hq : 2 ≤ q ∧ q ≤ 1001) (hS : 0 ≤ S ∧ S < 1099511627776) : Calls Try.prog 8 #[.int .u32 (p : Int), .int .u32 (q : Int), .int .i64 S] w (GivesIdl (p : Int) S ((q / 2 : Nat) : Int) S w) := by
  have h := inew_any p q S w (by omega) (by omega)
  have e1 : ((lenN p : Nat) : Int) = (p : Int) := by unfold lenN; omega
  have e2 : momI 0 0 S = S := by unfold momI; omega
  have e3 : momI S 0 S = S := by unfold momI; omega
  have e4 : halfN (lenN q) = q / 2 := by
    have : lenN q = q := by unfold lenN; omega
    rw [this]
    unfold halfN
    rw [if_neg (by omega)]
  rw [e1, e2, e3, e4] at h
  exact h
/-- Two ends that meet: what one sent last the other one got last; neither is due. -/
def Mt (w : World) (x y : Nat) (p q hp hq S T : Int) : Prop := ∃ u v, Idl w x p v hq u ∧ Idl w y q u hp v ∧ S ≤ u ∧ u ≤ T ∧ S ≤ v ∧ v ≤ T ∧ T < u + hq ∧ T < v + hp
set_option maxHeartbeats 4000000 in
theorem walk_at (a a1 p b b1 q : Nat) (start T S : Int) (ticks R : Nat) (w : World) (hA1 : (a : Int) % 1000 = (a1 : Int)) (hA2 : (a : Int).tmod 1000 = (a1 : Int)) (hA3 : (2 : Int) + (a1 : Int) = (p : Int)) (hp : 2 ≤ p ∧ p ≤ 1001)
    (hB1 : (b : Int) % 1000 = (b1 : Int)) (hB2 : (b : Int).tmod 1000 = (b1 : Int)) (hB3 : (2 : Int) + (b1 : Int) = (q : Int)) (hq : 2 ≤ q ∧ q ≤ 1001) (hT : start.tmod 1099511627776 = T) (hT2 : -1099511627776 < T ∧ T < 1099511627776) (hS : 0 ≤ S ∧ S < 1099511627776) (hST : (T < 0 ∧ -T = S) ∨ (0 ≤ T ∧ T = S))
    (hR1 : (ticks : Int) % 500 = (R : Int)) (hR2 : (ticks : Int).tmod 500 = (R : Int)) (_ : R ≤ 499) (_ : ticks < 65536) :
    Calls Try.prog 3 #[.int .u32 (a : Int), .int .u32 (b : Int), .int .i64 start, .int .u16 (ticks : Int)] w fun e w' => e = .returned (.bool true) ∧ Below w.heap.size w w' := by
  have HN1 := Lib.hid (fun wx => new_m p q S wx hp hq hS)
  have HN2 := Lib.hid (fun wx => new_m q p S wx hq hp hS)
  obtain ⟨f, hf⟩ : ∃ f : Int, ((p / 2 : Nat) : Int) = f := ⟨_, rfl⟩
  obtain ⟨g, hg⟩ : ∃ g : Int, ((q / 2 : Nat) : Int) = g := ⟨_, rfl⟩
  have hf2 : 1 ≤ f ∧ f ≤ (p : Int) := by omega
  have hg2 : 1 ≤ g ∧ g ≤ (q : Int) := by omega
  rw [hg] at HN1
  rw [hf] at HN2
  clear hf hg
  have hA4 : a1 ≤ 999 := by omega
  have hB4 : b1 ≤ 999 := by omega
  rcases hST with ⟨ht, hs⟩ | ⟨ht, hs⟩
  · have d : decide (T < 0) = true := by simpa using ht
    go_enter Try.func3, Try.ntmps3
    go_wp2_with fail
    with_reducible refine (HN1.out _).mono ?_
    rintro e w1 ⟨x, rfl, h1, hx, b1⟩
    go_wp2_with fail
    with_reducible refine (HN2.out _).mono ?_
    rintro e w2 ⟨y, rfl, h2, hy, b2⟩
    have NE : Hid (¬ x = y ∧ ¬ y = x) := Lib.hid (by have := h1.lt; omega)
    have HXY : Hid (w.heap.size ≤ x ∧ w.heap.size ≤ y) := Lib.hid (by have := b1.size; omega)
    have B2 := Lib.hid (bn b1 b2)
    have H2 : Hid (Mt w2 x y p q f g S S) := Lib.hid ⟨_, _, h1.call b2, h2, by omega, by omega, by omega, by omega, by omega, by omega⟩
    clear h1 h2 hx hy b1 b2
    go_wp2_with fail
    go_loopw [14] (fun i wx => ∃ k : Nat, 1 ≤ k ∧ k ≤ R + 1 ∧ i = .int .i64 k ∧ Mt wx x y p q f g S (S + k - 1) ∧ Off (fun i => i = x ∨ i = y) w2 wx) (fun i _ => R + 1 - (intOf i).toNat)
    case atStart => exact ⟨1, by omega, by omega, rfl, by simpa using H2.out, Off.refl _ _⟩
    case round =>
      obtain ⟨k, hk1, hk, rfl, ⟨u, v, hX, hY, i1, i2, i3, i4, i5, i6⟩, ho⟩ := hrel
      have H0 : Hid (Idl wr x p v g u ∧ Idl wr y q u f v) := Lib.hid ⟨hX, hY⟩
      have O0 := Lib.hid ho
      clear hX hY ho
      by_cases hlt : k ≤ R
      · have dl : decide ((k : Int) ≤ (R : Int)) = true := by simpa using hlt
        by_cases hu : u + g ≤ S + k
        · by_cases hv : v + f ≤ S + k
          · have E1 := Lib.hid (due_yes g v u (S + k) (by omega) (by omega) (by omega) (by omega) (by omega))
            have M1 := Lib.hid (mom_le v u (S + k) (by omega) (by omega) (by omega))
            have M2 := Lib.hid (mom_le u v (S + k) (by omega) (by omega) (by omega))
            have E2 := Lib.hid (due_yes f (S + k) v (S + k) (by omega) (by omega) (by omega) (by omega) (by omega))
            have M3 := Lib.hid (mom_le (S + k) v (S + k) (by omega) (by omega) (by omega))
            have M4 := Lib.hid (mom_le v (S + k) (S + k) (by omega) (by omega) (by omega))
            have L1 := Lib.hid (late_no p (S + k) (S + k) (S + k) (by omega) (by omega) (by omega) (by omega))
            have L2 := Lib.hid (late_no q (S + k) (S + k) (S + k) (by omega) (by omega) (by omega) (by omega))
            go_wp2_with fail
            with_reducible refine (due_at (S + k) (v := true) _ H0.out.1 E1.out).mono ?_
            rintro e w3 ⟨rfl, b3⟩
            have X3 := H0.out.1.call b3
            have Y3 := H0.out.2.call b3
            have O3 := O0.out.next b3
            go_wp2_with fail
            with_reducible refine (sent_at (S + k) (S + k) _ X3 M1.out).mono ?_
            rintro e w4 ⟨rfl, X4, o4⟩
            have Y4 := Y3.off o4 NE.out.2
            have O4 := O3.trans (o4.mono fun i _ e => Or.inl e)
            go_wp2_with fail
            with_reducible refine (got_at (S + k) (S + k) _ Y4 M2.out).mono ?_
            rintro e w5 ⟨rfl, Y5, o5⟩
            have X5 := X4.off o5 NE.out.1
            have O5 := O4.trans (o5.mono fun i _ e => Or.inr e)
            go_wp2_with fail
            with_reducible refine (due_at (S + k) (v := true) _ Y5 E2.out).mono ?_
            rintro e w6 ⟨rfl, b6⟩
            have X6 := X5.call b6
            have Y6 := Y5.call b6
            have O6 := O5.next b6
            go_wp2_with fail
            with_reducible refine (sent_at (S + k) (S + k) _ Y6 M3.out).mono ?_
            rintro e w7 ⟨rfl, Y7, o7⟩
            have X7 := X6.off o7 NE.out.1
            have O7 := O6.trans (o7.mono fun i _ e => Or.inr e)
            go_wp2_with fail
            with_reducible refine (got_at (S + k) (S + k) _ X7 M4.out).mono ?_
            rintro e w8 ⟨rfl, X8, o8⟩
            have Y8 := Y7.off o8 NE.out.2
            have O8 := O7.trans (o8.mono fun i _ e => Or.inl e)
            go_wp2_with fail
            with_reducible refine (late_at (S + k) (v := false) _ X8 L1.out).mono ?_
            rintro e w9 ⟨rfl, b9⟩
            have X9 := X8.call b9
            have Y9 := Y8.call b9
            have O9 := O8.next b9
            go_wp2_with fail
            with_reducible refine (late_at (S + k) (v := false) _ Y9 L2.out).mono ?_
            rintro e w10 ⟨rfl, b10⟩
            have X10 := X9.call b10
            have Y10 := Y9.call b10
            have O10 := O9.next b10
            go_wp2_with fail
            go_roundw
            case rel => exact ⟨k + 1, by omega, by omega, by go_num, ⟨_, _, X10, Y10, by omega, by push_cast; omega, by omega, by push_cast; omega, by push_cast; omega, by push_cast; omega⟩, O10⟩
            case measure => simp [intOf]; omega
          · have E1 := Lib.hid (due_yes g v u (S + k) (by omega) (by omega) (by omega) (by omega) (by omega))
            have M1 := Lib.hid (mom_le v u (S + k) (by omega) (by omega) (by omega))
            have M2 := Lib.hid (mom_le u v (S + k) (by omega) (by omega) (by omega))
            have E2 := Lib.hid (due_no f (S + k) v (S + k) (by omega) (by omega) (by omega) (by omega))
            have L1 := Lib.hid (late_no p v (S + k) (S + k) (by omega) (by omega) (by omega) (by omega))
            have L2 := Lib.hid (late_no q (S + k) v (S + k) (by omega) (by omega) (by omega) (by omega))
            go_wp2_with fail
            with_reducible refine (due_at (S + k) (v := true) _ H0.out.1 E1.out).mono ?_
            rintro e w3 ⟨rfl, b3⟩
            have X3 := H0.out.1.call b3
            have Y3 := H0.out.2.call b3
            have O3 := O0.out.next b3
            go_wp2_with fail
            with_reducible refine (sent_at (S + k) (S + k) _ X3 M1.out).mono ?_
            rintro e w4 ⟨rfl, X4, o4⟩
            have Y4 := Y3.off o4 NE.out.2
            have O4 := O3.trans (o4.mono fun i _ e => Or.inl e)
            go_wp2_with fail
            with_reducible refine (got_at (S + k) (S + k) _ Y4 M2.out).mono ?_
            rintro e w5 ⟨rfl, Y5, o5⟩
            have X5 := X4.off o5 NE.out.1
            have O5 := O4.trans (o5.mono fun i _ e => Or.inr e)
            go_wp2_with fail
            with_reducible refine (due_at (S + k) (v := false) _ Y5 E2.out).mono ?_
            rintro e w6 ⟨rfl, b6⟩
            have X6 := X5.call b6
            have Y6 := Y5.call b6
            have O6 := O5.next b6
            go_wp2_with fail
            with_reducible refine (late_at (S + k) (v := false) _ X6 L1.out).mono ?_
            rintro e w9 ⟨rfl, b9⟩
            have X9 := X6.call b9
            have Y9 := Y6.call b9
            have O9 := O6.next b9
            go_wp2_with fail
            with_reducible refine (late_at (S + k) (v := false) _ Y9 L2.out).mono ?_
            rintro e w10 ⟨rfl, b10⟩
            have X10 := X9.call b10
            have Y10 := Y9.call b10
            have O10 := O9.next b10
            go_wp2_with fail
            go_roundw
            case rel => exact ⟨k + 1, by omega, by omega, by go_num, ⟨_, _, X10, Y10, by omega, by push_cast; omega, by omega, by push_cast; omega, by push_cast; omega, by push_cast; omega⟩, O10⟩
            case measure => simp [intOf]; omega
        · by_cases hv : v + f ≤ S + k
          · have E1 := Lib.hid (due_no g v u (S + k) (by omega) (by omega) (by omega) (by omega))
            have E2 := Lib.hid (due_yes f u v (S + k) (by omega) (by omega) (by omega) (by omega) (by omega))
            have M3 := Lib.hid (mom_le u v (S + k) (by omega) (by omega) (by omega))
            have M4 := Lib.hid (mom_le v u (S + k) (by omega) (by omega) (by omega))
            have L1 := Lib.hid (late_no p (S + k) u (S + k) (by omega) (by omega) (by omega) (by omega))
            have L2 := Lib.hid (late_no q u (S + k) (S + k) (by omega) (by omega) (by omega) (by omega))
            go_wp2_with fail
            with_reducible refine (due_at (S + k) (v := false) _ H0.out.1 E1.out).mono ?_
            rintro e w3 ⟨rfl, b3⟩
            have X3 := H0.out.1.call b3
            have Y3 := H0.out.2.call b3
            have O3 := O0.out.next b3
            go_wp2_with fail
            with_reducible refine (due_at (S + k) (v := true) _ Y3 E2.out).mono ?_
            rintro e w6 ⟨rfl, b6⟩
            have X6 := X3.call b6
            have Y6 := Y3.call b6
            have O6 := O3.next b6
            go_wp2_with fail
            with_reducible refine (sent_at (S + k) (S + k) _ Y6 M3.out).mono ?_
            rintro e w7 ⟨rfl, Y7, o7⟩
            have X7 := X6.off o7 NE.out.1
            have O7 := O6.trans (o7.mono fun i _ e => Or.inr e)
            go_wp2_with fail
            with_reducible refine (got_at (S + k) (S + k) _ X7 M4.out).mono ?_
            rintro e w8 ⟨rfl, X8, o8⟩
            have Y8 := Y7.off o8 NE.out.2
            have O8 := O7.trans (o8.mono fun i _ e => Or.inl e)
            go_wp2_with fail
            with_reducible refine (late_at (S + k) (v := false) _ X8 L1.out).mono ?_
            rintro e w9 ⟨rfl, b9⟩
            have X9 := X8.call b9
            have Y9 := Y8.call b9
            have O9 := O8.next b9
            go_wp2_with fail
            with_reducible refine (late_at (S + k) (v := false) _ Y9 L2.out).mono ?_
            rintro e w10 ⟨rfl, b10⟩
            have X10 := X9.call b10
            have Y10 := Y9.call b10
            have O10 := O9.next b10
            go_wp2_with fail
            go_roundw
            case rel => exact ⟨k + 1, by omega, by omega, by go_num, ⟨_, _, X10, Y10, by omega, by push_cast; omega, by omega, by push_cast; omega, by push_cast; omega, by push_cast; omega⟩, O10⟩
            case measure => simp [intOf]; omega
          · have E1 := Lib.hid (due_no g v u (S + k) (by omega) (by omega) (by omega) (by omega))
            have E2 := Lib.hid (due_no f u v (S + k) (by omega) (by omega) (by omega) (by omega))
            have L1 := Lib.hid (late_no p v u (S + k) (by omega) (by omega) (by omega) (by omega))
            have L2 := Lib.hid (late_no q u v (S + k) (by omega) (by omega) (by omega) (by omega))
            go_wp2_with fail
            with_reducible refine (due_at (S + k) (v := false) _ H0.out.1 E1.out).mono ?_
            rintro e w3 ⟨rfl, b3⟩
            have X3 := H0.out.1.call b3
            have Y3 := H0.out.2.call b3
            have O3 := O0.out.next b3
            go_wp2_with fail
            with_reducible refine (due_at (S + k) (v := false) _ Y3 E2.out).mono ?_
            rintro e w6 ⟨rfl, b6⟩
            have X6 := X3.call b6
            have Y6 := Y3.call b6
            have O6 := O3.next b6
            go_wp2_with fail
            with_reducible refine (late_at (S + k) (v := false) _ X6 L1.out).mono ?_
            rintro e w9 ⟨rfl, b9⟩
            have X9 := X6.call b9
            have Y9 := Y6.call b9
            have O9 := O6.next b9
            go_wp2_with fail
            with_reducible refine (late_at (S + k) (v := false) _ Y9 L2.out).mono ?_
            rintro e w10 ⟨rfl, b10⟩
            have X10 := X9.call b10
            have Y10 := Y9.call b10
            have O10 := O9.next b10
            go_wp2_with fail
            go_roundw
            case rel => exact ⟨k + 1, by omega, by omega, by go_num, ⟨_, _, X10, Y10, by omega, by push_cast; omega, by omega, by push_cast; omega, by push_cast; omega, by push_cast; omega⟩, O10⟩
            case measure => simp [intOf]; omega
      · have dl : decide ((k : Int) ≤ (R : Int)) = false := by simpa using hlt
        go_wp2_with (first
          | (go_at_call 13; (with_reducible refine (works14_any _).mono ?_); rintro e w3 ⟨rfl, b3⟩)
          | fail)
        go_ret
        exact ⟨rfl, bn (bo B2.out O0.out (fun i hi e => by have := HXY.out; omega)) b3⟩
  · have d : decide (T < 0) = false := by simpa using ht
    obtain rfl : S = T := hs.symm
    go_enter Try.func3, Try.ntmps3
    go_wp2_with fail
    with_reducible refine (HN1.out _).mono ?_
    rintro e w1 ⟨x, rfl, h1, hx, b1⟩
    go_wp2_with fail
    with_reducible refine (HN2.out _).mono ?_
    rintro e w2 ⟨y, rfl, h2, hy, b2⟩
    have NE : Hid (¬ x = y ∧ ¬ y = x) := Lib.hid (by have := h1.lt; omega)
    have HXY : Hid (w.heap.size ≤ x ∧ w.heap.size ≤ y) := Lib.hid (by have := b1.size; omega)
    have B2 := Lib.hid (bn b1 b2)
    have H2 : Hid (Mt w2 x y p q f g S S) := Lib.hid ⟨_, _, h1.call b2, h2, by omega, by omega, by omega, by omega, by omega, by omega⟩
    clear h1 h2 hx hy b1 b2
    go_wp2_with fail
    go_loopw [14] (fun i wx => ∃ k : Nat, 1 ≤ k ∧ k ≤ R + 1 ∧ i = .int .i64 k ∧ Mt wx x y p q f g S (S + k - 1) ∧ Off (fun i => i = x ∨ i = y) w2 wx) (fun i _ => R + 1 - (intOf i).toNat)
    case atStart => exact ⟨1, by omega, by omega, rfl, by simpa using H2.out, Off.refl _ _⟩
    case round =>
      obtain ⟨k, hk1, hk, rfl, ⟨u, v, hX, hY, i1, i2, i3, i4, i5, i6⟩, ho⟩ := hrel
      have H0 : Hid (Idl wr x p v g u ∧ Idl wr y q u f v) := Lib.hid ⟨hX, hY⟩
      have O0 := Lib.hid ho
      clear hX hY ho
      by_cases hlt : k ≤ R
      · have dl : decide ((k : Int) ≤ (R : Int)) = true := by simpa using hlt
        by_cases hu : u + g ≤ S + k
        · by_cases hv : v + f ≤ S + k
          · have E1 := Lib.hid (due_yes g v u (S + k) (by omega) (by omega) (by omega) (by omega) (by omega))
            have M1 := Lib.hid (mom_le v u (S + k) (by omega) (by omega) (by omega))
            have M2 := Lib.hid (mom_le u v (S + k) (by omega) (by omega) (by omega))
            have E2 := Lib.hid (due_yes f (S + k) v (S + k) (by omega) (by omega) (by omega) (by omega) (by omega))
            have M3 := Lib.hid (mom_le (S + k) v (S + k) (by omega) (by omega) (by omega))
            have M4 := Lib.hid (mom_le v (S + k) (S + k) (by omega) (by omega) (by omega))
            have L1 := Lib.hid (late_no p (S + k) (S + k) (S + k) (by omega) (by omega) (by omega) (by omega))
            have L2 := Lib.hid (late_no q (S + k) (S + k) (S + k) (by omega) (by omega) (by omega) (by omega))
            go_wp2_with fail
            with_reducible refine (due_at (S + k) (v := true) _ H0.out.1 E1.out).mono ?_
            rintro e w3 ⟨rfl, b3⟩
            have X3 := H0.out.1.call b3
            have Y3 := H0.out.2.call b3
            have O3 := O0.out.next b3
            go_wp2_with fail
            with_reducible refine (sent_at (S + k) (S + k) _ X3 M1.out).mono ?_
            rintro e w4 ⟨rfl, X4, o4⟩
            have Y4 := Y3.off o4 NE.out.2
            have O4 := O3.trans (o4.mono fun i _ e => Or.inl e)
            go_wp2_with fail
            with_reducible refine (got_at (S + k) (S + k) _ Y4 M2.out).mono ?_
            rintro e w5 ⟨rfl, Y5, o5⟩
            have X5 := X4.off o5 NE.out.1
            have O5 := O4.trans (o5.mono fun i _ e => Or.inr e)
            go_wp2_with fail
            with_reducible refine (due_at (S + k) (v := true) _ Y5 E2.out).mono ?_
            rintro e w6 ⟨rfl, b6⟩
            have X6 := X5.call b6
            have Y6 := Y5.call b6
            have O6 := O5.next b6
            go_wp2_with fail
            with_reducible refine (sent_at (S + k) (S + k) _ Y6 M3.out).mono ?_
            rintro e w7 ⟨rfl, Y7, o7⟩
            have X7 := X6.off o7 NE.out.1
            have O7 := O6.trans (o7.mono fun i _ e => Or.inr e)
            go_wp2_with fail
            with_reducible refine (got_at (S + k) (S + k) _ X7 M4.out).mono ?_
            rintro e w8 ⟨rfl, X8, o8⟩
            have Y8 := Y7.off o8 NE.out.2
            have O8 := O7.trans (o8.mono fun i _ e => Or.inl e)
            go_wp2_with fail
            with_reducible refine (late_at (S + k) (v := false) _ X8 L1.out).mono ?_
            rintro e w9 ⟨rfl, b9⟩
            have X9 := X8.call b9
            have Y9 := Y8.call b9
            have O9 := O8.next b9
            go_wp2_with fail
            with_reducible refine (late_at (S + k) (v := false) _ Y9 L2.out).mono ?_
            rintro e w10 ⟨rfl, b10⟩
            have X10 := X9.call b10
            have Y10 := Y9.call b10
            have O10 := O9.next b10
            go_wp2_with fail
            go_roundw
            case rel => exact ⟨k + 1, by omega, by omega, by go_num, ⟨_, _, X10, Y10, by omega, by push_cast; omega, by omega, by push_cast; omega, by push_cast; omega, by push_cast; omega⟩, O10⟩
            case measure => simp [intOf]; omega
          · have E1 := Lib.hid (due_yes g v u (S + k) (by omega) (by omega) (by omega) (by omega) (by omega))
            have M1 := Lib.hid (mom_le v u (S + k) (by omega) (by omega) (by omega))
            have M2 := Lib.hid (mom_le u v (S + k) (by omega) (by omega) (by omega))
            have E2 := Lib.hid (due_no f (S + k) v (S + k) (by omega) (by omega) (by omega) (by omega))
            have L1 := Lib.hid (late_no p v (S + k) (S + k) (by omega) (by omega) (by omega) (by omega))
            have L2 := Lib.hid (late_no q (S + k) v (S + k) (by omega) (by omega) (by omega) (by omega))
            go_wp2_with fail
            with_reducible refine (due_at (S + k) (v := true) _ H0.out.1 E1.out).mono ?_
            rintro e w3 ⟨rfl, b3⟩
            have X3 := H0.out.1.call b3
            have Y3 := H0.out.2.call b3
            have O3 := O0.out.next b3
            go_wp2_with fail
            with_reducible refine (sent_at (S + k) (S + k) _ X3 M1.out).mono ?_
            rintro e w4 ⟨rfl, X4, o4⟩
            have Y4 := Y3.off o4 NE.out.2
            have O4 := O3.trans (o4.mono fun i _ e => Or.inl e)
            go_wp2_with fail
            with_reducible refine (got_at (S + k) (S + k) _ Y4 M2.out).mono ?_
            rintro e w5 ⟨rfl, Y5, o5⟩
            have X5 := X4.off o5 NE.out.1
            have O5 := O4.trans (o5.mono fun i _ e => Or.inr e)
            go_wp2_with fail
            with_reducible refine (due_at (S + k) (v := false) _ Y5 E2.out).mono ?_
            rintro e w6 ⟨rfl, b6⟩
            have X6 := X5.call b6
            have Y6 := Y5.call b6
            have O6 := O5.next b6
            go_wp2_with fail
            with_reducible refine (late_at (S + k) (v := false) _ X6 L1.out).mono ?_
            rintro e w9 ⟨rfl, b9⟩
            have X9 := X6.call b9
            have Y9 := Y6.call b9
            have O9 := O6.next b9
            go_wp2_with fail
            with_reducible refine (late_at (S + k) (v := false) _ Y9 L2.out).mono ?_
            rintro e w10 ⟨rfl, b10⟩
            have X10 := X9.call b10
            have Y10 := Y9.call b10
            have O10 := O9.next b10
            go_wp2_with fail
            go_roundw
            case rel => exact ⟨k + 1, by omega, by omega, by go_num, ⟨_, _, X10, Y10, by omega, by push_cast; omega, by omega, by push_cast; omega, by push_cast; omega, by push_cast; omega⟩, O10⟩
            case measure => simp [intOf]; omega
        · by_cases hv : v + f ≤ S + k
          · have E1 := Lib.hid (due_no g v u (S + k) (by omega) (by omega) (by omega) (by omega))
            have E2 := Lib.hid (due_yes f u v (S + k) (by omega) (by omega) (by omega) (by omega) (by omega))
            have M3 := Lib.hid (mom_le u v (S + k) (by omega) (by omega) (by omega))
            have M4 := Lib.hid (mom_le v u (S + k) (by omega) (by omega) (by omega))
            have L1 := Lib.hid (late_no p (S + k) u (S + k) (by omega) (by omega) (by omega) (by omega))
            have L2 := Lib.hid (late_no q u (S + k) (S + k) (by omega) (by omega) (by omega) (by omega))
            go_wp2_with fail
            with_reducible refine (due_at (S + k) (v := false) _ H0.out.1 E1.out).mono ?_
            rintro e w3 ⟨rfl, b3⟩
            have X3 := H0.out.1.call b3
            have Y3 := H0.out.2.call b3
            have O3 := O0.out.next b3
            go_wp2_with fail
            with_reducible refine (due_at (S + k) (v := true) _ Y3 E2.out).mono ?_
            rintro e w6 ⟨rfl, b6⟩
            have X6 := X3.call b6
            have Y6 := Y3.call b6
            have O6 := O3.next b6
            go_wp2_with fail
            with_reducible refine (sent_at (S + k) (S + k) _ Y6 M3.out).mono ?_
            rintro e w7 ⟨rfl, Y7, o7⟩
            have X7 := X6.off o7 NE.out.1
            have O7 := O6.trans (o7.mono fun i _ e => Or.inr e)
            go_wp2_with fail
            with_reducible refine (got_at (S + k) (S + k) _ X7 M4.out).mono ?_
            rintro e w8 ⟨rfl, X8, o8⟩
            have Y8 := Y7.off o8 NE.out.2
            have O8 := O7.trans (o8.mono fun i _ e => Or.inl e)
            go_wp2_with fail
            with_reducible refine (late_at (S + k) (v := false) _ X8 L1.out).mono ?_
            rintro e w9 ⟨rfl, b9⟩
            have X9 := X8.call b9
            have Y9 := Y8.call b9
            have O9 := O8.next b9
            go_wp2_with fail
            with_reducible refine (late_at (S + k) (v := false) _ Y9 L2.out).mono ?_
            rintro e w10 ⟨rfl, b10⟩
            have X10 := X9.call b10
            have Y10 := Y9.call b10
            have O10 := O9.next b10
            go_wp2_with fail
            go_roundw
            case rel => exact ⟨k + 1, by omega, by omega, by go_num, ⟨_, _, X10, Y10, by omega, by push_cast; omega, by omega, by push_cast; omega, by push_cast; omega, by push_cast; omega⟩, O10⟩
            case measure => simp [intOf]; omega
          · have E1 := Lib.hid (due_no g v u (S + k) (by omega) (by omega) (by omega) (by omega))
            have E2 := Lib.hid (due_no f u v (S + k) (by omega) (by omega) (by omega) (by omega))
            have L1 := Lib.hid (late_no p v u (S + k) (by omega) (by omega) (by omega) (by omega))
            have L2 := Lib.hid (late_no q u v (S + k) (by omega) (by omega) (by omega) (by omega))
            go_wp2_with fail
            with_reducible refine (due_at (S + k) (v := false) _ H0.out.1 E1.out).mono ?_
            rintro e w3 ⟨rfl, b3⟩
            have X3 := H0.out.1.call b3
            have Y3 := H0.out.2.call b3
            have O3 := O0.out.next b3
            go_wp2_with fail
            with_reducible refine (due_at (S + k) (v := false) _ Y3 E2.out).mono ?_
            rintro e w6 ⟨rfl, b6⟩
            have X6 := X3.call b6
            have Y6 := Y3.call b6
            have O6 := O3.next b6
            go_wp2_with fail
            with_reducible refine (late_at (S + k) (v := false) _ X6 L1.out).mono ?_
            rintro e w9 ⟨rfl, b9⟩
            have X9 := X6.call b9
            have Y9 := Y6.call b9
            have O9 := O6.next b9
            go_wp2_with fail
            with_reducible refine (late_at (S + k) (v := false) _ Y9 L2.out).mono ?_
            rintro e w10 ⟨rfl, b10⟩
            have X10 := X9.call b10
            have Y10 := Y9.call b10
            have O10 := O9.next b10
            go_wp2_with fail
            go_roundw
            case rel => exact ⟨k + 1, by omega, by omega, by go_num, ⟨_, _, X10, Y10, by omega, by push_cast; omega, by omega, by push_cast; omega, by push_cast; omega, by push_cast; omega⟩, O10⟩
            case measure => simp [intOf]; omega
      · have dl : decide ((k : Int) ≤ (R : Int)) = false := by simpa using hlt
        go_wp2_with (first
          | (go_at_call 13; (with_reducible refine (works14_any _).mono ?_); rintro e w3 ⟨rfl, b3⟩)
          | fail)
        go_ret
        exact ⟨rfl, bn (bo B2.out O0.out (fun i hi e => by have := HXY.out; omega)) b3⟩
theorem walk (a b : Nat) (start : Int) (ticks : Nat) (w : World) (ha : a < 4294967296) (hb : b < 4294967296) (_ : (Lit.int .i64 start).wf = true) (ht : ticks < 65536) :
    Calls Try.prog 3 #[.int .u32 (a : Int), .int .u32 (b : Int), .int .i64 start, .int .u16 (ticks : Int)] w fun e w' => e = .returned (.bool true) ∧ Below w.heap.size w w' := by
  have hb1 := Int.tmod_lt_of_pos start (show (0 : Int) < 1099511627776 by omega)
  have hb2 : -1099511627776 < start.tmod 1099511627776 := by
    rcases Int.lt_or_le start 0 with h | h
    · have := Int.tmod_lt_of_pos (-start) (show (0 : Int) < 1099511627776 by omega)
      rw [Int.neg_tmod] at this
      omega
    · have := Int.tmod_nonneg 1099511627776 h
      omega
  have m1 : (a : Int).tmod 1000 = (a : Int) % 1000 := Int.tmod_eq_emod_of_nonneg (by omega)
  have m2 : (b : Int).tmod 1000 = (b : Int) % 1000 := Int.tmod_eq_emod_of_nonneg (by omega)
  have m3 : (ticks : Int).tmod 500 = (ticks : Int) % 500 := Int.tmod_eq_emod_of_nonneg (by omega)
  rcases Int.lt_or_le (start.tmod 1099511627776) 0 with h | h
  · exact walk_at a (a % 1000) (a % 1000 + 2) b (b % 1000) (b % 1000 + 2) start _ (-(start.tmod 1099511627776)) ticks (ticks % 500) w (by omega) (by omega) (by omega) (by omega) (by omega) (by omega) (by omega) (by omega) rfl ⟨hb2, hb1⟩ (by omega) (Or.inl ⟨h, rfl⟩) (by omega) (by omega) (by omega) ht
  · exact walk_at a (a % 1000) (a % 1000 + 2) b (b % 1000) (b % 1000 + 2) start _ (start.tmod 1099511627776) ticks (ticks % 500) w (by omega) (by omega) (by omega) (by omega) (by omega) (by omega) (by omega) (by omega) rfl ⟨hb2, hb1⟩ (by omega) (Or.inr ⟨h, rfl⟩) (by omega) (by omega) (by omega) ht
end Go.Proofs.Ytbbbanfggcediaa.idleMeets
