/-
  The statement WindowFar, walked: it answers true. Memory that was there stays. No condition.
-/
import Derived.Test.YtppcfkcnaaflgaaWnk
import Derived.Test.YtppcfkcnaaflgaaWna
namespace Go.Proofs.Ytppcfkcnaaflgaa.windowFar
set_option maxRecDepth 100000
open Go.RowKit Go.Proofs.Ytppcfkcnaaflgaa.Utf Go.Proofs.Ytppcfkcnaaflgaa.Ob Go.Proofs.Ytppcfkcnaaflgaa.Wn

def Wi (i : Nat) : Wn := ⟨256, i, 0, true, 256 - i, 256⟩
theorem new_256 (w : World) : Calls Try.prog 10 #[.int .u32 256] w (GivesNew ⟨256, 0, 0, false, 0, 256⟩ w) := wnew_any 256 w (by omega)
theorem beg_256 {b : Nat} (w : World) (h : Win w b ⟨256, 0, 0, false, 0, 256⟩) : Calls Try.prog 16 #[.pointer (some ⟨b, 0, none⟩), .int .u32 0, .int .u32 256] w (Wn.Leaves b (Wi 0) (.tuple #[]) w) := begun_any 0 256 w (by omega) (by omega) h
theorem sent_i {b : Nat} (i : Nat) (w : World) (hi : i < 256) (h : Win w b (Wi i)) : Calls Try.prog 17 #[.pointer (some ⟨b, 0, none⟩)] w (Wn.Leaves b (Wi (i + 1)) (.tuple #[.int .u32 (i : Int), .bool true]) w) :=
  sent_at (Wi (i + 1)) i true w h (by unfold sentW; rw [if_pos (show 0 < (Wi i).out by unfold Wi; simp; omega)]; unfold Wi; simp; omega) (by unfold sentN; rw [if_pos (show 0 < (Wi i).out by unfold Wi; simp; omega)]; rfl) (by unfold sentB Wi; simp; omega)
theorem told_n {b : Nat} (n ni i q : Nat) (w : World) (hi : i < 4294967296) (h : Win w b (Wi n)) (hq : leftN (ni : Int) i n = q) : Calls Try.prog 20 #[.pointer (some ⟨b, 0, none⟩), .int .i64 (ni : Int), .int .u32 (i : Int), .int .u32 0] w (Wn.Leaves b ⟨256, n, 0, true, q, 256⟩ (.tuple #[]) w) := by
  subst hq
  exact told_any (ni : Int) i 0 w hi (by omega) h
theorem left_q {b : Nat} (n q : Nat) (Q : Int) (w : World) (h : Win w b ⟨256, n, 0, true, q, 256⟩) (hq : (q : Int) = Q) : Calls Try.prog 14 #[.pointer (some ⟨b, 0, none⟩)] w fun e w' => e = .returned (.tuple #[.int .u32 Q, .int .u32 256]) ∧ Below w.heap.size w w' := by
  subst hq
  exact left_any w h
set_option maxHeartbeats 4000000 in
theorem walk (s ni i : Nat) (w : World) (hs : s < 256) (hn : ni < 4294967296) (hi : i < 4294967296) :
    Calls Try.prog 7 #[.int .u8 (s : Int), .int .u32 (ni : Int), .int .u32 (i : Int)] w fun e w' => e = .returned (.bool true) ∧ Below w.heap.size w w' := by
  obtain ⟨n, hsn⟩ : ∃ n : Nat, s % 200 = n := ⟨_, rfl⟩
  have hn2 : n < 200 := by omega
  have m1 : (s : Int) % 200 = (n : Int) := by omega
  have m2 : (s : Int).tmod 200 = (n : Int) := by rw [Int.tmod_eq_emod_of_nonneg (by omega)]; exact m1
  have m3 : (s : Int) % 4294967296 % 200 = (n : Int) := by omega
  obtain ⟨x, hx⟩ : ∃ x : Nat, (ni + i + (4294967296 - n)) % 4294967296 = x := ⟨_, rfl⟩
  have e : ((ni : Int) + (i : Int) - (n : Int)) % 4294967296 = (x : Int) := by omega
  obtain ⟨q, hq⟩ : ∃ q : Nat, leftN (ni : Int) i n = q := ⟨_, rfl⟩
  obtain ⟨Q, hQ⟩ : ∃ Q : Int, (q : Int) = Q := ⟨_, rfl⟩
  have hcs : (decide (2147483648 ≤ (x : Int)) = true ∧ Q = 0) ∨ (decide (2147483648 ≤ (x : Int)) = false ∧ min (x : Int) 256 = (x : Int) ∧ Q = (x : Int) ∧ (x : Int) ≤ 256) ∨ (decide (2147483648 ≤ (x : Int)) = false ∧ min (x : Int) 256 = 256 ∧ Q = 256 ∧ (256 : Int) < (x : Int)) := by
    have e1 : (max (ni : Int) 0).toNat = ni := by omega
    unfold leftN at hq
    rw [e1, hx] at hq
    by_cases c1 : x < 2147483648
    · rw [if_pos c1] at hq
      by_cases c2 : x ≤ 256
      · exact Or.inr (Or.inl ⟨by simp; omega, by omega, by omega, by omega⟩)
      · exact Or.inr (Or.inr ⟨by simp; omega, by omega, by omega, by omega⟩)
    · rw [if_neg c1] at hq
      exact Or.inl ⟨by simp; omega, by omega⟩
  have HQ := Lib.hid hq
  have HQ2 := Lib.hid hQ
  have HE := Lib.hid e
  have HC := Lib.hid hcs
  have HI := Lib.hid hi
  clear hsn hx hq hQ e hcs hi hs
  go_enter Try.func7, Try.ntmps7
  go_wp2_with fail
  with_reducible refine (new_256 _).mono ?_
  rintro e w1 ⟨b, rfl, h1, hb, b1⟩
  go_wp2_with fail
  with_reducible refine (beg_256 _ h1).mono ?_
  rintro e w2 ⟨rfl, h2, o2⟩
  have H2 := Lib.hid h2
  have HB := Lib.hid hb
  have B2 : Hid (Below w.heap.size w w2) := Lib.hid (bo b1 o2 (fun i hi e => by omega))
  clear h1 hb b1 h2 o2
  go_wp2_with fail
  simp only [m3]
  clear m1 m2 m3
  go_loopw [9] (fun i wx => ∃ k : Nat, k ≤ n ∧ i = .int .u32 k ∧ Win wx b (Wi k) ∧ Off (fun i => i = b) w2 wx) (fun i _ => n - (intOf i).toNat)
  case atStart => exact ⟨0, Nat.zero_le _, rfl, H2.out, Off.refl _ _⟩
  case round =>
    obtain ⟨k, hk, rfl, h, ho⟩ := hrel
    have HO := Lib.hid ho
    have HH := Lib.hid h
    clear h ho
    by_cases hlt : k < n
    · have dl : decide ((k : Int) < (n : Int)) = true := by simpa using hlt
      go_wp2_with fail
      with_reducible refine (sent_i k _ (by omega) HH.out).mono ?_
      rintro e w4 ⟨rfl, h4, o4⟩
      go_wp2
      go_roundw
      case rel => exact ⟨k + 1, by omega, by go_num, h4, HO.out.trans o4⟩
      case measure => simp [intOf]; omega
    · have dl : decide ((k : Int) < (n : Int)) = false := by simpa using hlt
      obtain rfl : k = n := by omega
      go_wp2_with fail
      with_reducible refine (told_n k ni i q _ HI.out HH.out HQ.out).mono ?_
      rintro e w4 ⟨rfl, h4, o4⟩
      go_wp2_with fail
      with_reducible refine (left_q k q Q _ h4 HQ2.out).mono ?_
      rintro e w5 ⟨rfl, b5⟩
      have B5 : Hid (Below w.heap.size w w5) := Lib.hid (bo B2.out ((HO.out.trans o4).next b5) (fun i hi e => by have := HB.out; omega))
      have e5 := HE.out
      clear hlt hk h4 o4 b5
      rcases HC.out with ⟨d2, rfl⟩ | ⟨d2, d3, rfl, _⟩ | ⟨d2, d3, rfl, _⟩
      all_goals
        go_wp2_with (first
          | (go_at_call 9; (with_reducible refine (works15_any _).mono ?_); rintro e w6 ⟨rfl, hb6⟩)
          | fail)
        go_ret
        exact ⟨rfl, bn B5.out hb6⟩
end Go.Proofs.Ytppcfkcnaaflgaa.windowFar
