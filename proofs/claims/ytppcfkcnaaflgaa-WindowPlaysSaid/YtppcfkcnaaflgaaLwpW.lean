/-
  The statement WindowPlays, walked: it answers true. Memory that was there stays. No condition.
-/
import Derived.Test.YtppcfkcnaaflgaaWnk
import Derived.Test.YtppcfkcnaaflgaaWnm
import Derived.Test.YtppcfkcnaaflgaaWna
namespace Go.Proofs.Ytppcfkcnaaflgaa.windowPlays
set_option maxRecDepth 100000
open Go.RowKit Go.Proofs.Ytppcfkcnaaflgaa.Utf Go.Proofs.Ytppcfkcnaaflgaa.Ob Go.Proofs.Ytppcfkcnaaflgaa.Wn

def Bc (b c : Nat) : Nat → Prop := fun i => i = b ∨ i = c
set_option maxHeartbeats 4000000 in
theorem walk (g : Nat) (ss : List Op4) (A : Option Addr) (l c : Nat) (w : World) (hg : g < 4294967296) (hs : WOps w w.heap.size A l ss) (hl : l ≤ 9223372036854775807) :
    Calls Try.prog 3 #[.int .u32 (g : Int), .slice A l c] w fun e w' => e = .returned (.bool true) ∧ Below w.heap.size w w' := by
  by_cases h2 : 300 < l
  · have d : decide (300 < (l : Int)) = true := by simp; omega
    clear h2 hs hl
    go_enter Try.func3, Try.ntmps3
    go_wp2_with (first
      | (go_at_call 9; (with_reducible refine (works15_any _).mono ?_); rintro e w3 ⟨rfl, hb3⟩)
      | fail)
    go_ret
    exact ⟨rfl, hb3⟩
  have d : decide (300 < (l : Int)) = false := by simp; omega
  have hl2 : l ≤ 300 := by omega
  have HS := Lib.hid hs
  have HN := Lib.hid (fun wx => wnew_any g wx hg)
  clear h2 hs hl
  go_enter Try.func3, Try.ntmps3
  go_wp2_with fail
  with_reducible refine (HN.out _).mono ?_
  rintro e w1 ⟨b, rfl, h1, hb, b1⟩
  go_wp2_with fail
  with_reducible refine (xwnew_any g _).mono ?_
  rintro e w2 ⟨x, rfl, x1, hx, b2⟩
  have H1 := Lib.hid (h1.call b2)
  have X1 := Lib.hid x1
  have HB := Lib.hid hb
  have HX : Hid (w.heap.size ≤ x ∧ ¬ x = b) := Lib.hid ⟨by have := b1.size; omega, by have := h1.lt; omega⟩
  have B2 := Lib.hid (bn b1 b2)
  clear h1 hb b1 x1 hx b2
  go_wp2_with fail
  go_loopw [7] (fun i wx => ∃ (k : Nat) (W : Wn), k ≤ l ∧ i = .int .i64 k ∧ Win wx b W ∧ Xin wx x W ∧ Off (Bc b x) w2 wx) (fun i _ => l - (intOf i).toNat)
  case atStart => exact ⟨0, _, Nat.zero_le _, rfl, H1.out, X1.out, Off.refl _ _⟩
  case round =>
    obtain ⟨k, W, hk, rfl, hw, hx, ho⟩ := hrel
    have HW : Hid (Below w.heap.size w wr) := Lib.hid (bo B2.out ho (fun i hi e => by have := HB.out; have := HX.out; rcases e with e | e <;> omega))
    have HO := Lib.hid ho
    have HH := Lib.hid hw
    have XX := Lib.hid hx
    clear hw hx ho
    by_cases hlt : k < l
    · have dl : decide (k < l) = true := by simpa using hlt
      obtain ⟨b2, o2, q, rfl, hb2, _, lo, _, _, kA, kB⟩ := HS.out.at_ hlt
      have LO := Lib.hid (fun wx (hx : Below w.heap.size w wx) => lo.call hx hb2)
      have KA := Lib.hid kA
      have KB := Lib.hid kB
      obtain ⟨qk, qN, qA, qB⟩ := q
      obtain ⟨c0, c1, c2, c3⟩ := LO.out _ HW.out
      simp only at c0 c1 c2 c3
      obtain ⟨V, hV⟩ : ∃ V, doW W qk qN qA qB = V := ⟨_, rfl⟩
      obtain ⟨a1, ha1⟩ : ∃ V : Int, ((doA W qk : Nat) : Int) = V := ⟨_, rfl⟩
      obtain ⟨a2, ha2⟩ : ∃ V : Int, ((doB W qk : Nat) : Int) = V := ⟨_, rfl⟩
      obtain ⟨a3, ha3⟩ : ∃ V : Int, ((doC W qk : Nat) : Int) = V := ⟨_, rfl⟩
      obtain ⟨a4, ha4⟩ : ∃ V, doI W qk = V := ⟨_, rfl⟩
      have D1 := Lib.hid (wdoes_at qk qN qA qB V a1 a2 a3 a4 _ KA.out KB.out HH.out hV ha1 ha2 ha3 ha4)
      have D2 := Lib.hid (fun wx (hx : Xin wx x W) => wmeant_at qk qN qA qB V a1 a2 a3 a4 wx KA.out KB.out hx hV ha1 ha2 ha3 ha4)
      clear hV ha1 ha2 ha3 ha4 lo kA kB hb2
      go_wp2_with fail
      with_reducible refine D1.out.mono ?_
      rintro e w4 ⟨rfl, h4, o4⟩
      have T4 := Tl.new w4 a1 a2 a3 a4
      have B4 : Below w4.heap.size w4 (w4.alloc (.cells #[.int .u32 a1, .int .u32 a2, .int .u32 a3, .bool a4] 30 (0, 0))) := ba (Below.refl _ _) _
      have X5 := (XX.out.off o4 HX.out.2).call B4
      have H5 := h4.call B4
      have O5 := (HO.out.trans (o4.mono fun i _ e => (Or.inl e : Bc b x i))).next B4
      obtain ⟨c0', c1', c2', c3'⟩ := LO.out _ (bo B2.out O5 (fun i hi e => by have := HB.out; have := HX.out; rcases e with e | e <;> omega))
      simp only at c0' c1' c2' c3'
      have n4 : ¬ w4.heap.size = x := by have := (XX.out.off o4 HX.out.2).lt; omega
      have N4 := Lib.hid n4
      clear n4 B4 h4
      go_wp2_with fail
      with_reducible refine (D2.out _ X5).mono ?_
      rintro e w6 ⟨rfl, x6, o6⟩
      have H6 := H5.off o6 (fun e => HX.out.2 e.symm)
      have T6 := T4.off o6 N4.out
      have S6 := Tl.new w6 a1 a2 a3 a4
      have B6 : Below w6.heap.size w6 (w6.alloc (.cells #[.int .u32 a1, .int .u32 a2, .int .u32 a3, .bool a4] 30 (0, 0))) := ba (Below.refl _ _) _
      have X7 := x6.call B6
      have H7 := H6.call B6
      have T7 := T6.call B6
      have O7 := (O5.trans (o6.mono fun i _ e => (Or.inr e : Bc b x i))).next B6
      clear X5 H5 O5 x6 o6 o4 H6 T6 T4 B6 N4
      go_wp2_with fail
      with_reducible refine (left_any _ H7).mono ?_
      rintro e w8 ⟨rfl, b8⟩
      have X8 := X7.call b8
      have H8 := H7.call b8
      have T8 := T7.call b8
      have S8 := S6.call b8
      have O8 := O7.next b8
      clear X7 H7 T7 O7
      go_wp2_with fail
      with_reducible refine (xleft_any _ X8).mono ?_
      rintro e w9 ⟨rfl, b9⟩
      have X9 := X8.call b9
      have H9 := H8.call b9
      have T9 := T8.call b9
      have S9 := S8.call b9
      have O9 := O8.next b9
      clear X8 H8 T8 O8
      have t0 := T9.c0
      have t1 := T9.c1
      have t2 := T9.c2
      have t3 := T9.c3
      have s0 := S9.c0
      have s1 := S9.c1
      have s2 := S9.c2
      have s3 := S9.c3
      go_wp2
      go_roundw
      case rel => exact ⟨k + 1, V, by omega, by go_num, H9, X9, O9⟩
      case measure => simp [intOf]; omega
    · have d1 : decide (k < l) = false := by simpa using hlt
      go_wp2_with (first
        | (go_at_call 9; (with_reducible refine (works15_any _).mono ?_); rintro e w3 ⟨rfl, hb3⟩)
        | fail)
      go_ret
      exact ⟨rfl, bn HW.out hb3⟩
end Go.Proofs.Ytppcfkcnaaflgaa.windowPlays
