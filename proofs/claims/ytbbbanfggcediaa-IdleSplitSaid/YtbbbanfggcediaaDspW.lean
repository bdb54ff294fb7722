/-
  The statement IdleSplit, walked: it answers true. Memory that was there stays. No condition.
-/
import Derived.Test.YtbbbanfggcediaaIdw
import Derived.Test.YtbbbanfggcediaaIda
namespace Go.Proofs.Ytbbbanfggcediaa.idleSplit
set_option maxRecDepth 100000
open Go.RowKit Go.Proofs.Ytbbbanfggcediaa.Utf Go.Proofs.Ytbbbanfggcediaa.Ob Go.Proofs.Ytbbbanfggcediaa.Id

theorem mom_le (g s X : Int) (hg : g ≤ X) (hs : s ≤ X) (hX : X ≤ 2305843009213693952) : momI g s X = X := by unfold momI; omega
theorem over_le (t l g s X : Int) (hg : g ≤ X) (hs : s ≤ X) (hX : X ≤ 2305843009213693952) : overB t l (momI g s X) = overB t l X := by rw [mom_le g s X hg hs hX]
theorem new_0 (p q : Nat) (w : World) (hp : p < 4294967296) (hq : q < 4294967296) : Calls Try.prog 8 #[.int .u32 (p : Int), .int .u32 (q : Int), .int .i64 0] w (GivesIdl ((lenN p : Nat) : Int) 0 ((halfN (lenN q) : Nat) : Int) 0 w) := inew_any p q 0 w hp hq
theorem new_l (p : Nat) (w : World) (hp : p < 4294967296) : Calls Try.prog 8 #[.int .u32 (p : Int), .int .u32 0, .int .i64 0] w (GivesIdl ((lenN p : Nat) : Int) 0 0 0 w) := inew_any p 0 0 w hp (by omega)
theorem new_r (q : Nat) (w : World) (hq : q < 4294967296) : Calls Try.prog 8 #[.int .u32 0, .int .u32 (q : Int), .int .i64 0] w (GivesIdl 0 0 ((halfN (lenN q) : Nat) : Int) 0 w) := inew_any 0 q 0 w (by omega) hq
def Xs (x y z i : Nat) : Prop := i = x ∨ i = y ∨ i = z
/-- Both waits in one, and each in one of its own. -/
def Sp (w : World) (x y z : Nat) (o p : Int) (N : Nat) : Prop := ∃ g s, Idl w x o g p s ∧ Idl w y o g 0 0 ∧ Idl w z 0 0 p s ∧ g ≤ (N : Int) ∧ s ≤ (N : Int)
set_option maxHeartbeats 4000000 in
theorem walk (own peer : Nat) (A : Option Addr) (l c0 : Nat) (ts : List Nat) (A2 : Option Addr) (l2 c2 : Nat) (T : Nat → Bool) (w : World) (ho : own < 4294967296) (hp : peer < 4294967296) (hr : Rd .u16 65536 w w.heap.size A l ts) (_ : l ≤ c0) (hb : Bs w w.heap.size A2 l2 T) (_ : l2 ≤ 9223372036854775807) :
    Calls Try.prog 6 #[.int .u32 (own : Int), .int .u32 (peer : Int), .slice A l c0, .slice A2 l2 c2] w fun e w' => e = .returned (.bool true) ∧ Below w.heap.size w w' := by
  have HN1 := Lib.hid (fun wx => new_0 own peer wx ho hp)
  have HN2 := Lib.hid (fun wx => new_l own wx ho)
  have HN3 := Lib.hid (fun wx => new_r peer wx hp)
  obtain ⟨f, hf⟩ : ∃ f : Int, ((lenN own : Nat) : Int) = f := ⟨_, rfl⟩
  obtain ⟨g, hg⟩ : ∃ g : Int, ((halfN (lenN peer) : Nat) : Int) = g := ⟨_, rfl⟩
  rw [hf] at HN1 HN2
  rw [hg] at HN1 HN3
  clear hf hg
  have HR := Lib.hid hr
  have HB := Lib.hid hb
  clear hr hb
  by_cases h2 : 200 < l
  · have d : decide (200 < (l : Int)) = true := by simp; omega
    clear h2
    go_enter Try.func6, Try.ntmps6
    go_wp2_with (first
      | (go_at_call 13; (with_reducible refine (works14_any _).mono ?_); rintro e w3 ⟨rfl, hb3⟩)
      | fail)
    go_ret
    exact ⟨rfl, hb3⟩
  have d : decide (200 < (l : Int)) = false := by simp; omega
  by_cases h3 : l2 < l
  · have d2 : decide (l2 < l) = true := by simpa using h3
    clear h2
    go_enter Try.func6, Try.ntmps6
    go_wp2_with (first
      | (go_at_call 13; (with_reducible refine (works14_any _).mono ?_); rintro e w3 ⟨rfl, hb3⟩)
      | fail)
    go_ret
    exact ⟨rfl, hb3⟩
  have d2 : decide (l2 < l) = false := by simpa using h3
  go_enter Try.func6, Try.ntmps6
  go_wp2_with fail
  with_reducible refine (HN1.out _).mono ?_
  rintro e w1 ⟨x, rfl, h1, hx, b1⟩
  go_wp2_with fail
  with_reducible refine (HN2.out _).mono ?_
  rintro e w2 ⟨y, rfl, y2, hy, b2⟩
  have x2 := h1.call b2
  go_wp2_with fail
  with_reducible refine (HN3.out _).mono ?_
  rintro e w3 ⟨z, rfl, z3, hz, b3⟩
  have x3 := x2.call b3
  have y3 := y2.call b3
  have NE : Hid (¬ x = y ∧ ¬ y = x ∧ ¬ z = x ∧ ¬ x = z ∧ ¬ z = y ∧ ¬ y = z) := Lib.hid (by have := h1.lt; have := x2.lt; have := y2.lt; have := b2.size; omega)
  have HXY : Hid (w.heap.size ≤ x ∧ w.heap.size ≤ y ∧ w.heap.size ≤ z) := Lib.hid (by have := b1.size; have := b2.size; omega)
  have B3 := Lib.hid (bn (bn b1 b2) b3)
  have H3 : Hid (Sp w3 x y z f g 0) := Lib.hid ⟨_, _, x3, y3, z3, by omega, by omega⟩
  clear h1 x2 y2 z3 x3 y3 hx hy hz b1 b2 b3
  go_wp2_with fail
  go_loopw [12, 13] (fun n i wx => ∃ k N : Nat, k ≤ l ∧ N ≤ 65535 * k ∧ n = .int .i64 N ∧ i = .int .i64 k ∧ Sp wx x y z f g N ∧ Off (Xs x y z) w3 wx) (fun _ i _ => l - (intOf i).toNat)
  case atStart => exact ⟨0, 0, by omega, by omega, rfl, rfl, H3.out, Off.refl _ _⟩
  case round =>
    obtain ⟨k, N, hk, hN, rfl, rfl, ⟨u, v, hX, hY, hZ, i1, i2⟩, ho⟩ := hrel
    have hW : Below w.heap.size w wr := bo B3.out ho (fun i hi e => by have := HXY.out; rcases e with e | e | e <;> omega)
    have H0 : Hid (Idl wr x f u g v ∧ Idl wr y f u 0 0 ∧ Idl wr z 0 0 g v) := Lib.hid ⟨hX, hY, hZ⟩
    have O0 := Lib.hid ho
    by_cases hlt : k < l
    · have dl : decide (k < l) = true := by simpa using hlt
      obtain ⟨b, o, c, rfl, hbl, _, hc, hcell⟩ := (HR.out.below hW).at_ hlt
      obtain ⟨b2, o2, rfl, hb2l, hcell2⟩ := (HB.out.call hW) k (by omega)
      have hbl2 := Nat.lt_of_lt_of_le hb2l hW.size
      have hcb := HB.out
      obtain ⟨v1, hv1⟩ : ∃ v1, overB f u ((N : Int) + c) = v1 := ⟨_, rfl⟩
      obtain ⟨v2, hv2⟩ : ∃ v2, overB g v ((N : Int) + c) = v2 := ⟨_, rfl⟩
      have n1 : (v1 != v1) = false := by simp
      have n2 : (v2 != v2) = false := by simp
      have hN2 : N ≤ 13107000 := by omega
      have L1 := Lib.hid ((over_le f u u v ((N : Int) + c) (by omega) (by omega) (by omega)).trans hv1)
      have L2 := Lib.hid ((over_le f u u 0 ((N : Int) + c) (by omega) (by omega) (by omega)).trans hv1)
      have L3 := Lib.hid ((over_le g v u v ((N : Int) + c) (by omega) (by omega) (by omega)).trans hv2)
      have L4 := Lib.hid ((over_le g v 0 v ((N : Int) + c) (by omega) (by omega) (by omega)).trans hv2)
      have M1 := Lib.hid (mom_le u v ((N : Int) + c) (by omega) (by omega) (by omega))
      have M2 := Lib.hid (mom_le u 0 ((N : Int) + c) (by omega) (by omega) (by omega))
      have M3 := Lib.hid (mom_le 0 v ((N : Int) + c) (by omega) (by omega) (by omega))
      have HW := Lib.hid hW
      have HC2 : Hid (∀ wx, Below w.heap.size w wx → wx.cell? ⟨b2, o2 + k, none⟩ = some (.bool (T k))) := Lib.hid fun wx hwx => by
        obtain ⟨b', o', e, _, hc'⟩ := (hcb.call hwx) k (by omega)
        injection e with e
        injection e with e1 e2
        subst e1
        subst e2
        exact hc'
      clear hX hY hZ hW ho hcb hv1 hv2 hcell2
      go_wp2_with fail
      with_reducible refine (late_at ((N : Int) + c) (v := v1) _ H0.out.1 L1.out).mono ?_
      rintro e w4 ⟨rfl, b4⟩
      have X4 := H0.out.1.call b4
      have I4 := H0.out.2.1.call b4
      have U4 := H0.out.2.2.call b4
      have O4 := O0.out.next b4
      go_wp2_with fail
      with_reducible refine (late_at ((N : Int) + c) (v := v1) _ I4 L2.out).mono ?_
      rintro e w5 ⟨rfl, b5⟩
      have X5 := X4.call b5
      have I5 := I4.call b5
      have U5 := U4.call b5
      have O5 := O4.next b5
      go_wp2_with fail
      with_reducible refine (due_at ((N : Int) + c) (v := v2) _ X5 L3.out).mono ?_
      rintro e w6 ⟨rfl, b6⟩
      have X6 := X5.call b6
      have I6 := I5.call b6
      have U6 := U5.call b6
      have O6 := O5.next b6
      go_wp2_with fail
      with_reducible refine (due_at ((N : Int) + c) (v := v2) _ U6 L4.out).mono ?_
      rintro e w7 ⟨rfl, b7⟩
      have X7 := X6.call b7
      have I7 := I6.call b7
      have U7 := U6.call b7
      have O7 := O6.next b7
      have hk7 := HC2.out w7 (bo B3.out O7 (fun i hi e => by have := HXY.out; rcases e with e | e | e <;> omega))
      cases hT : T k
      · rw [hT] at hk7
        clear hT
        go_wp2_with fail
        with_reducible refine (sent_at ((N : Int) + c) ((N : Int) + c) _ X7 M1.out).mono ?_
        rintro e w8 ⟨rfl, X8, o8⟩
        have I8 := I7.off o8 NE.out.2.1
        have U8 := U7.off o8 NE.out.2.2.1
        have O8 := O7.trans (o8.mono fun i _ e => (Or.inl e : Xs x y z i))
        go_wp2_with fail
        with_reducible refine (sent_at ((N : Int) + c) ((N : Int) + c) _ U8 M3.out).mono ?_
        rintro e w9 ⟨rfl, U9, o9⟩
        have X9 := X8.off o9 NE.out.2.2.2.1
        have I9 := I8.off o9 NE.out.2.2.2.2.2
        have O9 := O8.trans (o9.mono fun i _ e => (Or.inr (Or.inr e) : Xs x y z i))
        go_wp2_with fail
        go_roundw
        case rel => exact ⟨k + 1, N + c, by omega, by omega, by go_num, by go_num, ⟨_, _, X9, I9, U9, by push_cast; omega, by push_cast; omega⟩, O9⟩
        case measure => simp [intOf]; omega
      · rw [hT] at hk7
        clear hT
        go_wp2_with fail
        with_reducible refine (got_at ((N : Int) + c) ((N : Int) + c) _ X7 M1.out).mono ?_
        rintro e w8 ⟨rfl, X8, o8⟩
        have I8 := I7.off o8 NE.out.2.1
        have U8 := U7.off o8 NE.out.2.2.1
        have O8 := O7.trans (o8.mono fun i _ e => (Or.inl e : Xs x y z i))
        go_wp2_with fail
        with_reducible refine (got_at ((N : Int) + c) ((N : Int) + c) _ I8 M2.out).mono ?_
        rintro e w9 ⟨rfl, I9, o9⟩
        have X9 := X8.off o9 NE.out.1
        have U9 := U8.off o9 NE.out.2.2.2.2.1
        have O9 := O8.trans (o9.mono fun i _ e => (Or.inr (Or.inl e) : Xs x y z i))
        go_wp2_with fail
        go_roundw
        case rel => exact ⟨k + 1, N + c, by omega, by omega, by go_num, by go_num, ⟨_, _, X9, I9, U9, by push_cast; omega, by push_cast; omega⟩, O9⟩
        case measure => simp [intOf]; omega
    · have dl : decide (k < l) = false := by simpa using hlt
      have HW := Lib.hid hW
      clear hX hY hZ hW ho
      go_wp2_with (first
        | (go_at_call 13; (with_reducible refine (works14_any _).mono ?_); rintro e w4 ⟨rfl, b4⟩)
        | fail)
      go_ret
      exact ⟨rfl, bn HW.out b4⟩
end Go.Proofs.Ytbbbanfggcediaa.idleSplit
