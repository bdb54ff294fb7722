/-
  The statement WindowBounds, walked: it answers true. Memory that was there stays. No condition.
-/
import Derived.Test.YtppcfkcnaaflgaaWnk
import Derived.Test.YtppcfkcnaaflgaaWna
namespace Go.Proofs.Ytppcfkcnaaflgaa.windowBounds
set_option maxRecDepth 100000
open Go.RowKit Go.Proofs.Ytppcfkcnaaflgaa.Utf Go.Proofs.Ytppcfkcnaaflgaa.Ob Go.Proofs.Ytppcfkcnaaflgaa.Wn

theorem keeps (W : Wn) (k N : Int) (A B : Nat) (h1 : ¬ k = 1) : (doW W k N A B).no = W.no ∧ (doW W k N A B).most = W.most := by
  unfold doW
  rw [if_neg h1]
  split
  · exact ⟨rfl, rfl⟩
  split
  · unfold gotW; split <;> exact ⟨rfl, rfl⟩
  split
  · exact ⟨rfl, rfl⟩
  split <;> exact ⟨rfl, rfl⟩
theorem keep1 (W : Wn) : (sentW W).most = W.most := by unfold sentW; split <;> rfl
set_option maxHeartbeats 8000000 in
theorem walk (g : Nat) (ss : List Op4) (A : Option Addr) (l c : Nat) (w : World) (hg : g < 4294967296) (hs : WOps w w.heap.size A l ss) (hl : l ≤ 9223372036854775807) :
    Calls Try.prog 5 #[.int .u32 (g : Int), .slice A l c] w fun e w' => e = .returned (.bool true) ∧ Below w.heap.size w w' := by
  by_cases h2 : 300 < l
  · have d : decide (300 < (l : Int)) = true := by simp; omega
    clear h2 hs hl
    go_enter Try.func5, Try.ntmps5
    go_wp2_with (first
      | (go_at_call 9; (with_reducible refine (works15_any _).mono ?_); rintro e w3 ⟨rfl, hb3⟩)
      | fail)
    go_ret
    exact ⟨rfl, hb3⟩
  have d : decide (300 < (l : Int)) = false := by simp; omega
  have hl2 : l ≤ 300 := by omega
  have HS := Lib.hid hs
  have HN := Lib.hid (fun wx => wnew_any g wx hg)
  obtain ⟨m, hm⟩ : ∃ m : Nat, min g 256 = m := ⟨_, rfl⟩
  obtain ⟨G, hG⟩ : ∃ G : Nat, max 1 m = G := ⟨_, rfl⟩
  have m1 : min (g : Int) 256 = (m : Int) := by omega
  have m2 : max (1 : Int) (m : Int) = (G : Int) := by omega
  have hGw : Hid ((newW g).most = G ∧ (newW g).no = 0) := Lib.hid ⟨by show max 1 (min g 256) = G; rw [hm, hG], rfl⟩
  have hG2 : G ≤ 256 := by omega
  clear h2 hs hl hm hG
  go_enter Try.func5, Try.ntmps5
  go_wp2_with fail
  with_reducible refine (HN.out _).mono ?_
  rintro e w1 ⟨b, rfl, h1, hb, b1⟩
  have H1 := Lib.hid h1
  have HB := Lib.hid hb
  have B1 := Lib.hid b1
  clear h1 hb b1
  have cs : (g = 0 ∧ G = 1) ∨ (g = 1 ∧ G = 1) ∨ (2 ≤ g ∧ g ≤ 256 ∧ G = g) ∨ (256 < g ∧ G = 256) := by omega
  have CS := Lib.hid cs
  clear m1 m2 cs
  go_upto_region 4 with fail
  go_cut [6] (fun s6 wx => s6 = .int .u32 (G : Int) ∧ w1 = wx)
  case first =>
    rcases CS.out with ⟨rfl, rfl⟩ | ⟨rfl, rfl⟩ | ⟨q1, q2, rfl⟩ | ⟨q1, rfl⟩
    all_goals
      go_wp2_with fail
      all_goals
        try (exfalso; omega)
      all_goals
        go_meet
        exact ⟨rfl, rfl⟩
  case rest =>
  obtain ⟨rfl, rfl⟩ := hcut
  rename ∀ (_ : Act) (_ : World), _ → _ => hK
  refine hK _ _ ?_
  clear hK
  go_wp2_with fail
  skip
  go_loopw [7, 8] (fun nx i wx => ∃ (k : Nat) (W : Wn), k ≤ l ∧ nx = .int .u32 (W.no : Int) ∧ i = .int .i64 k ∧ W.most = G ∧ Win wx b W ∧ Off (fun i => i = b) w1 wx) (fun _ i _ => l - (intOf i).toNat)
  case atStart => exact ⟨0, _, Nat.zero_le _, by rw [hGw.out.2]; rfl, rfl, hGw.out.1, H1.out, Off.refl _ _⟩
  case round =>
    obtain ⟨k, W, hk, rfl, rfl, hm, hw, ho⟩ := hrel
    have HW : Hid (Below w.heap.size w wr) := Lib.hid (bo B1.out ho (fun i hi e => by have := HB.out; omega))
    have HO := Lib.hid ho
    have HH := Lib.hid hw
    have HM := Lib.hid hm
    clear hw ho hm
    by_cases hlt : k < l
    · have dl : decide (k < l) = true := by simpa using hlt
      obtain ⟨b2, o2, q, rfl, hb2, _, lo, _, _, kA, kB⟩ := HS.out.at_ hlt
      have LO := Lib.hid (fun wx (hx : Below w.heap.size w wx) => lo.call hx hb2)
      have KA := Lib.hid kA
      have KB := Lib.hid kB
      obtain ⟨qk, qN, qA, qB⟩ := q
      clear lo kA kB hb2
      go_wp2_with fail
      with_reducible refine (left_any _ HH.out).mono ?_
      rintro e w3 ⟨rfl, b3⟩
      have H3 := Lib.hid (HH.out.call b3)
      have O3 := Lib.hid (HO.out.next b3)
      obtain ⟨c0, c1, c2, c3⟩ := LO.out _ (bo B1.out O3.out (fun i hi e => by have := HB.out; omega))
      simp only at c0 c1 c2 c3
      clear b3
      by_cases k1 : qk = 1
      · subst k1
        by_cases hs : 0 < W.out
        · have hs2 : decide ((0 : Int) < (W.out : Int)) = true := by simp; omega
          obtain ⟨V, hV0⟩ : ∃ V, sentW W = V := ⟨_, rfl⟩
          have hV : doW W 1 qN qA qB = V := hV0
          have ha1 : ((doA W 1 : Nat) : Int) = (W.no : Int) := by show ((sentN W : Nat) : Int) = _; unfold sentN; rw [if_pos hs]
          have ha2 : ((doB W 1 : Nat) : Int) = 0 := rfl
          have ha3 : ((doC W 1 : Nat) : Int) = 0 := rfl
          have ha4 : doI W 1 = true := by show sentB W = true; simp [sentB]; omega
          have vno : V.no = (W.no + 1) % 4294967296 := by rw [← hV0]; unfold sentW; rw [if_pos hs]
          have vm : V.most = G := by rw [← hV0, keep1]; exact HM.out
          have ok : Ok V := hV0 ▸ H3.out.ok.sent
          have D1 := Lib.hid (wdoes_at 1 qN qA qB V (W.no : Int) 0 0 true _ KA.out KB.out H3.out hV ha1 ha2 ha3 ha4)
          clear hV0
          have vo : decide (256 < (V.out : Int)) = false := by have := ok.out; simp; omega
          have vi : decide ((G : Int) < (V.inn : Int)) = false := by have := ok.inn; rw [vm] at this; simp; omega
          have vin : V.inn ≤ G := by have := ok.inn; omega
          clear hV ha1 ha2 ha3 ha4
          go_wp2_with fail
          with_reducible refine D1.out.mono ?_
          rintro e w4 ⟨rfl, h4, o4⟩
          have T4 := Tl.new w4 (W.no : Int) 0 0 true
          have B4 : Below w4.heap.size w4 (w4.alloc (.cells #[.int .u32 (W.no : Int), .int .u32 0, .int .u32 0, .bool true] 30 (0, 0))) := ba (Below.refl _ _) _
          have H5 := Lib.hid (h4.call B4)
          have O5 := Lib.hid ((O3.out.trans o4).next B4)
          obtain ⟨e0, e1, e2, e3⟩ := LO.out _ (bo B1.out O5.out (fun i hi e => by have := HB.out; omega))
          simp only at e0 e1 e2 e3
          have t0 := T4.c0
          have t1 := T4.c1
          have t2 := T4.c2
          have t3 := T4.c3
          clear B4 T4 h4 o4
          go_wp2_with fail
          with_reducible refine (left_any _ H5.out).mono ?_
          rintro e w6 ⟨rfl, b6⟩
          go_wp2
          go_roundw
          case rel => exact ⟨k + 1, V, by omega, by rw [vno]; simp, by go_num, vm, H5.out.call b6, O5.out.next b6⟩
          case measure => simp [intOf]; omega
        · have hs0 : W.out = 0 := by omega
          have hs2 : decide ((0 : Int) < (W.out : Int)) = false := by simp; omega
          obtain ⟨V, hV0⟩ : ∃ V, sentW W = V := ⟨_, rfl⟩
          have hV : doW W 1 qN qA qB = V := hV0
          have ha1 : ((doA W 1 : Nat) : Int) = 0 := by show ((sentN W : Nat) : Int) = 0; unfold sentN; rw [if_neg hs]; rfl
          have ha2 : ((doB W 1 : Nat) : Int) = 0 := rfl
          have ha3 : ((doC W 1 : Nat) : Int) = 0 := rfl
          have ha4 : doI W 1 = false := by show sentB W = false; simp [sentB]; omega
          have vno : V.no = W.no := by rw [← hV0]; unfold sentW; rw [if_neg hs]
          have vm : V.most = G := by rw [← hV0, keep1]; exact HM.out
          have ok : Ok V := hV0 ▸ H3.out.ok.sent
          have D1 := Lib.hid (wdoes_at 1 qN qA qB V 0 0 0 false _ KA.out KB.out H3.out hV ha1 ha2 ha3 ha4)
          clear hV0
          have vo : decide (256 < (V.out : Int)) = false := by have := ok.out; simp; omega
          have vi : decide ((G : Int) < (V.inn : Int)) = false := by have := ok.inn; rw [vm] at this; simp; omega
          have vin : V.inn ≤ G := by have := ok.inn; omega
          clear hV ha1 ha2 ha3 ha4
          go_wp2_with fail
          with_reducible refine D1.out.mono ?_
          rintro e w4 ⟨rfl, h4, o4⟩
          have T4 := Tl.new w4 0 0 0 false
          have B4 : Below w4.heap.size w4 (w4.alloc (.cells #[.int .u32 0, .int .u32 0, .int .u32 0, .bool false] 30 (0, 0))) := ba (Below.refl _ _) _
          have H5 := Lib.hid (h4.call B4)
          have O5 := Lib.hid ((O3.out.trans o4).next B4)
          obtain ⟨e0, e1, e2, e3⟩ := LO.out _ (bo B1.out O5.out (fun i hi e => by have := HB.out; omega))
          simp only at e0 e1 e2 e3
          have t0 := T4.c0
          have t1 := T4.c1
          have t2 := T4.c2
          have t3 := T4.c3
          clear B4 T4 h4 o4
          go_wp2_with fail
          with_reducible refine (left_any _ H5.out).mono ?_
          rintro e w6 ⟨rfl, b6⟩
          go_wp2
          go_roundw
          case rel => exact ⟨k + 1, V, by omega, by rw [vno], by go_num, vm, H5.out.call b6, O5.out.next b6⟩
          case measure => simp [intOf]; omega
      have f1 : (qk == 1) = false := by simpa using k1
      obtain ⟨V, hV⟩ : ∃ V, doW W qk qN qA qB = V := ⟨_, rfl⟩
      have vno : V.no = W.no := by rw [← hV]; exact (keeps W qk qN qA qB k1).1
      have vm : V.most = G := by rw [← hV, (keeps W qk qN qA qB k1).2]; exact HM.out
      have ok : Ok V := hV ▸ okdo H3.out.ok KA.out KB.out
      by_cases k2 : qk = 2
      · subst k2
        by_cases hs : gotB W = true
        · have hs2 : ((W.inn : Int) == 0) = false := by simp [gotB] at hs; simp; omega
          have ha1 : ((doA W 2 : Nat) : Int) = 0 := rfl
          have ha2 : ((doB W 2 : Nat) : Int) = 0 := rfl
          have ha3 : ((doC W 2 : Nat) : Int) = 0 := rfl
          have ha4 : doI W 2 = true := hs
          have D1 := Lib.hid (wdoes_at 2 qN qA qB V 0 0 0 true _ KA.out KB.out H3.out hV ha1 ha2 ha3 ha4)
          clear hs
          have vo : decide (256 < (V.out : Int)) = false := by have := ok.out; simp; omega
          have vi : decide ((G : Int) < (V.inn : Int)) = false := by have := ok.inn; rw [vm] at this; simp; omega
          have vin : V.inn ≤ G := by have := ok.inn; omega
          clear hV ha1 ha2 ha3 ha4
          go_wp2_with fail
          with_reducible refine D1.out.mono ?_
          rintro e w4 ⟨rfl, h4, o4⟩
          have T4 := Tl.new w4 0 0 0 true
          have B4 : Below w4.heap.size w4 (w4.alloc (.cells #[.int .u32 0, .int .u32 0, .int .u32 0, .bool true] 30 (0, 0))) := ba (Below.refl _ _) _
          have H5 := Lib.hid (h4.call B4)
          have O5 := Lib.hid ((O3.out.trans o4).next B4)
          obtain ⟨e0, e1, e2, e3⟩ := LO.out _ (bo B1.out O5.out (fun i hi e => by have := HB.out; omega))
          simp only at e0 e1 e2 e3
          have t0 := T4.c0
          have t1 := T4.c1
          have t2 := T4.c2
          have t3 := T4.c3
          clear B4 T4 h4 o4
          go_wp2_with fail
          with_reducible refine (left_any _ H5.out).mono ?_
          rintro e w6 ⟨rfl, b6⟩
          go_wp2
          go_roundw
          case rel => exact ⟨k + 1, V, by omega, by rw [vno], by go_num, vm, H5.out.call b6, O5.out.next b6⟩
          case measure => simp [intOf]; omega
        · have hs2 : gotB W = false := by simpa using hs
          have ha1 : ((doA W 2 : Nat) : Int) = 0 := rfl
          have ha2 : ((doB W 2 : Nat) : Int) = 0 := rfl
          have ha3 : ((doC W 2 : Nat) : Int) = 0 := rfl
          have ha4 : doI W 2 = false := hs2
          have D1 := Lib.hid (wdoes_at 2 qN qA qB V 0 0 0 false _ KA.out KB.out H3.out hV ha1 ha2 ha3 ha4)
          clear hs hs2
          have vo : decide (256 < (V.out : Int)) = false := by have := ok.out; simp; omega
          have vi : decide ((G : Int) < (V.inn : Int)) = false := by have := ok.inn; rw [vm] at this; simp; omega
          have vin : V.inn ≤ G := by have := ok.inn; omega
          clear hV ha1 ha2 ha3 ha4
          go_wp2_with fail
          with_reducible refine D1.out.mono ?_
          rintro e w4 ⟨rfl, h4, o4⟩
          have T4 := Tl.new w4 0 0 0 false
          have B4 : Below w4.heap.size w4 (w4.alloc (.cells #[.int .u32 0, .int .u32 0, .int .u32 0, .bool false] 30 (0, 0))) := ba (Below.refl _ _) _
          have H5 := Lib.hid (h4.call B4)
          have O5 := Lib.hid ((O3.out.trans o4).next B4)
          obtain ⟨e0, e1, e2, e3⟩ := LO.out _ (bo B1.out O5.out (fun i hi e => by have := HB.out; omega))
          simp only at e0 e1 e2 e3
          have t0 := T4.c0
          have t1 := T4.c1
          have t2 := T4.c2
          have t3 := T4.c3
          clear B4 T4 h4 o4
          go_wp2_with fail
          with_reducible refine (left_any _ H5.out).mono ?_
          rintro e w6 ⟨rfl, b6⟩
          go_wp2
          go_roundw
          case rel => exact ⟨k + 1, V, by omega, by rw [vno], by go_num, vm, H5.out.call b6, O5.out.next b6⟩
          case measure => simp [intOf]; omega
      have f2 : (qk == 2) = false := by simpa using k2
      by_cases k4 : qk = 4
      · subst k4
        obtain ⟨v, hv⟩ : ∃ v, needB W = v := ⟨_, rfl⟩
        have hv2 : decide ((W.inn : Int) ≤ (G : Int) / 2) = v := by rw [← hv, ← HM.out]; unfold needB; congr 1; apply propext; omega
        have hv3 : decide ((W.inn : Int) ≤ (G : Int) / 2 % 4294967296) = v := by rw [← hv2]; congr 1; apply propext; omega
        have em : (G : Int).tdiv 2 = (G : Int) / 2 := Int.tdiv_eq_ediv_of_nonneg (by omega)
        have vv : (v != v) = false := by simp
        have ha1 : ((doA W 4 : Nat) : Int) = 0 := rfl
        have ha2 : ((doB W 4 : Nat) : Int) = 0 := rfl
        have ha3 : ((doC W 4 : Nat) : Int) = 0 := rfl
        have ha4 : doI W 4 = v := hv
        have D1 := Lib.hid (wdoes_at 4 qN qA qB V 0 0 0 v _ KA.out KB.out H3.out hV ha1 ha2 ha3 ha4)
        clear hv
        have vo : decide (256 < (V.out : Int)) = false := by have := ok.out; simp; omega
        have vi : decide ((G : Int) < (V.inn : Int)) = false := by have := ok.inn; rw [vm] at this; simp; omega
        have vin : V.inn ≤ G := by have := ok.inn; omega
        clear hV ha1 ha2 ha3 ha4
        go_wp2_with fail
        with_reducible refine D1.out.mono ?_
        rintro e w4 ⟨rfl, h4, o4⟩
        have T4 := Tl.new w4 0 0 0 v
        have B4 : Below w4.heap.size w4 (w4.alloc (.cells #[.int .u32 0, .int .u32 0, .int .u32 0, .bool v] 30 (0, 0))) := ba (Below.refl _ _) _
        have H5 := Lib.hid (h4.call B4)
        have O5 := Lib.hid ((O3.out.trans o4).next B4)
        obtain ⟨e0, e1, e2, e3⟩ := LO.out _ (bo B1.out O5.out (fun i hi e => by have := HB.out; omega))
        simp only at e0 e1 e2 e3
        have t0 := T4.c0
        have t1 := T4.c1
        have t2 := T4.c2
        have t3 := T4.c3
        clear B4 T4 h4 o4
        go_wp2_with fail
        with_reducible refine (left_any _ H5.out).mono ?_
        rintro e w6 ⟨rfl, b6⟩
        go_wp2
        go_roundw
        case rel => exact ⟨k + 1, V, by omega, by rw [vno], by go_num, vm, H5.out.call b6, O5.out.next b6⟩
        case measure => simp [intOf]; omega
      have f4 : (qk == 4) = false := by simpa using k4
      by_cases k5 : qk = 5
      · subst k5
        have ha1 : ((doA W 5 : Nat) : Int) = (W.ni : Int) := rfl
        have ha2 : ((doB W 5 : Nat) : Int) = (G : Int) := congrArg Nat.cast HM.out
        have ha3 : ((doC W 5 : Nat) : Int) = (W.no : Int) := rfl
        have ha4 : doI W 5 = false := rfl
        have D1 := Lib.hid (wdoes_at 5 qN qA qB V (W.ni : Int) (G : Int) (W.no : Int) false _ KA.out KB.out H3.out hV ha1 ha2 ha3 ha4)
        have vo : decide (256 < (V.out : Int)) = false := by have := ok.out; simp; omega
        have vi : decide ((G : Int) < (V.inn : Int)) = false := by have := ok.inn; rw [vm] at this; simp; omega
        have vin : V.inn ≤ G := by have := ok.inn; omega
        clear hV ha1 ha2 ha3 ha4
        go_wp2_with fail
        with_reducible refine D1.out.mono ?_
        rintro e w4 ⟨rfl, h4, o4⟩
        have T4 := Tl.new w4 (W.ni : Int) (G : Int) (W.no : Int) false
        have B4 : Below w4.heap.size w4 (w4.alloc (.cells #[.int .u32 (W.ni : Int), .int .u32 (G : Int), .int .u32 (W.no : Int), .bool false] 30 (0, 0))) := ba (Below.refl _ _) _
        have H5 := Lib.hid (h4.call B4)
        have O5 := Lib.hid ((O3.out.trans o4).next B4)
        obtain ⟨e0, e1, e2, e3⟩ := LO.out _ (bo B1.out O5.out (fun i hi e => by have := HB.out; omega))
        simp only at e0 e1 e2 e3
        have t0 := T4.c0
        have t1 := T4.c1
        have t2 := T4.c2
        have t3 := T4.c3
        clear B4 T4 h4 o4
        go_wp2_with fail
        with_reducible refine (left_any _ H5.out).mono ?_
        rintro e w6 ⟨rfl, b6⟩
        go_wp2
        go_roundw
        case rel => exact ⟨k + 1, V, by omega, by rw [vno], by go_num, vm, H5.out.call b6, O5.out.next b6⟩
        case measure => simp [intOf]; omega
      have f5 : (qk == 5) = false := by simpa using k5
      have ha1 : ((doA W qk : Nat) : Int) = 0 := by simp [doA, k1, k5]
      have ha2 : ((doB W qk : Nat) : Int) = 0 := by simp [doB, k5]
      have ha3 : ((doC W qk : Nat) : Int) = 0 := by simp [doC, k5]
      have ha4 : doI W qk = false := by simp [doI, k1, k2, k4]
      have D1 := Lib.hid (wdoes_at qk qN qA qB V 0 0 0 false _ KA.out KB.out H3.out hV ha1 ha2 ha3 ha4)
      clear k1 k2 k4 k5
      have vo : decide (256 < (V.out : Int)) = false := by have := ok.out; simp; omega
      have vi : decide ((G : Int) < (V.inn : Int)) = false := by have := ok.inn; rw [vm] at this; simp; omega
      have vin : V.inn ≤ G := by have := ok.inn; omega
      clear hV ha1 ha2 ha3 ha4
      go_wp2_with fail
      with_reducible refine D1.out.mono ?_
      rintro e w4 ⟨rfl, h4, o4⟩
      have T4 := Tl.new w4 0 0 0 false
      have B4 : Below w4.heap.size w4 (w4.alloc (.cells #[.int .u32 0, .int .u32 0, .int .u32 0, .bool false] 30 (0, 0))) := ba (Below.refl _ _) _
      have H5 := Lib.hid (h4.call B4)
      have O5 := Lib.hid ((O3.out.trans o4).next B4)
      obtain ⟨e0, e1, e2, e3⟩ := LO.out _ (bo B1.out O5.out (fun i hi e => by have := HB.out; omega))
      simp only at e0 e1 e2 e3
      have t0 := T4.c0
      have t1 := T4.c1
      have t2 := T4.c2
      have t3 := T4.c3
      clear B4 T4 h4 o4
      go_wp2_with fail
      with_reducible refine (left_any _ H5.out).mono ?_
      rintro e w6 ⟨rfl, b6⟩
      go_wp2
      go_roundw
      case rel => exact ⟨k + 1, V, by omega, by rw [vno], by go_num, vm, H5.out.call b6, O5.out.next b6⟩
      case measure => simp [intOf]; omega
    · have d1 : decide (k < l) = false := by simpa using hlt
      go_wp2_with (first
        | (go_at_call 9; (with_reducible refine (works15_any _).mono ?_); rintro e w3 ⟨rfl, hb3⟩)
        | fail)
      go_ret
      exact ⟨rfl, bn HW.out hb3⟩
end Go.Proofs.Ytppcfkcnaaflgaa.windowBounds
