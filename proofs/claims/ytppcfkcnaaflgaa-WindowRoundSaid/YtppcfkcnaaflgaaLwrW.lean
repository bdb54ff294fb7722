/-
  The statement WindowRound, walked: it answers true. Memory that was there stays. No condition.
-/
import Derived.Test.YtppcfkcnaaflgaaWnk
import Derived.Test.YtppcfkcnaaflgaaWna
namespace Go.Proofs.Ytppcfkcnaaflgaa.windowRound
set_option maxRecDepth 100000
open Go.RowKit Go.Proofs.Ytppcfkcnaaflgaa.Utf Go.Proofs.Ytppcfkcnaaflgaa.Ob Go.Proofs.Ytppcfkcnaaflgaa.Wn

/-- The same window, with what comes moved on. -/
def sh (s : Nat) (W : Wn) : Wn := { W with ni := (W.ni + s) % 4294967296 }
theorem sh_got (s : Nat) (W : Wn) : gotB (sh s W) = gotB W := rfl
theorem sh_do (s : Nat) (W : Wn) (k N : Int) (A B : Nat) (h0 : ¬ k = 0) (hk : W.known = true) : doW (sh s W) k N A B = sh s (doW W k N A B) ∧ (doW W k N A B).known = true := by
  unfold doW
  rw [if_neg h0, if_neg h0]
  by_cases k1 : k = 1
  · rw [if_pos k1, if_pos k1]
    unfold sentW
    by_cases ho : 0 < W.out
    · rw [if_pos ho, if_pos (show 0 < (sh s W).out from ho)]; exact ⟨rfl, hk⟩
    · rw [if_neg ho, if_neg (show ¬ 0 < (sh s W).out from ho)]; exact ⟨rfl, hk⟩
  rw [if_neg k1, if_neg k1]
  by_cases k2 : k = 2
  · rw [if_pos k2, if_pos k2]
    unfold gotW
    rw [sh_got]
    by_cases hg : gotB W = true
    · rw [if_pos hg, if_pos hg]
      refine ⟨?_, hk⟩
      unfold sh
      simp only [Wn.mk.injEq, true_and]
      exact ⟨by omega, trivial⟩
    · rw [if_neg hg, if_neg hg]; exact ⟨rfl, hk⟩
  rw [if_neg k2, if_neg k2]
  by_cases k3 : k = 3
  · rw [if_pos k3, if_pos k3]
    refine ⟨?_, rfl⟩
    simp [toldW, sh, hk]
  rw [if_neg k3, if_neg k3]
  by_cases k5 : k = 5
  · rw [if_pos k5, if_pos k5]; exact ⟨rfl, hk⟩
  · rw [if_neg k5, if_neg k5]; exact ⟨rfl, hk⟩
theorem sh_tell (s : Nat) (W : Wn) (k : Int) (h5 : ¬ k = 5) : doA (sh s W) k = doA W k ∧ doB (sh s W) k = doB W k ∧ doC (sh s W) k = doC W k ∧ doI (sh s W) k = doI W k := by
  unfold doA doB doC doI
  rw [if_neg h5, if_neg h5, if_neg h5, if_neg h5, if_neg h5, if_neg h5]
  exact ⟨rfl, rfl, rfl, rfl⟩
/-- Something done, in a box of its own. -/
structure Oq (w : World) (z : Nat) (k N : Int) (A B : Nat) : Prop where
  obj : w.heap[z]? = some (opO k N A B)
section
variable {w w' : World} {z : Nat} {k N : Int} {A B : Nat} {X : Nat → Prop}
theorem Oq.c0 (h : Oq w z k N A B) : w.cell? ⟨z, 0, none⟩ = some (.int .i64 k) := cell_of_row _ _ 0 _ _ _ h.obj
theorem Oq.c1 (h : Oq w z k N A B) : w.cell? ⟨z, 1, none⟩ = some (.int .i64 N) := cell_of_row _ _ 1 _ _ _ h.obj
theorem Oq.c2 (h : Oq w z k N A B) : w.cell? ⟨z, 2, none⟩ = some (.int .u32 (A : Int)) := cell_of_row _ _ 2 _ _ _ h.obj
theorem Oq.c3 (h : Oq w z k N A B) : w.cell? ⟨z, 3, none⟩ = some (.int .u32 (B : Int)) := cell_of_row _ _ 3 _ _ _ h.obj
theorem Oq.lt (h : Oq w z k N A B) : z < w.heap.size := (Array.getElem?_eq_some_iff.1 h.obj).1
theorem Oq.off (h : Oq w z k N A B) (ho : Off X w w') (hx : ¬ X z) : Oq w' z k N A B := ⟨(ho.block z h.lt hx).trans h.obj⟩
theorem Oq.call (h : Oq w z k N A B) (hb : Below w.heap.size w w') : Oq w' z k N A B := h.off (X := fun _ => False) (Off.of _ hb) id
end
theorem beg_5 {b : Nat} {W : Wn} (n : Nat) (w : World) (hn : n < 4294967296) (h : Win w b W) : Calls Try.prog 16 #[.pointer (some ⟨b, 0, none⟩), .int .u32 (n : Int), .int .u32 5] w (Wn.Leaves b (begW W n 5) (.tuple #[]) w) := begun_any n 5 w hn (by omega) h
theorem beg_s {b : Nat} {W : Wn} (n s m : Nat) (M : Int) (w : World) (hm : (n + s) % 4294967296 = m) (hM : (m : Int) = M) (h : Win w b W) : Calls Try.prog 16 #[.pointer (some ⟨b, 0, none⟩), .int .u32 M, .int .u32 5] w (Wn.Leaves b (begW W m 5) (.tuple #[]) w) := by
  subst hM
  exact begun_any m 5 w (by omega) (by omega) h
def Bc (b c : Nat) : Nat → Prop := fun i => i = b ∨ i = c
set_option maxHeartbeats 8000000 in
theorem walk (g n s : Nat) (ss : List Op4) (A : Option Addr) (l c : Nat) (w : World) (hg : g < 4294967296) (hn : n < 4294967296) (hsh : s < 4294967296) (hs : WOps w w.heap.size A l ss) (hl : l ≤ 9223372036854775807) :
    Calls Try.prog 6 #[.int .u32 (g : Int), .int .u32 (n : Int), .int .u32 (s : Int), .slice A l c] w fun e w' => e = .returned (.bool true) ∧ Below w.heap.size w w' := by
  by_cases h2 : 300 < l
  · have d : decide (300 < (l : Int)) = true := by simp; omega
    clear h2 hs hl
    go_enter Try.func6, Try.ntmps6
    go_wp2_with (first
      | (go_at_call 9; (with_reducible refine (works15_any _).mono ?_); rintro e w3 ⟨rfl, hb3⟩)
      | fail)
    go_ret
    exact ⟨rfl, hb3⟩
  have d : decide (300 < (l : Int)) = false := by simp; omega
  have hl2 : l ≤ 300 := by omega
  have HS := Lib.hid hs
  have HN := Lib.hid (fun wx => wnew_any g wx hg)
  have HSS := Lib.hid hsh
  have HNN := Lib.hid hn
  obtain ⟨m, hm⟩ : ∃ m : Nat, (n + s) % 4294967296 = m := ⟨_, rfl⟩
  have me : ((n : Int) + (s : Int)) % 4294967296 = (m : Int) := by omega
  have HM := Lib.hid hm
  clear h2 hs hl hm
  go_enter Try.func6, Try.ntmps6
  go_wp2_with fail
  with_reducible refine (HN.out _).mono ?_
  rintro e w1 ⟨a, rfl, h1, ha, b1⟩
  go_wp2_with fail
  with_reducible refine (HN.out _).mono ?_
  rintro e w2 ⟨b, rfl, y2, hb, b2⟩
  have h2 := h1.call b2
  have nab : ¬ a = b := by have := h1.lt; omega
  go_wp2_with fail
  with_reducible refine (beg_5 n _ HNN.out h2).mono ?_
  rintro e w3 ⟨rfl, h3, o3⟩
  have y3 := y2.off o3 (fun e => nab e.symm)
  go_wp2_with fail
  with_reducible refine (beg_s n s m _ _ HM.out rfl y3).mono ?_
  rintro e w4 ⟨rfl, y4, o4⟩
  have HX : Hid (w.heap.size ≤ a ∧ w.heap.size ≤ b ∧ ¬ a = b) := Lib.hid ⟨ha, by have := b1.size; omega, nab⟩
  have O4 := (o3.mono fun i _ e => (Or.inl e : Bc a b i)).trans (o4.mono fun i _ e => (Or.inr e : Bc a b i))
  have B4 : Hid (Below w.heap.size w w4) := Lib.hid (bo (bn b1 b2) O4 (fun i hi e => by have := HX.out; rcases e with e | e <;> omega))
  have y4' : Win w4 b (sh s (begW (newW g) n 5)) := by
    have e : sh s (begW (newW g) n 5) = begW (newW g) m 5 := by unfold sh begW; rw [← HM.out]
    rw [e]; exact y4
  have H4 := Lib.hid (h3.off o4 nab)
  have Y4 := Lib.hid y4'
  clear h1 h2 h3 y2 y3 y4 y4' o3 o4 b1 b2 ha hb O4 nab
  go_wp2_with fail
  try simp only [me]
  go_loopw [11] (fun i wx => ∃ (k : Nat) (W : Wn), k ≤ l ∧ i = .int .i64 k ∧ W.known = true ∧ Win wx a W ∧ Win wx b (sh s W) ∧ Off (Bc a b) w4 wx) (fun i _ => l - (intOf i).toNat)
  case atStart => exact ⟨0, _, Nat.zero_le _, rfl, rfl, H4.out, Y4.out, Off.refl _ _⟩
  case round =>
    obtain ⟨k, W, hk, rfl, hkn, hw, hy, ho⟩ := hrel
    have HW : Hid (Below w.heap.size w wr) := Lib.hid (bo B4.out ho (fun i hi e => by have := HX.out; rcases e with e | e <;> omega))
    have HO := Lib.hid ho
    have HH := Lib.hid hw
    have HY := Lib.hid hy
    have HK := Lib.hid hkn
    clear hw hy ho hkn
    by_cases hlt : k < l
    · have dl : decide (k < l) = true := by simpa using hlt
      obtain ⟨b2, o2, q, rfl, hb2, _, lo, _, _, kA, kB⟩ := HS.out.at_ hlt
      obtain ⟨qk, qN, qA, qB⟩ := q
      obtain ⟨c0, c1, c2, c3⟩ := lo.call HW.out hb2
      have KA := Lib.hid kA
      have KB := Lib.hid kB
      simp only at c0 c1 c2 c3
      obtain ⟨z, hz⟩ : ∃ z, wr.heap.size = z := ⟨_, rfl⟩
      have q5 : Oq (wr.alloc (opO qk qN qA qB)) z qk qN qA qB := ⟨hz ▸ heap_alloc_new _ _⟩
      have b5 : Below wr.heap.size wr (wr.alloc (opO qk qN qA qB)) := ba (Below.refl _ _) _
      have na : ¬ z = a := by have := HH.out.lt; omega
      have nb : ¬ z = b := by have := HY.out.lt; omega
      obtain ⟨w5, hw5⟩ : ∃ w5, wr.alloc (opO qk qN qA qB) = w5 := ⟨_, rfl⟩
      rw [hw5] at q5 b5
      unfold opO at hw5
      have H5 := Lib.hid (HH.out.call b5)
      have Y5 := Lib.hid (HY.out.call b5)
      have O5 := Lib.hid (HO.out.next b5)
      have Q5 := Lib.hid q5
      have NA := Lib.hid na
      have NB := Lib.hid nb
      obtain ⟨d0, d1, d2, d3⟩ : w5.cell? ⟨z, 0, none⟩ = some (.int .i64 qk) ∧ w5.cell? ⟨z, 1, none⟩ = some (.int .i64 qN) ∧ w5.cell? ⟨z, 2, none⟩ = some (.int .u32 (qA : Int)) ∧ w5.cell? ⟨z, 3, none⟩ = some (.int .u32 (qB : Int)) := ⟨q5.c0, q5.c1, q5.c2, q5.c3⟩
      clear lo kA kB hb2 q5 b5 na nb
      by_cases k0 : qk = 0
      · subst k0
        go_wp2
        go_roundw
        case rel => exact ⟨k + 1, W, by omega, by go_num, HK.out, H5.out, Y5.out, O5.out⟩
        case measure => simp [intOf]; omega
      have f0 : (qk == 0) = false := by simpa using k0
      obtain ⟨V, hV⟩ : ∃ V, doW W qk qN qA qB = V := ⟨_, rfl⟩
      have hS := sh_do s W qk qN qA qB k0 HK.out
      rw [hV] at hS
      have VK := Lib.hid hS.2
      have vni : V.ni < 4294967296 := hV ▸ (okdo HH.out.ok KA.out KB.out).ni
      by_cases k5 : qk = 5
      · subst k5
        have hni : V.ni = W.ni := by rw [← hV]; rfl
        obtain ⟨p, hp⟩ : ∃ p : Nat, (V.ni + s) % 4294967296 = p := ⟨_, rfl⟩
        have pe : ((p : Int) - (s : Int)) % 4294967296 = (V.ni : Int) := by have := HSS.out; omega
        have hx1 : ((doA W 5 : Nat) : Int) = (V.ni : Int) := by rw [hni]; rfl
        have hx2 : ((doA (sh s W) 5 : Nat) : Int) = (p : Int) := by show (((W.ni + s) % 4294967296 : Nat) : Int) = _; rw [← hni, hp]
        clear hp hni
        have D1 := Lib.hid (wdoes_at 5 qN qA qB V (V.ni : Int) (W.most : Int) (W.no : Int) false _ KA.out KB.out H5.out hV hx1 rfl rfl rfl)
        have D2 := Lib.hid (fun wx (hx : Win wx b (sh s W)) => wdoes_at 5 qN qA qB (sh s V) (p : Int) (W.most : Int) (W.no : Int) false wx KA.out KB.out hx hS.1 hx2 rfl rfl rfl)
        clear hV hS vni k0 hx1 hx2
        go_wp2_with fail
        with_reducible refine D1.out.mono ?_
        rintro e w6 ⟨rfl, h6, o6⟩
        have T6 := Tl.new w6 (V.ni : Int) (W.most : Int) (W.no : Int) false
        have B6 : Below w6.heap.size w6 (w6.alloc (.cells #[.int .u32 (V.ni : Int), .int .u32 (W.most : Int), .int .u32 (W.no : Int), .bool false] 30 (0, 0))) := ba (Below.refl _ _) _
        have Y7 := (Y5.out.off o6 (fun e => HX.out.2.2 e.symm)).call B6
        have H7 := h6.call B6
        have Q7 := (Q5.out.off o6 NA.out).call B6
        have O7 := (O5.out.trans (o6.mono fun i _ e => (Or.inl e : Bc a b i))).next B6
        have n6 : ¬ w6.heap.size = b := by have := (Y5.out.off o6 (fun e => HX.out.2.2 e.symm)).lt; omega
        have N6 := Lib.hid n6
        have e0 := Q7.c0
        have e1 := Q7.c1
        have e2 := Q7.c2
        have e3 := Q7.c3
        clear B6 h6 o6 n6 d0 d1 d2 d3
        go_wp2_with fail
        with_reducible refine (D2.out _ Y7).mono ?_
        rintro e w8 ⟨rfl, y8, o8⟩
        have H8 := H7.off o8 HX.out.2.2
        have Q8 := Q7.off o8 NB.out
        have T8 := T6.off o8 N6.out
        have S8 := Tl.new w8 (V.ni : Int) (W.most : Int) (W.no : Int) false
        have B8 : Below w8.heap.size w8 (w8.alloc (.cells #[.int .u32 (V.ni : Int), .int .u32 (W.most : Int), .int .u32 (W.no : Int), .bool false] 30 (0, 0))) := ba (Below.refl _ _) _
        have H9 := H8.call B8
        have Y9 := y8.call B8
        have T9 := T8.call B8
        have Q9 := Q8.call B8
        have O9 := (O7.trans (o8.mono fun i _ e => (Or.inr e : Bc a b i))).next B8
        have r0 := Q9.c0
        have BP : Below w8.heap.size w8 (w8.alloc (.cells #[.int .u32 (p : Int), .int .u32 (W.most : Int), .int .u32 (W.no : Int), .bool false] 30 (0, 0))) := ba (Below.refl _ _) _
        have r1 := (Q8.call BP).c0
        clear BP
        have S10 := S8
        have H10 := H9
        have Y10 := Y9
        have T10 := T9
        have O10 := O9
        clear H8 y8 T8 Q8 B8 H9 Y9 T9 O9 S8 H7 Y7 Q7 O7 T6 N6 e0 e1 e2 e3 o8
        go_wp2_with fail
        with_reducible refine (left_any _ H10).mono ?_
        rintro e w11 ⟨rfl, b11⟩
        have H11 := H10.call b11
        have Y11 := Y10.call b11
        have T11 := T10.call b11
        have S11 := S10.call b11
        have O11 := O10.next b11
        go_wp2_with fail
        with_reducible refine (left_any _ Y11).mono ?_
        rintro e w12 ⟨rfl, b12⟩
        have T12 := T11.call b12
        have S12 := S11.call b12
        have t0 := T12.c0
        have t1 := T12.c1
        have t2 := T12.c2
        have t3 := T12.c3
        have s0 := S12.c0
        have s1 := S12.c1
        have s2 := S12.c2
        have s3 := S12.c3
        have eo : (sh s V).out = V.out := rfl
        have ei : (sh s V).inn = V.inn := rfl
        clear H10 Y10 T10 S10 O10 T11 S11 T12 S12
        go_wp2
        go_roundw
        case rel => exact ⟨k + 1, V, by omega, by go_num, VK.out, H11.call b12, Y11.call b12, O11.next b12⟩
        case measure => simp [intOf]; omega
      have f5 : (qk == 5) = false := by simpa using k5
      have hT := sh_tell s W qk k5
      obtain ⟨a1, ha1⟩ : ∃ V : Int, ((doA W qk : Nat) : Int) = V := ⟨_, rfl⟩
      obtain ⟨a2, ha2⟩ : ∃ V : Int, ((doB W qk : Nat) : Int) = V := ⟨_, rfl⟩
      obtain ⟨a3, ha3⟩ : ∃ V : Int, ((doC W qk : Nat) : Int) = V := ⟨_, rfl⟩
      obtain ⟨a4, ha4⟩ : ∃ V, doI W qk = V := ⟨_, rfl⟩
      have D1 := Lib.hid (wdoes_at qk qN qA qB V a1 a2 a3 a4 _ KA.out KB.out H5.out hV ha1 ha2 ha3 ha4)
      have D2 := Lib.hid (fun wx (hx : Win wx b (sh s W)) => wdoes_at qk qN qA qB (sh s V) a1 a2 a3 a4 wx KA.out KB.out hx hS.1 (by rw [hT.1]; exact ha1) (by rw [hT.2.1]; exact ha2) (by rw [hT.2.2.1]; exact ha3) (by rw [hT.2.2.2]; exact ha4))
      clear hV hS vni k0 k5 hT ha1 ha2 ha3 ha4
      go_wp2_with fail
      with_reducible refine D1.out.mono ?_
      rintro e w6 ⟨rfl, h6, o6⟩
      have T6 := Tl.new w6 a1 a2 a3 a4
      have B6 : Below w6.heap.size w6 (w6.alloc (.cells #[.int .u32 a1, .int .u32 a2, .int .u32 a3, .bool a4] 30 (0, 0))) := ba (Below.refl _ _) _
      have Y7 := (Y5.out.off o6 (fun e => HX.out.2.2 e.symm)).call B6
      have H7 := h6.call B6
      have Q7 := (Q5.out.off o6 NA.out).call B6
      have O7 := (O5.out.trans (o6.mono fun i _ e => (Or.inl e : Bc a b i))).next B6
      have n6 : ¬ w6.heap.size = b := by have := (Y5.out.off o6 (fun e => HX.out.2.2 e.symm)).lt; omega
      have N6 := Lib.hid n6
      have e0 := Q7.c0
      have e1 := Q7.c1
      have e2 := Q7.c2
      have e3 := Q7.c3
      clear B6 h6 o6 n6 d0 d1 d2 d3
      go_wp2_with fail
      with_reducible refine (D2.out _ Y7).mono ?_
      rintro e w8 ⟨rfl, y8, o8⟩
      have H8 := H7.off o8 HX.out.2.2
      have Q8 := Q7.off o8 NB.out
      have T8 := T6.off o8 N6.out
      have S8 := Tl.new w8 a1 a2 a3 a4
      have B8 : Below w8.heap.size w8 (w8.alloc (.cells #[.int .u32 a1, .int .u32 a2, .int .u32 a3, .bool a4] 30 (0, 0))) := ba (Below.refl _ _) _
      have H9 := H8.call B8
      have Y9 := y8.call B8
      have T9 := T8.call B8
      have Q9 := Q8.call B8
      have O9 := (O7.trans (o8.mono fun i _ e => (Or.inr e : Bc a b i))).next B8
      have r0 := Q9.c0
      have S10 := S8
      have H10 := H9
      have Y10 := Y9
      have T10 := T9
      have O10 := O9
      clear H8 y8 T8 Q8 B8 H9 Y9 T9 O9 S8 H7 Y7 Q7 O7 T6 N6 e0 e1 e2 e3 o8
      go_wp2_with fail
      with_reducible refine (left_any _ H10).mono ?_
      rintro e w11 ⟨rfl, b11⟩
      have H11 := H10.call b11
      have Y11 := Y10.call b11
      have T11 := T10.call b11
      have S11 := S10.call b11
      have O11 := O10.next b11
      go_wp2_with fail
      with_reducible refine (left_any _ Y11).mono ?_
      rintro e w12 ⟨rfl, b12⟩
      have T12 := T11.call b12
      have S12 := S11.call b12
      have t0 := T12.c0
      have t1 := T12.c1
      have t2 := T12.c2
      have t3 := T12.c3
      have s0 := S12.c0
      have s1 := S12.c1
      have s2 := S12.c2
      have s3 := S12.c3
      have eo : (sh s V).out = V.out := rfl
      have ei : (sh s V).inn = V.inn := rfl
      clear H10 Y10 T10 S10 O10 T11 S11 T12 S12
      go_wp2
      go_roundw
      case rel => exact ⟨k + 1, V, by omega, by go_num, VK.out, H11.call b12, Y11.call b12, O11.next b12⟩
      case measure => simp [intOf]; omega
    · have d1 : decide (k < l) = false := by simpa using hlt
      go_wp2_with (first
        | (go_at_call 9; (with_reducible refine (works15_any _).mono ?_); rintro e w3 ⟨rfl, hb3⟩)
        | fail)
      go_ret
      exact ⟨rfl, bn HW.out hb3⟩
end Go.Proofs.Ytppcfkcnaaflgaa.windowRound
