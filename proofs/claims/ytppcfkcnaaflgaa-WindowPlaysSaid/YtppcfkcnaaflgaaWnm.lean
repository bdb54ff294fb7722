/-
  What the laws of windows lean on: meant, something that is done to the document's window. Memory that was there stays, but for the window's own block. Conditions: numbers of 32 bits are such.
-/
import Derived.Test.YtppcfkcnaaflgaaWnw
namespace Go.Proofs.Ytppcfkcnaaflgaa.Wn
set_option maxRecDepth 100000
open Go.RowKit Go.Proofs.Ytppcfkcnaaflgaa.Utf Go.Proofs.Ytppcfkcnaaflgaa.Ob

section
variable {b : Nat} {W : Wn}
set_option maxHeartbeats 4000000 in
theorem wmeant_any (k N : Int) (A B : Nat) (w : World) (hA : A < 4294967296) (hB : B < 4294967296) (h : Xin w b W) : Calls Try.prog 13 #[.pointer (some ⟨b, 0, none⟩), opV k N A B] w (Xleaves b (doW W k N A B) (doV W k) w) := by
  obtain ⟨W0, z4, z5, hW0, hz4, hz5, hb0, t4, t5, hq⟩ := laid3 k N A B w
  have q0 : W0.cell? ⟨w.heap.size, 0, none⟩ = some (.int .i64 k) := cell_of_row _ _ 0 _ _ _ hq
  have q1 : W0.cell? ⟨w.heap.size, 1, none⟩ = some (.int .i64 N) := cell_of_row _ _ 1 _ _ _ hq
  have q2 : W0.cell? ⟨w.heap.size, 2, none⟩ = some (.int .u32 (A : Int)) := cell_of_row _ _ 2 _ _ _ hq
  have q3 : W0.cell? ⟨w.heap.size, 3, none⟩ = some (.int .u32 (B : Int)) := cell_of_row _ _ 3 _ _ _ hq
  clear hq
  have h0 := h.call hb0
  have n4 : ¬ b = z4 := by have := h.lt; omega
  have n5 : ¬ b = z5 := by have := h.lt; omega
  have n45 : ¬ z4 = z5 := by omega
  have Z : ∀ i, i < w.heap.size → ¬ (i = z4 ∨ i = z5) := fun i hi => by omega
  unfold opO tO at hW0
  unfold opV
  by_cases k0 : k = 0
  · subst k0
    have HC := Lib.hid (xbegun_any A B W0 hA h0)
    have hv : doW W 0 N A B = begW W A B := rfl
    have hx : doV W 0 = tellV 0 0 0 false := rfl
    rw [hv, hx]
    clear h h0 hA hB hv hx
    go_enter Try.func13, Try.ntmps13
    go_wp2_with (first
      | (go_at_call 24; (with_reducible refine HC.out.mono ?_); rintro e w1 ⟨rfl, h1, o1⟩; have t4' := t4.off o1 (fun e => n4 e.symm); have t5' := t5.off o1 (fun e => n5 e.symm); have a0 := t4'.c0; have a1 := t4'.c1; have a2 := t4'.c2; have a3 := t4'.c3; have f0 := t4'.frz 0; have f1 := t4'.frz 1; have f2 := t4'.frz 2; have f3 := t4'.frz 3; have c0 := t5'.c0; have c1 := t5'.c1; have c2 := t5'.c2; have c3 := t5'.c3; have g0 := t5'.frz 0; have g1 := t5'.frz 1; have g2 := t5'.frz 2; have g3 := t5'.frz 3)
      | fail)
    refine bodyPost_ret (v := tellV 0 0 0 false) (by simp [results, Try.results13, go_sem, tellV, a0, a1, a2, a3]) rfl ?_
    refine ⟨rfl, h1.off (X := fun i => i = z4 ∨ i = z5) ?_ (by omega), end4 hb0 o1 ?_ Z⟩
    all_goals repeat' (first | with_reducible exact Off.refl _ _ | with_reducible refine Off.st ?_ ?_ | exact Or.inl rfl | exact Or.inr rfl)
  have e0 : (k == 0) = false := by simpa using k0
  by_cases k1 : k = 1
  · subst k1
    have HC := Lib.hid (xsent_any W0 h0)
    have hv : doW W 1 N A B = sentW W := rfl
    have hx : doV W 1 = tellV (sentN W) 0 0 (sentB W) := rfl
    rw [hv, hx]
    clear h h0 hA hB hv hx
    go_enter Try.func13, Try.ntmps13
    go_wp2_with (first
      | (go_at_call 25; (with_reducible refine HC.out.mono ?_); rintro e w1 ⟨rfl, h1, o1⟩; have t4' := t4.off o1 (fun e => n4 e.symm); have t5' := t5.off o1 (fun e => n5 e.symm); have a0 := t4'.c0; have a1 := t4'.c1; have a2 := t4'.c2; have a3 := t4'.c3; have f0 := t4'.frz 0; have f1 := t4'.frz 1; have f2 := t4'.frz 2; have f3 := t4'.frz 3; have c0 := t5'.c0; have c1 := t5'.c1; have c2 := t5'.c2; have c3 := t5'.c3; have g0 := t5'.frz 0; have g1 := t5'.frz 1; have g2 := t5'.frz 2; have g3 := t5'.frz 3)
      | fail)
    refine bodyPost_ret (v := tellV (sentN W) 0 0 (sentB W)) (by simp [results, Try.results13, go_sem, tellV, a0, a1, a2, a3]) rfl ?_
    refine ⟨rfl, h1.off (X := fun i => i = z4 ∨ i = z5) ?_ (by omega), end4 hb0 o1 ?_ Z⟩
    all_goals repeat' (first | with_reducible exact Off.refl _ _ | with_reducible refine Off.st ?_ ?_ | exact Or.inl rfl | exact Or.inr rfl)
  have e1 : (k == 1) = false := by simpa using k1
  by_cases k2 : k = 2
  · subst k2
    have HC := Lib.hid (xgot_any W0 h0)
    have hv : doW W 2 N A B = gotW W := rfl
    have hx : doV W 2 = tellV 0 0 0 (gotB W) := rfl
    rw [hv, hx]
    clear h h0 hA hB hv hx
    go_enter Try.func13, Try.ntmps13
    go_wp2_with (first
      | (go_at_call 26; (with_reducible refine HC.out.mono ?_); rintro e w1 ⟨rfl, h1, o1⟩; have t4' := t4.off o1 (fun e => n4 e.symm); have t5' := t5.off o1 (fun e => n5 e.symm); have a0 := t4'.c0; have a1 := t4'.c1; have a2 := t4'.c2; have a3 := t4'.c3; have f0 := t4'.frz 0; have f1 := t4'.frz 1; have f2 := t4'.frz 2; have f3 := t4'.frz 3; have c0 := t5'.c0; have c1 := t5'.c1; have c2 := t5'.c2; have c3 := t5'.c3; have g0 := t5'.frz 0; have g1 := t5'.frz 1; have g2 := t5'.frz 2; have g3 := t5'.frz 3)
      | fail)
    refine bodyPost_ret (v := tellV 0 0 0 (gotB W)) (by simp [results, Try.results13, go_sem, tellV, a0, a1, a2, a3]) rfl ?_
    refine ⟨rfl, h1.off (X := fun i => i = z4 ∨ i = z5) ?_ (by omega), end4 hb0 o1 ?_ Z⟩
    all_goals repeat' (first | with_reducible exact Off.refl _ _ | with_reducible refine Off.st ?_ ?_ | exact Or.inl rfl | exact Or.inr rfl)
  have e2 : (k == 2) = false := by simpa using k2
  by_cases k3 : k = 3
  · subst k3
    have HC := Lib.hid (xtold_any N A B W0 hB h0)
    have hv : doW W 3 N A B = toldW W N A B := rfl
    have hx : doV W 3 = tellV 0 0 0 false := rfl
    rw [hv, hx]
    clear h h0 hA hB hv hx
    go_enter Try.func13, Try.ntmps13
    go_wp2_with (first
      | (go_at_call 27; (with_reducible refine HC.out.mono ?_); rintro e w1 ⟨rfl, h1, o1⟩; have t4' := t4.off o1 (fun e => n4 e.symm); have t5' := t5.off o1 (fun e => n5 e.symm); have a0 := t4'.c0; have a1 := t4'.c1; have a2 := t4'.c2; have a3 := t4'.c3; have f0 := t4'.frz 0; have f1 := t4'.frz 1; have f2 := t4'.frz 2; have f3 := t4'.frz 3; have c0 := t5'.c0; have c1 := t5'.c1; have c2 := t5'.c2; have c3 := t5'.c3; have g0 := t5'.frz 0; have g1 := t5'.frz 1; have g2 := t5'.frz 2; have g3 := t5'.frz 3)
      | fail)
    refine bodyPost_ret (v := tellV 0 0 0 false) (by simp [results, Try.results13, go_sem, tellV, a0, a1, a2, a3]) rfl ?_
    refine ⟨rfl, h1.off (X := fun i => i = z4 ∨ i = z5) ?_ (by omega), end4 hb0 o1 ?_ Z⟩
    all_goals repeat' (first | with_reducible exact Off.refl _ _ | with_reducible refine Off.st ?_ ?_ | exact Or.inl rfl | exact Or.inr rfl)
  have e3 : (k == 3) = false := by simpa using k3
  by_cases k4 : k = 4
  · subst k4
    have HC := Lib.hid (xneed_any W0 h0)
    have hv : doW W 4 N A B = W := rfl
    have hx : doV W 4 = tellV 0 0 0 (needB W) := rfl
    rw [hv, hx]
    clear h h0 hA hB hv hx
    go_enter Try.func13, Try.ntmps13
    go_wp2_with (first
      | (go_at_call 28; (with_reducible refine HC.out.mono ?_); rintro e w1 ⟨rfl, h1, o1⟩; have t4' := t4.off o1 (fun e => n4 e.symm); have t5' := t5.off o1 (fun e => n5 e.symm); have a0 := t4'.c0; have a1 := t4'.c1; have a2 := t4'.c2; have a3 := t4'.c3; have f0 := t4'.frz 0; have f1 := t4'.frz 1; have f2 := t4'.frz 2; have f3 := t4'.frz 3; have c0 := t5'.c0; have c1 := t5'.c1; have c2 := t5'.c2; have c3 := t5'.c3; have g0 := t5'.frz 0; have g1 := t5'.frz 1; have g2 := t5'.frz 2; have g3 := t5'.frz 3)
      | fail)
    refine bodyPost_ret (v := tellV 0 0 0 (needB W)) (by simp [results, Try.results13, go_sem, tellV, a0, a1, a2, a3]) rfl ?_
    refine ⟨rfl, h1.off (X := fun i => i = z4 ∨ i = z5) ?_ (by omega), end4 hb0 o1 ?_ Z⟩
    all_goals repeat' (first | with_reducible exact Off.refl _ _ | with_reducible refine Off.st ?_ ?_ | exact Or.inl rfl | exact Or.inr rfl)
  have e4 : (k == 4) = false := by simpa using k4
  by_cases k5 : k = 5
  · subst k5
    have HC := Lib.hid (xgrant_any W0 h0)
    have hv : doW W 5 N A B = grantW W := rfl
    have hx : doV W 5 = tellV W.ni W.most W.no false := rfl
    rw [hv, hx]
    clear h h0 hA hB hv hx
    go_enter Try.func13, Try.ntmps13
    go_wp2_with (first
      | (go_at_call 29; (with_reducible refine HC.out.mono ?_); rintro e w1 ⟨rfl, h1, o1⟩; have t4' := t4.off o1 (fun e => n4 e.symm); have t5' := t5.off o1 (fun e => n5 e.symm); have a0 := t4'.c0; have a1 := t4'.c1; have a2 := t4'.c2; have a3 := t4'.c3; have f0 := t4'.frz 0; have f1 := t4'.frz 1; have f2 := t4'.frz 2; have f3 := t4'.frz 3; have c0 := t5'.c0; have c1 := t5'.c1; have c2 := t5'.c2; have c3 := t5'.c3; have g0 := t5'.frz 0; have g1 := t5'.frz 1; have g2 := t5'.frz 2; have g3 := t5'.frz 3)
      | fail)
    refine bodyPost_ret (v := tellV W.ni W.most W.no false) (by simp [results, Try.results13, go_sem, tellV, a0, a1, a2, a3]) rfl ?_
    refine ⟨rfl, h1.off (X := fun i => i = z4 ∨ i = z5) ?_ (by omega), end4 hb0 o1 ?_ Z⟩
    all_goals repeat' (first | with_reducible exact Off.refl _ _ | with_reducible refine Off.st ?_ ?_ | exact Or.inl rfl | exact Or.inr rfl)
  have e5 : (k == 5) = false := by simpa using k5
  have hv : doW W k N A B = W := by simp [doW, k0, k1, k2, k3, k5]
  have hx : doV W k = tellV 0 0 0 false := by simp [doV, doA, doB, doC, doI, k1, k2, k4, k5]
  rw [hv, hx]
  have H0 := Lib.hid h0
  have a0 := t4.c0; have a1 := t4.c1; have a2 := t4.c2; have a3 := t4.c3
  have f0 := t4.frz 0; have f1 := t4.frz 1; have f2 := t4.frz 2; have f3 := t4.frz 3
  have c0 := t5.c0; have c1 := t5.c1; have c2 := t5.c2; have c3 := t5.c3
  have g0 := t5.frz 0; have g1 := t5.frz 1; have g2 := t5.frz 2; have g3 := t5.frz 3
  clear h h0 hA hB hv hx k0 k1 k2 k3 k4 k5
  go_enter Try.func13, Try.ntmps13
  go_wp2
  refine bodyPost_ret (v := tellV 0 0 0 false) (by simp [results, Try.results13, go_sem, tellV, a0, a1, a2, a3]) rfl ?_
  refine ⟨rfl, H0.out.off (X := fun i => i = z4 ∨ i = z5) ?_ (by omega), end4 hb0 (Off.refl _ _) ?_ Z⟩
  all_goals repeat' (first | with_reducible exact Off.refl _ _ | with_reducible refine Off.st ?_ ?_ | exact Or.inl rfl | exact Or.inr rfl)
end
theorem wmeant_at (k N : Int) (A B : Nat) {b : Nat} {W : Wn} (V : Wn) (a1 a2 a3 : Int) (a4 : Bool) (w : World) (hA : A < 4294967296) (hB : B < 4294967296) (h : Xin w b W) (hV : doW W k N A B = V) (h1 : ((doA W k : Nat) : Int) = a1) (h2 : ((doB W k : Nat) : Int) = a2) (h3 : ((doC W k : Nat) : Int) = a3) (h4 : doI W k = a4) : Calls Try.prog 13 #[.pointer (some ⟨b, 0, none⟩), .agg #[.int .i64 k, .int .i64 N, .int .u32 (A : Int), .int .u32 (B : Int)]] w (Xleaves b V (tellI a1 a2 a3 a4) w) := by
  subst hV h1 h2 h3 h4
  exact wmeant_any k N A B w hA hB h
end Go.Proofs.Ytppcfkcnaaflgaa.Wn
