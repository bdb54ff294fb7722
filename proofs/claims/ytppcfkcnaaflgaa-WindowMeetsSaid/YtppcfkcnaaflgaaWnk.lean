/-
  What the laws of windows lean on: works, the anchor, which answers true; does of no window; the contracts with the answer named. Memory that was there stays, but for the window's own block. Conditions: numbers of 32 bits are such.
-/
import Derived.Test.YtppcfkcnaaflgaaWnw
namespace Go.Proofs.Ytppcfkcnaaflgaa.Wn
set_option maxRecDepth 100000
open Go.RowKit Go.Proofs.Ytppcfkcnaaflgaa.Utf Go.Proofs.Ytppcfkcnaaflgaa.Ob

section
variable {b : Nat} {W : Wn}
theorem sent_at (W' : Wn) (n : Nat) (v : Bool) (w : World) (h : Win w b W) (h1 : sentW W = W') (h2 : sentN W = n) (h3 : sentB W = v) : Calls Try.prog 17 #[.pointer (some ⟨b, 0, none⟩)] w (Leaves b W' (.tuple #[.int .u32 (n : Int), .bool v]) w) := h1 ▸ h2 ▸ h3 ▸ sent_any w h
theorem got_at (W' : Wn) (v : Bool) (w : World) (h : Win w b W) (h1 : gotW W = W') (h3 : gotB W = v) : Calls Try.prog 21 #[.pointer (some ⟨b, 0, none⟩)] w (Leaves b W' (.bool v) w) := h1 ▸ h3 ▸ got_any w h
theorem need_at (v : Bool) (w : World) (h : Win w b W) (h3 : needB W = v) : Calls Try.prog 22 #[.pointer (some ⟨b, 0, none⟩)] w (Leaves b W (.bool v) w) := h3 ▸ need_any w h
theorem new_4 (w : World) : Calls Try.prog 10 #[.int .u32 4] w (GivesNew ⟨4, 0, 0, false, 0, 4⟩ w) := wnew_any 4 w (by omega)
theorem beg_72 (w : World) (h : Win w b ⟨4, 0, 0, false, 0, 4⟩) : Calls Try.prog 16 #[.pointer (some ⟨b, 0, none⟩), .int .u32 7, .int .u32 2] w (Leaves b ⟨4, 0, 7, true, 2, 4⟩ (.tuple #[]) w) := begun_any 7 2 w (by omega) (by omega) h
theorem left_1 (w : World) (h : Win w b ⟨4, 0, 7, true, 2, 4⟩) : Calls Try.prog 14 #[.pointer (some ⟨b, 0, none⟩)] w fun e w' => e = .returned (.tuple #[.int .u32 2, .int .u32 4]) ∧ Below w.heap.size w w' := left_any w h
theorem sent_1 (w : World) (h : Win w b ⟨4, 0, 7, true, 2, 4⟩) : Calls Try.prog 17 #[.pointer (some ⟨b, 0, none⟩)] w (Leaves b ⟨4, 1, 7, true, 1, 4⟩ (.tuple #[.int .u32 0, .bool true]) w) := sent_any w h
theorem sent_2 (w : World) (h : Win w b ⟨4, 1, 7, true, 1, 4⟩) : Calls Try.prog 17 #[.pointer (some ⟨b, 0, none⟩)] w (Leaves b ⟨4, 2, 7, true, 0, 4⟩ (.tuple #[.int .u32 1, .bool true]) w) := sent_any w h
theorem sent_3 (w : World) (h : Win w b ⟨4, 2, 7, true, 0, 4⟩) : Calls Try.prog 17 #[.pointer (some ⟨b, 0, none⟩)] w (Leaves b ⟨4, 2, 7, true, 0, 4⟩ (.tuple #[.int .u32 0, .bool false]) w) := sent_any w h
theorem told_1 (w : World) (h : Win w b ⟨4, 2, 7, true, 0, 4⟩) : Calls Try.prog 20 #[.pointer (some ⟨b, 0, none⟩), .int .i64 2, .int .u32 3, .int .u32 9] w (Leaves b ⟨4, 2, 7, true, 3, 4⟩ (.tuple #[]) w) := told_any 2 3 9 w (by omega) (by omega) h
theorem left_2 (w : World) (h : Win w b ⟨4, 2, 7, true, 3, 4⟩) : Calls Try.prog 14 #[.pointer (some ⟨b, 0, none⟩)] w fun e w' => e = .returned (.tuple #[.int .u32 3, .int .u32 4]) ∧ Below w.heap.size w w' := left_any w h
theorem grant_1 (w : World) (h : Win w b ⟨4, 2, 9, true, 3, 2⟩) : Calls Try.prog 18 #[.pointer (some ⟨b, 0, none⟩)] w (Leaves b ⟨4, 2, 9, true, 3, 4⟩ (.tuple #[.int .u32 9, .int .u32 4, .int .u32 2]) w) := grant_any w h
end
set_option maxHeartbeats 2000000 in
theorem works15_any (w : World) : Calls Try.prog 9 #[] w fun e w' => e = .returned (.bool true) ∧ Below w.heap.size w w' := by
  go_enter Try.func9, Try.ntmps9
  go_wp2_with fail
  with_reducible refine (new_4 _).mono ?_
  rintro e w1 ⟨b, rfl, h1, hb, b1⟩
  go_wp2_with fail
  with_reducible refine (beg_72 _ h1).mono ?_
  rintro e w2 ⟨rfl, h2, o2⟩
  go_wp2_with fail
  with_reducible refine (left_1 _ h2).mono ?_
  rintro e w3 ⟨rfl, b3⟩
  have h3 := h2.call b3
  go_wp2_with fail
  with_reducible refine (sent_1 _ h3).mono ?_
  rintro e w4 ⟨rfl, h4, o4⟩
  go_wp2_with fail
  with_reducible refine (sent_2 _ h4).mono ?_
  rintro e w5 ⟨rfl, h5, o5⟩
  go_wp2_with fail
  with_reducible refine (sent_3 _ h5).mono ?_
  rintro e w6 ⟨rfl, h6, o6⟩
  go_wp2_with fail
  with_reducible refine (told_1 _ h6).mono ?_
  rintro e w7 ⟨rfl, h7, o7⟩
  go_wp2_with fail
  with_reducible refine (left_2 _ h7).mono ?_
  rintro e w8 ⟨rfl, b8⟩
  have h8 := h7.call b8
  go_wp2_with fail
  with_reducible refine (got_at ⟨4, 2, 8, true, 3, 3⟩ true _ h8 rfl rfl).mono ?_
  rintro e w9 ⟨rfl, h9, o9⟩
  go_wp2_with fail
  with_reducible refine (got_at ⟨4, 2, 9, true, 3, 2⟩ true _ h9 rfl rfl).mono ?_
  rintro e w10 ⟨rfl, h10, o10⟩
  go_wp2_with fail
  with_reducible refine (need_at true _ h10 rfl).mono ?_
  rintro e w11 ⟨rfl, h11, o11⟩
  go_wp2_with fail
  with_reducible refine (grant_1 _ h11).mono ?_
  rintro e w12 ⟨rfl, h12, o12⟩
  go_wp2
  go_ret
  have O := (((((((((o2.next b3).trans o4).trans o5).trans o6).trans o7).next b8).trans o9).trans o10).trans o11).trans o12
  exact ⟨rfl, bo b1 O (fun i hi e => by omega)⟩
theorem nend {w W0 w1 w2 : World} {z4 z5 : Nat} (hb : Below w.heap.size w W0) (o1 : Off (fun _ => False) W0 w1) (o2 : Off (fun i => i = z4 ∨ i = z5) w1 w2) (hz : ∀ i, i < w.heap.size → ¬ (i = z4 ∨ i = z5)) : Below w.heap.size w w2 :=
  hb.trans (((o1.mono (Y := fun i => i = z4 ∨ i = z5) fun _ _ h => h.elim).trans o2).below hb.size hz)
set_option maxHeartbeats 4000000 in
theorem nil_does (k N : Int) (A B : Nat) (w : World) : Calls Try.prog 12 #[.pointer none, opV k N A B] w fun e w' => e = .returned (tellV 0 0 0 false) ∧ Below w.heap.size w w' := by
  obtain ⟨W0, z4, z5, hW0, hz4, hz5, hb0, t4, t5, hq⟩ := laid3 k N A B w
  have q0 : W0.cell? ⟨w.heap.size, 0, none⟩ = some (.int .i64 k) := cell_of_row _ _ 0 _ _ _ hq
  have q1 : W0.cell? ⟨w.heap.size, 1, none⟩ = some (.int .i64 N) := cell_of_row _ _ 1 _ _ _ hq
  have q2 : W0.cell? ⟨w.heap.size, 2, none⟩ = some (.int .u32 (A : Int)) := cell_of_row _ _ 2 _ _ _ hq
  have q3 : W0.cell? ⟨w.heap.size, 3, none⟩ = some (.int .u32 (B : Int)) := cell_of_row _ _ 3 _ _ _ hq
  clear hq
  have n45 : ¬ z4 = z5 := by omega
  have Z : ∀ i, i < w.heap.size → ¬ (i = z4 ∨ i = z5) := fun i hi => by omega
  unfold opO tO at hW0
  by_cases k0 : k = 0
  · subst k0
    have a0 := t4.c0; have a1 := t4.c1; have a2 := t4.c2; have a3 := t4.c3; have f0 := t4.frz 0; have f1 := t4.frz 1; have f2 := t4.frz 2; have f3 := t4.frz 3; have c0 := t5.c0; have c1 := t5.c1; have c2 := t5.c2; have c3 := t5.c3; have g0 := t5.frz 0; have g1 := t5.frz 1; have g2 := t5.frz 2; have g3 := t5.frz 3
    go_enter Try.func12, Try.ntmps12
    go_wp2_with (first
      | (go_at_call 16; (with_reducible refine (nil_begun _ _ _).mono ?_); rintro e w1 ⟨rfl, rfl⟩)
      | fail)
    refine bodyPost_ret (v := tellV 0 0 0 false) (by simp [results, Try.results12, go_sem, tellV, a0, a1, a2, a3]) rfl ?_
    refine ⟨rfl, nend hb0 (Off.refl _ _) ?_ Z⟩
    all_goals repeat' (first | with_reducible exact Off.refl _ _ | with_reducible refine Off.st ?_ ?_ | exact Or.inl rfl | exact Or.inr rfl)
  have e0 : (k == 0) = false := by simpa using k0
  by_cases k1 : k = 1
  · subst k1
    have a0 := t4.c0; have a1 := t4.c1; have a2 := t4.c2; have a3 := t4.c3; have f0 := t4.frz 0; have f1 := t4.frz 1; have f2 := t4.frz 2; have f3 := t4.frz 3; have c0 := t5.c0; have c1 := t5.c1; have c2 := t5.c2; have c3 := t5.c3; have g0 := t5.frz 0; have g1 := t5.frz 1; have g2 := t5.frz 2; have g3 := t5.frz 3
    go_enter Try.func12, Try.ntmps12
    go_wp2_with (first
      | (go_at_call 17; (with_reducible refine (nil_sent _).mono ?_); rintro e w1 ⟨rfl, rfl⟩)
      | fail)
    refine bodyPost_ret (v := tellV 0 0 0 false) (by simp [results, Try.results12, go_sem, tellV, a0, a1, a2, a3]) rfl ?_
    refine ⟨rfl, nend hb0 (Off.refl _ _) ?_ Z⟩
    all_goals repeat' (first | with_reducible exact Off.refl _ _ | with_reducible refine Off.st ?_ ?_ | exact Or.inl rfl | exact Or.inr rfl)
  have e1 : (k == 1) = false := by simpa using k1
  by_cases k2 : k = 2
  · subst k2
    have a0 := t4.c0; have a1 := t4.c1; have a2 := t4.c2; have a3 := t4.c3; have f0 := t4.frz 0; have f1 := t4.frz 1; have f2 := t4.frz 2; have f3 := t4.frz 3; have c0 := t5.c0; have c1 := t5.c1; have c2 := t5.c2; have c3 := t5.c3; have g0 := t5.frz 0; have g1 := t5.frz 1; have g2 := t5.frz 2; have g3 := t5.frz 3
    go_enter Try.func12, Try.ntmps12
    go_wp2_with (first
      | (go_at_call 21; (with_reducible refine (nil_got _).mono ?_); rintro e w1 ⟨rfl, rfl⟩)
      | fail)
    refine bodyPost_ret (v := tellV 0 0 0 false) (by simp [results, Try.results12, go_sem, tellV, a0, a1, a2, a3]) rfl ?_
    refine ⟨rfl, nend hb0 (Off.refl _ _) ?_ Z⟩
    all_goals repeat' (first | with_reducible exact Off.refl _ _ | with_reducible refine Off.st ?_ ?_ | exact Or.inl rfl | exact Or.inr rfl)
  have e2 : (k == 2) = false := by simpa using k2
  by_cases k3 : k = 3
  · subst k3
    have a0 := t4.c0; have a1 := t4.c1; have a2 := t4.c2; have a3 := t4.c3; have f0 := t4.frz 0; have f1 := t4.frz 1; have f2 := t4.frz 2; have f3 := t4.frz 3; have c0 := t5.c0; have c1 := t5.c1; have c2 := t5.c2; have c3 := t5.c3; have g0 := t5.frz 0; have g1 := t5.frz 1; have g2 := t5.frz 2; have g3 := t5.frz 3
    go_enter Try.func12, Try.ntmps12
    go_wp2_with (first
      | (go_at_call 20; (with_reducible refine (nil_told _ _ _ _).mono ?_); rintro e w1 ⟨rfl, rfl⟩)
      | fail)
    refine bodyPost_ret (v := tellV 0 0 0 false) (by simp [results, Try.results12, go_sem, tellV, a0, a1, a2, a3]) rfl ?_
    refine ⟨rfl, nend hb0 (Off.refl _ _) ?_ Z⟩
    all_goals repeat' (first | with_reducible exact Off.refl _ _ | with_reducible refine Off.st ?_ ?_ | exact Or.inl rfl | exact Or.inr rfl)
  have e3 : (k == 3) = false := by simpa using k3
  by_cases k4 : k = 4
  · subst k4
    go_enter Try.func12, Try.ntmps12
    go_wp2_with (first
      | (go_at_call 22; (with_reducible refine (nil_need _).mono ?_); rintro e w1 ⟨rfl, b1⟩; have t4' := t4.off (Off.of (fun _ => False) b1) id; have t5' := t5.off (Off.of (fun _ => False) b1) id; have a0 := t4'.c0; have a1 := t4'.c1; have a2 := t4'.c2; have a3 := t4'.c3; have f0 := t4'.frz 0; have f1 := t4'.frz 1; have f2 := t4'.frz 2; have f3 := t4'.frz 3; have c0 := t5'.c0; have c1 := t5'.c1; have c2 := t5'.c2; have c3 := t5'.c3; have g0 := t5'.frz 0; have g1 := t5'.frz 1; have g2 := t5'.frz 2; have g3 := t5'.frz 3)
      | fail)
    refine bodyPost_ret (v := tellV 0 0 0 false) (by simp [results, Try.results12, go_sem, tellV, a0, a1, a2, a3]) rfl ?_
    refine ⟨rfl, nend hb0 (Off.of _ b1) ?_ Z⟩
    all_goals repeat' (first | with_reducible exact Off.refl _ _ | with_reducible refine Off.st ?_ ?_ | exact Or.inl rfl | exact Or.inr rfl)
  have e4 : (k == 4) = false := by simpa using k4
  by_cases k5 : k = 5
  · subst k5
    have a0 := t4.c0; have a1 := t4.c1; have a2 := t4.c2; have a3 := t4.c3; have f0 := t4.frz 0; have f1 := t4.frz 1; have f2 := t4.frz 2; have f3 := t4.frz 3; have c0 := t5.c0; have c1 := t5.c1; have c2 := t5.c2; have c3 := t5.c3; have g0 := t5.frz 0; have g1 := t5.frz 1; have g2 := t5.frz 2; have g3 := t5.frz 3
    go_enter Try.func12, Try.ntmps12
    go_wp2_with (first
      | (go_at_call 18; (with_reducible refine (nil_grant _).mono ?_); rintro e w1 ⟨rfl, rfl⟩)
      | fail)
    refine bodyPost_ret (v := tellV 0 0 0 false) (by simp [results, Try.results12, go_sem, tellV, a0, a1, a2, a3]) rfl ?_
    refine ⟨rfl, nend hb0 (Off.refl _ _) ?_ Z⟩
    all_goals repeat' (first | with_reducible exact Off.refl _ _ | with_reducible refine Off.st ?_ ?_ | exact Or.inl rfl | exact Or.inr rfl)
  have e5 : (k == 5) = false := by simpa using k5
  have a0 := t4.c0; have a1 := t4.c1; have a2 := t4.c2; have a3 := t4.c3
  have f0 := t4.frz 0; have f1 := t4.frz 1; have f2 := t4.frz 2; have f3 := t4.frz 3
  have c0 := t5.c0; have c1 := t5.c1; have c2 := t5.c2; have c3 := t5.c3
  have g0 := t5.frz 0; have g1 := t5.frz 1; have g2 := t5.frz 2; have g3 := t5.frz 3
  clear k0 k1 k2 k3 k4 k5
  go_enter Try.func12, Try.ntmps12
  go_wp2
  refine bodyPost_ret (v := tellV 0 0 0 false) (by simp [results, Try.results12, go_sem, tellV, a0, a1, a2, a3]) rfl ?_
  refine ⟨rfl, nend hb0 (Off.refl _ _) ?_ Z⟩
  all_goals repeat' (first | with_reducible exact Off.refl _ _ | with_reducible refine Off.st ?_ ?_ | exact Or.inl rfl | exact Or.inr rfl)
theorem wdoes_at (k N : Int) (A B : Nat) {b : Nat} {W : Wn} (V : Wn) (a1 a2 a3 : Int) (a4 : Bool) (w : World) (hA : A < 4294967296) (hB : B < 4294967296) (h : Win w b W) (hV : doW W k N A B = V) (h1 : ((doA W k : Nat) : Int) = a1) (h2 : ((doB W k : Nat) : Int) = a2) (h3 : ((doC W k : Nat) : Int) = a3) (h4 : doI W k = a4) : Calls Try.prog 12 #[.pointer (some ⟨b, 0, none⟩), .agg #[.int .i64 k, .int .i64 N, .int .u32 (A : Int), .int .u32 (B : Int)]] w (Leaves b V (tellI a1 a2 a3 a4) w) := by
  subst hV h1 h2 h3 h4
  exact wdoes_any k N A B w hA hB h
end Go.Proofs.Ytppcfkcnaaflgaa.Wn
