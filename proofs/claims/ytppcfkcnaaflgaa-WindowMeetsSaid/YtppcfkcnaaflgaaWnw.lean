/-
  What the laws of windows lean on: does and meant, something that is done to the program's window, and to the document's; works, the anchor, which answers true. Memory that was there stays, but for the window's own block. Conditions: numbers of 32 bits are such.
-/
import Derived.Test.YtppcfkcnaaflgaaWnp
import Derived.Test.YtppcfkcnaaflgaaWnx
namespace Go.Proofs.Ytppcfkcnaaflgaa.Wn
set_option maxRecDepth 100000
open Go.RowKit Go.Proofs.Ytppcfkcnaaflgaa.Utf Go.Proofs.Ytppcfkcnaaflgaa.Ob

/-- What is left behind something that is done. -/
def doW (W : Wn) (k N : Int) (A B : Nat) : Wn := if k = 0 then begW W A B else if k = 1 then sentW W else if k = 2 then gotW W else if k = 3 then toldW W N A B else if k = 5 then grantW W else W
def doA (W : Wn) (k : Int) : Nat := if k = 1 then sentN W else if k = 5 then W.ni else 0
def doB (W : Wn) (k : Int) : Nat := if k = 5 then W.most else 0
def doC (W : Wn) (k : Int) : Nat := if k = 5 then W.no else 0
def doI (W : Wn) (k : Int) : Bool := if k = 1 then sentB W else if k = 2 then gotB W else if k = 4 then needB W else false
abbrev opV (k N : Int) (A B : Nat) : Value := .agg #[.int .i64 k, .int .i64 N, .int .u32 (A : Int), .int .u32 (B : Int)]
abbrev tellV (a b c : Nat) (i : Bool) : Value := .agg #[.int .u32 (a : Int), .int .u32 (b : Int), .int .u32 (c : Int), .bool i]
abbrev tellI (a b c : Int) (i : Bool) : Value := .agg #[.int .u32 a, .int .u32 b, .int .u32 c, .bool i]
abbrev doV (W : Wn) (k : Int) : Value := tellV (doA W k) (doB W k) (doC W k) (doI W k)
def opO (k N : Int) (A B : Nat) : Obj := .cells #[.int .i64 k, .int .i64 N, .int .u32 (A : Int), .int .u32 (B : Int)] 33 (0, 0)
def tO : Obj := .cells #[.int .u32 0, .int .u32 0, .int .u32 0, .bool false] 30 (0, 0)
/-- A new row of four answers. -/
structure Tn (w : World) (z : Nat) : Prop where
  obj : w.heap[z]? = some tO
theorem Tn.c0 {w : World} {z : Nat} (h : Tn w z) : w.cell? ⟨z, 0, none⟩ = some (.int .u32 0) := cell_of_row _ _ 0 _ _ _ h.obj
theorem Tn.c1 {w : World} {z : Nat} (h : Tn w z) : w.cell? ⟨z, 1, none⟩ = some (.int .u32 0) := cell_of_row _ _ 1 _ _ _ h.obj
theorem Tn.c2 {w : World} {z : Nat} (h : Tn w z) : w.cell? ⟨z, 2, none⟩ = some (.int .u32 0) := cell_of_row _ _ 2 _ _ _ h.obj
theorem Tn.c3 {w : World} {z : Nat} (h : Tn w z) : w.cell? ⟨z, 3, none⟩ = some (.bool false) := cell_of_row _ _ 3 _ _ _ h.obj
theorem Tn.frz {w : World} {z : Nat} (h : Tn w z) (j : Nat) : w.frozen? ⟨z, j, none⟩ = false := frz_of j h.obj
theorem Tn.off {X : Nat → Prop} {w w' : World} {z : Nat} (h : Tn w z) (ho : Off X w w') (hx : ¬ X z) : Tn w' z := ⟨(ho.block z (Array.getElem?_eq_some_iff.1 h.obj).1 hx).trans h.obj⟩
/-- The world behind the three boxes that does lays. -/
theorem laid3 (k N : Int) (A B : Nat) (w : World) : ∃ W0 z4 z5, (((w.alloc (opO k N A B)).alloc tO).alloc tO) = W0 ∧ w.heap.size + 1 = z4 ∧ z4 + 1 = z5 ∧ Below w.heap.size w W0 ∧ Tn W0 z4 ∧ Tn W0 z5 ∧ W0.heap[w.heap.size]? = some (opO k N A B) := by
  refine ⟨_, _, _, rfl, rfl, rfl, ba (ba (ba (Below.refl _ _) _) _) _, ⟨?_⟩, ⟨?_⟩, ?_⟩
  · have h0 : ((w.alloc (opO k N A B)).alloc tO).heap[w.heap.size + 1]? = some tO := by
      have := heap_alloc_new (w.alloc (opO k N A B)) tO
      simpa using this
    have hb : Below ((w.alloc (opO k N A B)).alloc tO).heap.size ((w.alloc (opO k N A B)).alloc tO) (((w.alloc (opO k N A B)).alloc tO).alloc tO) := ba (Below.refl _ _) _
    rw [hb.block _ (by simp)]
    exact h0
  · have := heap_alloc_new ((w.alloc (opO k N A B)).alloc tO) tO
    simpa using this
  · have h1 : (w.alloc (opO k N A B)).heap[w.heap.size]? = some (opO k N A B) := heap_alloc_new _ _
    have hb : Below (w.alloc (opO k N A B)).heap.size (w.alloc (opO k N A B)) (((w.alloc (opO k N A B)).alloc tO).alloc tO) := ba (ba (Below.refl _ _) _) _
    rw [hb.block _ (by simp)]
    exact h1
theorem Off.st {X : Nat → Prop} {w w1 : World} {g j : Nat} {v : Value} (h : Off X w w1) (hx : X g) : Off X w (w1.setCell ⟨g, j, none⟩ v) := h.trans (Off.set _ _ _ hx)
theorem end4 {w W0 w1 w2 : World} {b z4 z5 : Nat} (hb : Below w.heap.size w W0) (o1 : Off (fun i => i = b) W0 w1) (o2 : Off (fun i => i = z4 ∨ i = z5) w1 w2) (hz : ∀ i, i < w.heap.size → ¬ (i = z4 ∨ i = z5)) : Off (fun i => i = b) w w2 :=
  ⟨(o2.os.trans o1.os).trans hb.os, (o2.tape.trans o1.tape).trans hb.tape, (o2.output.trans o1.output).trans hb.output, Nat.le_trans hb.size (Nat.le_trans o1.size o2.size), fun i hi hx => ((o2.block i (Nat.lt_of_lt_of_le hi (Nat.le_trans hb.size o1.size)) (hz i hi)).trans (o1.block i (Nat.lt_of_lt_of_le hi hb.size) hx)).trans (hb.block i hi)⟩
/-- A row of four answers. -/
structure Tl (w : World) (z : Nat) (a b c : Int) (i : Bool) : Prop where
  obj : w.heap[z]? = some (.cells #[.int .u32 a, .int .u32 b, .int .u32 c, .bool i] 30 (0, 0))
theorem Tl.c0 {w : World} {z : Nat} {a b c : Int} {i : Bool} (h : Tl w z a b c i) : w.cell? ⟨z, 0, none⟩ = some (.int .u32 a) := cell_of_row _ _ 0 _ _ _ h.obj
theorem Tl.c1 {w : World} {z : Nat} {a b c : Int} {i : Bool} (h : Tl w z a b c i) : w.cell? ⟨z, 1, none⟩ = some (.int .u32 b) := cell_of_row _ _ 1 _ _ _ h.obj
theorem Tl.c2 {w : World} {z : Nat} {a b c : Int} {i : Bool} (h : Tl w z a b c i) : w.cell? ⟨z, 2, none⟩ = some (.int .u32 c) := cell_of_row _ _ 2 _ _ _ h.obj
theorem Tl.c3 {w : World} {z : Nat} {a b c : Int} {i : Bool} (h : Tl w z a b c i) : w.cell? ⟨z, 3, none⟩ = some (.bool i) := cell_of_row _ _ 3 _ _ _ h.obj
theorem Tl.frz {w : World} {z : Nat} {a b c : Int} {i : Bool} (h : Tl w z a b c i) (j : Nat) : w.frozen? ⟨z, j, none⟩ = false := frz_of j h.obj
theorem Tl.lt {w : World} {z : Nat} {a b c : Int} {i : Bool} (h : Tl w z a b c i) : z < w.heap.size := (Array.getElem?_eq_some_iff.1 h.obj).1
theorem Tl.off {X : Nat → Prop} {w w' : World} {z : Nat} {a b c : Int} {i : Bool} (h : Tl w z a b c i) (ho : Off X w w') (hx : ¬ X z) : Tl w' z a b c i := ⟨(ho.block z h.lt hx).trans h.obj⟩
theorem Tl.call {w w' : World} {z : Nat} {a b c : Int} {i : Bool} (h : Tl w z a b c i) (hb : Below w.heap.size w w') : Tl w' z a b c i := h.off (X := fun _ => False) (Off.of _ hb) id
theorem Tl.new (w : World) (a b c : Int) (i : Bool) : Tl (w.alloc (.cells #[.int .u32 a, .int .u32 b, .int .u32 c, .bool i] 30 (0, 0))) w.heap.size a b c i := ⟨heap_alloc_new _ _⟩
section
variable {b : Nat} {W : Wn}
set_option maxHeartbeats 4000000 in
theorem wdoes_any (k N : Int) (A B : Nat) (w : World) (hA : A < 4294967296) (hB : B < 4294967296) (h : Win w b W) : Calls Try.prog 12 #[.pointer (some ⟨b, 0, none⟩), opV k N A B] w (Leaves b (doW W k N A B) (doV W k) w) := by
  obtain ⟨W0, z4, z5, hW0, hz4, hz5, hb0, t4, t5, hq⟩ := laid3 k N A B w
  have q0 : W0.cell? ⟨w.heap.size, 0, none⟩ = some (.int .i64 k) := cell_of_row _ _ 0 _ _ _ hq
  have q1 : W0.cell? ⟨w.heap.size, 1, none⟩ = some (.int .i64 N) := cell_of_row _ _ 1 _ _ _ hq
  have q2 : W0.cell? ⟨w.heap.size, 2, none⟩ = some (.int .u32 (A : Int)) := cell_of_row _ _ 2 _ _ _ hq
  have q3 : W0.cell? ⟨w.heap.size, 3, none⟩ = some (.int .u32 (B : Int)) := cell_of_row _ _ 3 _ _ _ hq
  clear hq
  have h0 := h.call hb0
  have n4 : ¬ b = z4 := by have := h.lt; omega
  have n5 : ¬ b = z5 := by have := h.lt; omega
  have n45 : ¬ z4 = z5 := by omega
  have Z : ∀ i, i < w.heap.size → ¬ (i = z4 ∨ i = z5) := fun i hi => by omega
  unfold opO tO at hW0
  unfold opV
  by_cases k0 : k = 0
  · subst k0
    have HC := Lib.hid (begun_any A B W0 hA hB h0)
    have hv : doW W 0 N A B = begW W A B := rfl
    have hx : doV W 0 = tellV 0 0 0 false := rfl
    rw [hv, hx]
    clear h h0 hA hB hv hx
    go_enter Try.func12, Try.ntmps12
    go_wp2_with (first
      | (go_at_call 16; (with_reducible refine HC.out.mono ?_); rintro e w1 ⟨rfl, h1, o1⟩; have t4' := t4.off o1 (fun e => n4 e.symm); have t5' := t5.off o1 (fun e => n5 e.symm); have a0 := t4'.c0; have a1 := t4'.c1; have a2 := t4'.c2; have a3 := t4'.c3; have f0 := t4'.frz 0; have f1 := t4'.frz 1; have f2 := t4'.frz 2; have f3 := t4'.frz 3; have c0 := t5'.c0; have c1 := t5'.c1; have c2 := t5'.c2; have c3 := t5'.c3; have g0 := t5'.frz 0; have g1 := t5'.frz 1; have g2 := t5'.frz 2; have g3 := t5'.frz 3)
      | fail)
    refine bodyPost_ret (v := tellV 0 0 0 false) (by simp [results, Try.results12, go_sem, tellV, a0, a1, a2, a3]) rfl ?_
    refine ⟨rfl, h1.off (X := fun i => i = z4 ∨ i = z5) ?_ (by omega), end4 hb0 o1 ?_ Z⟩
    all_goals repeat' (first | with_reducible exact Off.refl _ _ | with_reducible refine Off.st ?_ ?_ | exact Or.inl rfl | exact Or.inr rfl)
  have e0 : (k == 0) = false := by simpa using k0
  by_cases k1 : k = 1
  · subst k1
    have HC := Lib.hid (sent_any W0 h0)
    have hv : doW W 1 N A B = sentW W := rfl
    have hx : doV W 1 = tellV (sentN W) 0 0 (sentB W) := rfl
    rw [hv, hx]
    clear h h0 hA hB hv hx
    go_enter Try.func12, Try.ntmps12
    go_wp2_with (first
      | (go_at_call 17; (with_reducible refine HC.out.mono ?_); rintro e w1 ⟨rfl, h1, o1⟩; have t4' := t4.off o1 (fun e => n4 e.symm); have t5' := t5.off o1 (fun e => n5 e.symm); have a0 := t4'.c0; have a1 := t4'.c1; have a2 := t4'.c2; have a3 := t4'.c3; have f0 := t4'.frz 0; have f1 := t4'.frz 1; have f2 := t4'.frz 2; have f3 := t4'.frz 3; have c0 := t5'.c0; have c1 := t5'.c1; have c2 := t5'.c2; have c3 := t5'.c3; have g0 := t5'.frz 0; have g1 := t5'.frz 1; have g2 := t5'.frz 2; have g3 := t5'.frz 3)
      | fail)
    refine bodyPost_ret (v := tellV (sentN W) 0 0 (sentB W)) (by simp [results, Try.results12, go_sem, tellV, a0, a1, a2, a3]) rfl ?_
    refine ⟨rfl, h1.off (X := fun i => i = z4 ∨ i = z5) ?_ (by omega), end4 hb0 o1 ?_ Z⟩
    all_goals repeat' (first | with_reducible exact Off.refl _ _ | with_reducible refine Off.st ?_ ?_ | exact Or.inl rfl | exact Or.inr rfl)
  have e1 : (k == 1) = false := by simpa using k1
  by_cases k2 : k = 2
  · subst k2
    have HC := Lib.hid (got_any W0 h0)
    have hv : doW W 2 N A B = gotW W := rfl
    have hx : doV W 2 = tellV 0 0 0 (gotB W) := rfl
    rw [hv, hx]
    clear h h0 hA hB hv hx
    go_enter Try.func12, Try.ntmps12
    go_wp2_with (first
      | (go_at_call 21; (with_reducible refine HC.out.mono ?_); rintro e w1 ⟨rfl, h1, o1⟩; have t4' := t4.off o1 (fun e => n4 e.symm); have t5' := t5.off o1 (fun e => n5 e.symm); have a0 := t4'.c0; have a1 := t4'.c1; have a2 := t4'.c2; have a3 := t4'.c3; have f0 := t4'.frz 0; have f1 := t4'.frz 1; have f2 := t4'.frz 2; have f3 := t4'.frz 3; have c0 := t5'.c0; have c1 := t5'.c1; have c2 := t5'.c2; have c3 := t5'.c3; have g0 := t5'.frz 0; have g1 := t5'.frz 1; have g2 := t5'.frz 2; have g3 := t5'.frz 3)
      | fail)
    refine bodyPost_ret (v := tellV 0 0 0 (gotB W)) (by simp [results, Try.results12, go_sem, tellV, a0, a1, a2, a3]) rfl ?_
    refine ⟨rfl, h1.off (X := fun i => i = z4 ∨ i = z5) ?_ (by omega), end4 hb0 o1 ?_ Z⟩
    all_goals repeat' (first | with_reducible exact Off.refl _ _ | with_reducible refine Off.st ?_ ?_ | exact Or.inl rfl | exact Or.inr rfl)
  have e2 : (k == 2) = false := by simpa using k2
  by_cases k3 : k = 3
  · subst k3
    have HC := Lib.hid (told_any N A B W0 hA hB h0)
    have hv : doW W 3 N A B = toldW W N A B := rfl
    have hx : doV W 3 = tellV 0 0 0 false := rfl
    rw [hv, hx]
    clear h h0 hA hB hv hx
    go_enter Try.func12, Try.ntmps12
    go_wp2_with (first
      | (go_at_call 20; (with_reducible refine HC.out.mono ?_); rintro e w1 ⟨rfl, h1, o1⟩; have t4' := t4.off o1 (fun e => n4 e.symm); have t5' := t5.off o1 (fun e => n5 e.symm); have a0 := t4'.c0; have a1 := t4'.c1; have a2 := t4'.c2; have a3 := t4'.c3; have f0 := t4'.frz 0; have f1 := t4'.frz 1; have f2 := t4'.frz 2; have f3 := t4'.frz 3; have c0 := t5'.c0; have c1 := t5'.c1; have c2 := t5'.c2; have c3 := t5'.c3; have g0 := t5'.frz 0; have g1 := t5'.frz 1; have g2 := t5'.frz 2; have g3 := t5'.frz 3)
      | fail)
    refine bodyPost_ret (v := tellV 0 0 0 false) (by simp [results, Try.results12, go_sem, tellV, a0, a1, a2, a3]) rfl ?_
    refine ⟨rfl, h1.off (X := fun i => i = z4 ∨ i = z5) ?_ (by omega), end4 hb0 o1 ?_ Z⟩
    all_goals repeat' (first | with_reducible exact Off.refl _ _ | with_reducible refine Off.st ?_ ?_ | exact Or.inl rfl | exact Or.inr rfl)
  have e3 : (k == 3) = false := by simpa using k3
  by_cases k4 : k = 4
  · subst k4
    have HC := Lib.hid (need_any W0 h0)
    have hv : doW W 4 N A B = W := rfl
    have hx : doV W 4 = tellV 0 0 0 (needB W) := rfl
    rw [hv, hx]
    clear h h0 hA hB hv hx
    go_enter Try.func12, Try.ntmps12
    go_wp2_with (first
      | (go_at_call 22; (with_reducible refine HC.out.mono ?_); rintro e w1 ⟨rfl, h1, o1⟩; have t4' := t4.off o1 (fun e => n4 e.symm); have t5' := t5.off o1 (fun e => n5 e.symm); have a0 := t4'.c0; have a1 := t4'.c1; have a2 := t4'.c2; have a3 := t4'.c3; have f0 := t4'.frz 0; have f1 := t4'.frz 1; have f2 := t4'.frz 2; have f3 := t4'.frz 3; have c0 := t5'.c0; have c1 := t5'.c1; have c2 := t5'.c2; have c3 := t5'.c3; have g0 := t5'.frz 0; have g1 := t5'.frz 1; have g2 := t5'.frz 2; have g3 := t5'.frz 3)
      | fail)
    refine bodyPost_ret (v := tellV 0 0 0 (needB W)) (by simp [results, Try.results12, go_sem, tellV, a0, a1, a2, a3]) rfl ?_
    refine ⟨rfl, h1.off (X := fun i => i = z4 ∨ i = z5) ?_ (by omega), end4 hb0 o1 ?_ Z⟩
    all_goals repeat' (first | with_reducible exact Off.refl _ _ | with_reducible refine Off.st ?_ ?_ | exact Or.inl rfl | exact Or.inr rfl)
  have e4 : (k == 4) = false := by simpa using k4
  by_cases k5 : k = 5
  · subst k5
    have HC := Lib.hid (grant_any W0 h0)
    have hv : doW W 5 N A B = grantW W := rfl
    have hx : doV W 5 = tellV W.ni W.most W.no false := rfl
    rw [hv, hx]
    clear h h0 hA hB hv hx
    go_enter Try.func12, Try.ntmps12
    go_wp2_with (first
      | (go_at_call 18; (with_reducible refine HC.out.mono ?_); rintro e w1 ⟨rfl, h1, o1⟩; have t4' := t4.off o1 (fun e => n4 e.symm); have t5' := t5.off o1 (fun e => n5 e.symm); have a0 := t4'.c0; have a1 := t4'.c1; have a2 := t4'.c2; have a3 := t4'.c3; have f0 := t4'.frz 0; have f1 := t4'.frz 1; have f2 := t4'.frz 2; have f3 := t4'.frz 3; have c0 := t5'.c0; have c1 := t5'.c1; have c2 := t5'.c2; have c3 := t5'.c3; have g0 := t5'.frz 0; have g1 := t5'.frz 1; have g2 := t5'.frz 2; have g3 := t5'.frz 3)
      | fail)
    refine bodyPost_ret (v := tellV W.ni W.most W.no false) (by simp [results, Try.results12, go_sem, tellV, a0, a1, a2, a3]) rfl ?_
    refine ⟨rfl, h1.off (X := fun i => i = z4 ∨ i = z5) ?_ (by omega), end4 hb0 o1 ?_ Z⟩
    all_goals repeat' (first | with_reducible exact Off.refl _ _ | with_reducible refine Off.st ?_ ?_ | exact Or.inl rfl | exact Or.inr rfl)
  have e5 : (k == 5) = false := by simpa using k5
  have hv : doW W k N A B = W := by simp [doW, k0, k1, k2, k3, k5]
  have hx : doV W k = tellV 0 0 0 false := by simp [doV, doA, doB, doC, doI, k1, k2, k4, k5]
  rw [hv, hx]
  have H0 := Lib.hid h0
  have a0 := t4.c0; have a1 := t4.c1; have a2 := t4.c2; have a3 := t4.c3
  have f0 := t4.frz 0; have f1 := t4.frz 1; have f2 := t4.frz 2; have f3 := t4.frz 3
  have c0 := t5.c0; have c1 := t5.c1; have c2 := t5.c2; have c3 := t5.c3
  have g0 := t5.frz 0; have g1 := t5.frz 1; have g2 := t5.frz 2; have g3 := t5.frz 3
  clear h h0 hA hB hv hx k0 k1 k2 k3 k4 k5
  go_enter Try.func12, Try.ntmps12
  go_wp2
  refine bodyPost_ret (v := tellV 0 0 0 false) (by simp [results, Try.results12, go_sem, tellV, a0, a1, a2, a3]) rfl ?_
  refine ⟨rfl, H0.out.off (X := fun i => i = z4 ∨ i = z5) ?_ (by omega), end4 hb0 (Off.refl _ _) ?_ Z⟩
  all_goals repeat' (first | with_reducible exact Off.refl _ _ | with_reducible refine Off.st ?_ ?_ | exact Or.inl rfl | exact Or.inr rfl)
end
theorem okdo {W : Wn} {k N : Int} {A B : Nat} (h : Ok W) (hA : A < 4294967296) (hB : B < 4294967296) : Ok (doW W k N A B) := by
  unfold doW
  split
  · exact h.beg A B hA
  split
  · exact h.sent
  split
  · exact h.got
  split
  · exact h.told N A B hB
  split
  · exact h.grant
  · exact h
theorem Tl.set0 {w : World} {z : Nat} {a b c : Int} {i : Bool} (h : Tl w z a b c i) (m : Int) : Tl (w.setCell ⟨z, 0, none⟩ (.int .u32 m)) z m b c i := ⟨by simp [World.setCell, Array.getElem?_modify, h.obj]⟩
theorem Off.trans_new {X : Nat → Prop} {w w1 : World} (h : Off X w w1) {z j : Nat} (hz : w.heap.size ≤ z) (v : Value) : Off X w (w1.setCell ⟨z, j, none⟩ v) :=
  ⟨h.os, h.tape, h.output, by simpa using h.size, fun i hi hx => (Below.heap_setCell w1 ⟨z, j, none⟩ v i (fun e => by simp at e; omega)).trans (h.block i hi hx)⟩
end Go.Proofs.Ytppcfkcnaaflgaa.Wn
