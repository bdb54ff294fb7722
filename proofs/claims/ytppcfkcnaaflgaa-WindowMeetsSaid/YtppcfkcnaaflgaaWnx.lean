/-
  The document's window in memory; contracts of its New, Begun, Sent, Got, Told, Need, Grant, Left. Memory that was there stays, but for the window's own block. Conditions: numbers of 32 bits are such.
-/
import Derived.Test.YtppcfkcnaaflgaaWno
namespace Go.Proofs.Ytppcfkcnaaflgaa.Wn
set_option maxRecDepth 100000
open Go.RowKit Go.Proofs.Ytppcfkcnaaflgaa.Utf Go.Proofs.Ytppcfkcnaaflgaa.Ob

/-- A window in memory, the document's. -/
structure Xin (w : World) (b : Nat) (W : Wn) : Prop where
  obj : w.heap[b]? = some (.cells #[.int .u32 (W.most : Int), .int .u32 (W.no : Int), .int .u32 (W.ni : Int), .bool W.known, .int .u32 (W.out : Int), .int .u32 (W.inn : Int)] 60 (0, 0))
  ok : Ok W
section
variable {w w' : World} {b : Nat} {W : Wn} {X : Nat → Prop}
theorem Xin.lt (h : Xin w b W) : b < w.heap.size := (Array.getElem?_eq_some_iff.1 h.obj).1
theorem Xin.off (h : Xin w b W) (ho : Off X w w') (hx : ¬ X b) : Xin w' b W := ⟨(ho.block b h.lt hx).trans h.obj, h.ok⟩
theorem Xin.call (h : Xin w b W) (hb : Below w.heap.size w w') : Xin w' b W := h.off (X := fun _ => False) (Off.of _ hb) id
theorem Xin.c0 (h : Xin w b W) : w.cell? ⟨b, 0, none⟩ = some (.int .u32 (W.most : Int)) := cell_of_row _ _ 0 _ _ _ h.obj
theorem Xin.c1 (h : Xin w b W) : w.cell? ⟨b, 1, none⟩ = some (.int .u32 (W.no : Int)) := cell_of_row _ _ 1 _ _ _ h.obj
theorem Xin.c2 (h : Xin w b W) : w.cell? ⟨b, 2, none⟩ = some (.int .u32 (W.ni : Int)) := cell_of_row _ _ 2 _ _ _ h.obj
theorem Xin.c3 (h : Xin w b W) : w.cell? ⟨b, 3, none⟩ = some (.bool W.known) := cell_of_row _ _ 3 _ _ _ h.obj
theorem Xin.c4 (h : Xin w b W) : w.cell? ⟨b, 4, none⟩ = some (.int .u32 (W.out : Int)) := cell_of_row _ _ 4 _ _ _ h.obj
theorem Xin.c5 (h : Xin w b W) : w.cell? ⟨b, 5, none⟩ = some (.int .u32 (W.inn : Int)) := cell_of_row _ _ 5 _ _ _ h.obj
theorem Xin.frz (h : Xin w b W) (j : Nat) : w.frozen? ⟨b, j, none⟩ = false := frz_of j h.obj
theorem Xin.setNo (h : Xin w b W) (m : Nat) (hm : m < 4294967296) : Xin (w.setCell ⟨b, 1, none⟩ (.int .u32 (m : Int))) b { W with no := m } := ⟨by simp [World.setCell, Array.getElem?_modify, h.obj], ⟨h.ok.m1, h.ok.m2, hm, h.ok.ni, h.ok.out, h.ok.inn⟩⟩
theorem Xin.setNi (h : Xin w b W) (m : Nat) (hm : m < 4294967296) : Xin (w.setCell ⟨b, 2, none⟩ (.int .u32 (m : Int))) b { W with ni := m } := ⟨by simp [World.setCell, Array.getElem?_modify, h.obj], ⟨h.ok.m1, h.ok.m2, h.ok.no, hm, h.ok.out, h.ok.inn⟩⟩
theorem Xin.setKnown (h : Xin w b W) (k : Bool) : Xin (w.setCell ⟨b, 3, none⟩ (.bool k)) b { W with known := k } := ⟨by simp [World.setCell, Array.getElem?_modify, h.obj], ⟨h.ok.m1, h.ok.m2, h.ok.no, h.ok.ni, h.ok.out, h.ok.inn⟩⟩
theorem Xin.setOut (h : Xin w b W) (m : Nat) (hm : m ≤ 256) : Xin (w.setCell ⟨b, 4, none⟩ (.int .u32 (m : Int))) b { W with out := m } := ⟨by simp [World.setCell, Array.getElem?_modify, h.obj], ⟨h.ok.m1, h.ok.m2, h.ok.no, h.ok.ni, hm, h.ok.inn⟩⟩
theorem Xin.setInn (h : Xin w b W) (m : Nat) (hm : m ≤ W.most) : Xin (w.setCell ⟨b, 5, none⟩ (.int .u32 (m : Int))) b { W with inn := m } := ⟨by simp [World.setCell, Array.getElem?_modify, h.obj], ⟨h.ok.m1, h.ok.m2, h.ok.no, h.ok.ni, h.ok.out, hm⟩⟩
def GivesXnew (W : Wn) (w : World) (e : Ending) (w' : World) : Prop := ∃ b, e = .returned (.pointer (some ⟨b, 0, none⟩)) ∧ Xin w' b W ∧ w.heap.size ≤ b ∧ Below w.heap.size w w'
theorem xwnew_any (g : Nat) (w : World) : Calls Try.prog 11 #[.int .u32 (g : Int)] w (GivesXnew (newW g) w) := by
  have main : ∀ q : Nat, newW g = ⟨q, 0, 0, false, 0, q⟩ → max (1 : Int) (min (g : Int) 256) = (q : Int) → Calls Try.prog 11 #[.int .u32 (g : Int)] w (GivesXnew (newW g) w) := by
    intro q hv hq
    have OK := Lib.hid (hv ▸ Ok.new g)
    rw [hv]
    clear hv
    have hcs : (g = 0 ∧ q = 1) ∨ (g = 1 ∧ q = 1) ∨ (2 ≤ g ∧ g ≤ 256 ∧ q = g) ∨ (256 < g ∧ q = 256) := by omega
    clear hq
    rcases hcs with ⟨rfl, rfl⟩ | ⟨rfl, rfl⟩ | ⟨h1, h2, rfl⟩ | ⟨h1, rfl⟩
    · go_enter Try.func11, Try.ntmps11
      go_wp2
      go_ret
      exact ⟨_, rfl, ⟨heap_alloc_new _ _, OK.out⟩, Nat.le_refl _, ba (Below.refl _ _) _⟩
    · go_enter Try.func11, Try.ntmps11
      go_wp2
      go_ret
      exact ⟨_, rfl, ⟨heap_alloc_new _ _, OK.out⟩, Nat.le_refl _, ba (Below.refl _ _) _⟩
    · have d1 : min (q : Int) 256 = (q : Int) := by omega
      have d2 : decide ((q : Int) < 1) = false := by simp; omega
      have d3 : decide ((256 : Int) < (q : Int)) = false := by simp; omega
      have d4 : max (1 : Int) (q : Int) = (q : Int) := by omega
      go_enter Try.func11, Try.ntmps11
      go_wp2
      all_goals
        try (exfalso; omega)
      all_goals
        go_ret
        exact ⟨_, rfl, ⟨heap_alloc_new _ _, OK.out⟩, Nat.le_refl _, ba (Below.refl _ _) _⟩
    · have d1 : min (g : Int) 256 = 256 := by omega
      have d3 : decide ((256 : Int) < (g : Int)) = true := by simp; omega
      go_enter Try.func11, Try.ntmps11
      go_wp2
      go_ret
      exact ⟨_, rfl, ⟨heap_alloc_new _ _, OK.out⟩, Nat.le_refl _, ba (Below.refl _ _) _⟩
  exact main (max 1 (min g 256)) rfl (by omega)
def Xleaves (b : Nat) (W : Wn) (v : Value) (w : World) (e : Ending) (w' : World) : Prop := e = .returned v ∧ Xin w' b W ∧ Off (fun i => i = b) w w'
theorem set1 (w : World) (b j : Nat) (u : Value) : Off (fun i => i = b) w (w.setCell ⟨b, j, none⟩ u) := Off.set (X := fun i => i = b) (g := b) w j u rfl
theorem xbegun_any (n i : Nat) (w : World) (hn : n < 4294967296) (h : Xin w b W) : Calls Try.prog 24 #[.pointer (some ⟨b, 0, none⟩), .int .u32 (n : Int), .int .u32 (i : Int)] w (Xleaves b (begW W n i) (.tuple #[]) w) := by
  have h1 := h.setNi n hn
  have h2 := h1.setKnown true
  obtain ⟨q, hq⟩ : ∃ q, min i 256 = q := ⟨_, rfl⟩
  have h3 := h2.setOut q (by omega)
  have H3 := Lib.hid h3
  have x2 := h.c2
  have f2 := h.frz 2
  have y3 := h1.c3
  have g3 := h1.frz 3
  have z4 := h2.c4
  have k4 := h2.frz 4
  unfold begW
  rw [hq]
  have hcs : (i ≤ 256 ∧ q = i) ∨ (256 < i ∧ q = 256) := by omega
  clear h h1 h2 h3 hq
  rcases hcs with ⟨h2, rfl⟩ | ⟨h1, rfl⟩
  · have d3 : min (q : Int) 256 = (q : Int) := by omega
    go_enter Try.func24, Try.ntmps24
    go_wp2
    go_end0
    exact ⟨rfl, H3.out, (off2 _ _ _ _ _ _).trans (set1 _ _ _ _)⟩
  · have d3 : min (i : Int) 256 = 256 := by omega
    go_enter Try.func24, Try.ntmps24
    go_wp2
    go_end0
    exact ⟨rfl, H3.out, (off2 _ _ _ _ _ _).trans (set1 _ _ _ _)⟩
theorem xsent_any (w : World) (h : Xin w b W) : Calls Try.prog 25 #[.pointer (some ⟨b, 0, none⟩)] w (Xleaves b (sentW W) (.tuple #[.int .u32 (sentN W : Int), .bool (sentB W)]) w) := by
  have H := Lib.hid h
  have x4 := h.c4
  by_cases ho : W.out = 0
  · have hW : sentW W = W := by unfold sentW; rw [if_neg (by omega)]
    have hN : sentN W = 0 := by unfold sentN; rw [if_neg (by omega)]
    have hB : sentB W = false := by simp [sentB, ho]
    rw [hW, hN, hB]
    rw [ho] at x4
    clear h hW hN hB ho
    go_enter Try.func25, Try.ntmps25
    go_wp2
    refine bodyPost_ret (v := .tuple #[.int .u32 0, .bool false]) (by simp [results, Try.results25, go_sem]) rfl ?_
    exact ⟨rfl, H.out, Off.refl _ _⟩
  · have hW : sentW W = { W with out := W.out - 1, no := (W.no + 1) % 4294967296 } := by unfold sentW; rw [if_pos (by omega)]
    have hN : sentN W = W.no := by unfold sentN; rw [if_pos (by omega)]
    have hB : sentB W = true := by simp [sentB]; omega
    rw [hW, hN, hB]
    obtain ⟨p, hp⟩ : ∃ p, (W.no + 1) % 4294967296 = p := ⟨_, rfl⟩
    obtain ⟨q, hq⟩ : ∃ q, W.out - 1 = q := ⟨_, rfl⟩
    have h1 := h.setOut q (by have := h.ok.out; omega)
    have h2 := h1.setNo p (by omega)
    have d : ((W.out : Int) == 0) = false := by simp; omega
    have eq1 : ((W.out : Int) - 1) % 4294967296 = (q : Int) := by have := h.ok.out; omega
    have ep : ((W.no : Int) + 1) % 4294967296 = (p : Int) := by omega
    have eb : ((p : Int) - 1) % 4294967296 = (W.no : Int) := by have := h.ok.no; omega
    rw [hp, hq]
    have f4 := h.frz 4
    have y1 := h1.c1
    have g1 := h1.frz 1
    have z1 := h2.c1
    have H2 := Lib.hid h2
    clear h hW hN hB ho hp hq h1 h2
    go_enter Try.func25, Try.ntmps25
    go_wp2
    refine bodyPost_ret (v := .tuple #[.int .u32 (W.no : Int), .bool true]) (by simp [results, Try.results25, go_sem]) rfl ?_
    exact ⟨rfl, H2.out, off2 _ _ _ _ _ _⟩
theorem xgot_any (w : World) (h : Xin w b W) : Calls Try.prog 26 #[.pointer (some ⟨b, 0, none⟩)] w (Xleaves b (gotW W) (.bool (gotB W)) w) := by
  have H := Lib.hid h
  have x2 := h.c2
  have x3 := h.c3
  have x5 := h.c5
  by_cases hb : gotB W = true
  · have hi : 0 < W.inn := by simp [gotB] at hb; omega
    have hk : W.known = true := by simp [gotB] at hb; exact hb.2
    have hW : gotW W = { W with inn := W.inn - 1, ni := (W.ni + 1) % 4294967296 } := by unfold gotW; rw [if_pos hb]
    rw [hW, hb]
    rw [hk] at x3
    obtain ⟨p, hp⟩ : ∃ p, (W.ni + 1) % 4294967296 = p := ⟨_, rfl⟩
    obtain ⟨q, hq⟩ : ∃ q, W.inn - 1 = q := ⟨_, rfl⟩
    have h1 := h.setInn q (by have := h.ok.inn; omega)
    have h2 := h1.setNi p (by omega)
    have d : ((W.inn : Int) == 0) = false := by simp; omega
    have eq1 : ((W.inn : Int) - 1) % 4294967296 = (q : Int) := by have := h.ok.inn; have := h.ok.m2; omega
    have ep : ((W.ni : Int) + 1) % 4294967296 = (p : Int) := by omega
    rw [hp, hq]
    have f5 := h.frz 5
    have y2 := h1.c2
    have g2 := h1.frz 2
    have H2 := Lib.hid h2
    clear h hW hb hi hk hp hq h1 h2
    go_enter Try.func26, Try.ntmps26
    go_wp2
    go_ret
    exact ⟨rfl, H2.out, off2 _ _ _ _ _ _⟩
  · have hb' : gotB W = false := by simpa using hb
    have hW : gotW W = W := by unfold gotW; rw [if_neg hb]
    rw [hW, hb']
    by_cases hi : W.inn = 0
    · rw [hi] at x5
      clear h hW hb hb' hi
      go_enter Try.func26, Try.ntmps26
      go_wp2
      go_ret
      exact ⟨rfl, H.out, Off.refl _ _⟩
    · have hk : W.known = false := by simp [gotB] at hb'; exact hb' (by omega)
      rw [hk] at x3
      have d : ((W.inn : Int) == 0) = false := by simp; omega
      clear h hW hb hb' hi hk
      go_enter Try.func26, Try.ntmps26
      go_wp2
      go_ret
      exact ⟨rfl, H.out, Off.refl _ _⟩
theorem xneed_any (w : World) (h : Xin w b W) : Calls Try.prog 28 #[.pointer (some ⟨b, 0, none⟩)] w (Xleaves b W (.bool (needB W)) w) := by
  have H := Lib.hid h
  have x0 := h.c0
  have x5 := h.c5
  have hv : needB W = decide ((W.inn : Int) ≤ (W.most : Int) / 2 % 4294967296) := by have := h.ok.m2; unfold needB; congr 1; apply propext; omega
  obtain ⟨v, hd⟩ : ∃ v, decide ((W.inn : Int) ≤ (W.most : Int) / 2 % 4294967296) = v := ⟨_, rfl⟩
  have em : (W.most : Int).tdiv 2 = (W.most : Int) / 2 := Int.tdiv_eq_ediv_of_nonneg (by omega)
  rw [hv, hd]
  clear h hv
  go_enter Try.func28, Try.ntmps28
  go_wp2_with fail
  go_quiet (fail)
  go_wp2
  go_ret
  exact ⟨rfl, H.out.call (bdn (Below.refl _ _) _), Off.of _ (bdn (Below.refl _ _) _)⟩
theorem xgrant_any (w : World) (h : Xin w b W) : Calls Try.prog 29 #[.pointer (some ⟨b, 0, none⟩)] w (Xleaves b (grantW W) (.tuple #[.int .u32 (W.ni : Int), .int .u32 (W.most : Int), .int .u32 (W.no : Int)]) w) := by
  have x0 := h.c0
  have x5 := h.c5
  have f5 := h.frz 5
  have h1 := h.setInn W.most (Nat.le_refl _)
  have y1 : (w.setCell ⟨b, 5, none⟩ (.int .u32 (W.most : Int))).cell? ⟨b, 1, none⟩ = _ := h1.c1
  have y2 : (w.setCell ⟨b, 5, none⟩ (.int .u32 (W.most : Int))).cell? ⟨b, 2, none⟩ = _ := h1.c2
  have y5 : (w.setCell ⟨b, 5, none⟩ (.int .u32 (W.most : Int))).cell? ⟨b, 5, none⟩ = some (.int .u32 (W.most : Int)) := h1.c5
  have H1 := Lib.hid h1
  clear h h1
  go_enter Try.func29, Try.ntmps29
  go_wp2_with fail
  go_quiet (fail)
  go_wp2
  refine bodyPost_ret (v := .tuple #[.int .u32 (W.ni : Int), .int .u32 (W.most : Int), .int .u32 (W.no : Int)]) (by simp [results, Try.results29, go_sem]) rfl ?_
  exact ⟨rfl, H1.out.call (bdn (Below.refl _ _) _), (set1 _ _ _ _).drewN _⟩
theorem xleft_any (w : World) (h : Xin w b W) : Calls Try.prog 15 #[.pointer (some ⟨b, 0, none⟩)] w fun e w' => e = .returned (.tuple #[.int .u32 (W.out : Int), .int .u32 (W.inn : Int)]) ∧ Below w.heap.size w w' := by
  have x4 := h.c4
  have x5 := h.c5
  clear h
  go_enter Try.func15, Try.ntmps15
  go_wp2_with fail
  go_quiet (fail)
  go_wp2
  refine bodyPost_ret (v := .tuple #[.int .u32 (W.out : Int), .int .u32 (W.inn : Int)]) (by simp [results, Try.results15, go_sem]) rfl ?_
  exact ⟨rfl, bdn (Below.refl _ _) _⟩
theorem xlx (N : Int) (i no : Nat) (hno : no < 4294967296) : ∃ x : Nat, x < 4294967296 ∧ leftN N i no = (if x < 2147483648 then min x 256 else 0) ∧ ((if N < 0 then 0 else N) + (i : Int) - (no : Int)) % 4294967296 = (x : Int) :=
  ⟨((max N 0).toNat + i + (4294967296 - no)) % 4294967296, Nat.mod_lt _ (by omega), rfl, by split <;> omega⟩
set_option maxHeartbeats 4000000 in
theorem xtold_any (N : Int) (i o : Nat) (w : World) (ho : o < 4294967296) (h : Xin w b W) : Calls Try.prog 27 #[.pointer (some ⟨b, 0, none⟩), .int .i64 N, .int .u32 (i : Int), .int .u32 (o : Int)] w (Xleaves b (toldW W N i o) (.tuple #[]) w) := by
  obtain ⟨x, hxl, hl, e⟩ := xlx N i W.no h.ok.no
  obtain ⟨T, hT⟩ : ∃ T : Int, (if N < 0 then 0 else N) = T := ⟨_, rfl⟩
  rw [hT] at e
  have x1 := h.c1
  have x4 := h.c4
  have f4 := h.frz 4
  have x2 := h.c2
  have x3 := h.c3
  have hv : toldW W N i o = { W with out := leftN N i W.no, ni := if W.known then W.ni else o, known := true } := rfl
  have ha := left_le N i W.no
  rw [hv]
  rw [hl] at ha ⊢
  clear hv hl
  obtain ⟨q, hq⟩ : ∃ q, (if x < 2147483648 then min x 256 else 0) = q := ⟨_, rfl⟩
  rw [hq] at ha ⊢
  have k1 := h.setOut q ha
  have y3 := k1.c3
  have y2 := k1.c2
  have g2 := k1.frz 2
  have k2 := k1.setNi o ho
  have z3 := k2.c3
  have r3 := k2.frz 3
  have K1 := Lib.hid k1
  have K3 := Lib.hid (k2.setKnown true)
  have O1 := Lib.hid (set1 w b 4 (.int .u32 (q : Int)))
  have O3 := Lib.hid (((set1 w b 4 (.int .u32 (q : Int))).trans (set1 _ b 2 (.int .u32 (o : Int)))).trans (set1 _ b 3 (.bool true)))
  obtain ⟨Q, hQ⟩ : ∃ Q : Int, (q : Int) = Q := ⟨_, rfl⟩
  rw [hQ] at y3 y2 g2 z3 r3 K1 K3 O1 O3
  have hcs : (decide (2147483648 ≤ (x : Int)) = true ∧ Q = 0) ∨ (decide (2147483648 ≤ (x : Int)) = false ∧ min (x : Int) 256 = (x : Int) ∧ Q = (x : Int) ∧ (x : Int) ≤ 256) ∨ (decide (2147483648 ≤ (x : Int)) = false ∧ min (x : Int) 256 = 256 ∧ Q = 256 ∧ (256 : Int) < (x : Int)) := by
    by_cases c1 : x < 2147483648
    · rw [if_pos c1] at hq
      by_cases c2 : x ≤ 256
      · exact Or.inr (Or.inl ⟨by simp; omega, by omega, by omega, by omega⟩)
      · exact Or.inr (Or.inr ⟨by simp; omega, by omega, by omega, by omega⟩)
    · rw [if_neg c1] at hq
      exact Or.inl ⟨by simp; omega, by omega⟩
  clear h k1 k2 hq ha hQ
  cases hk : W.known with
  | false =>
    rw [hk] at x3 y3 z3
    rw [if_neg (by simp)]
    clear hk
    rcases hcs with ⟨d2, rfl⟩ | ⟨d2, d3, rfl, _⟩ | ⟨d2, d3, rfl, _⟩
    all_goals
      go_enter Try.func27, Try.ntmps27
      go_wp2
      go_end0
      exact ⟨rfl, K3.out, O3.out⟩
  | true =>
    rw [hk] at x3 y3 z3 K1
    rw [if_pos rfl]
    clear hk
    rcases hcs with ⟨d2, rfl⟩ | ⟨d2, d3, rfl, _⟩ | ⟨d2, d3, rfl, _⟩
    all_goals
      go_enter Try.func27, Try.ntmps27
      go_wp2
      go_end0
      exact ⟨rfl, K1.out, O1.out⟩
end
end Go.Proofs.Ytppcfkcnaaflgaa.Wn
