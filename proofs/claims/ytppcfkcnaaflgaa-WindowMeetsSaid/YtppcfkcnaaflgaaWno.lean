/-
  Package window: a window in memory (the program's, and the document's); contracts of serial's Add and Span, and of New, Begun, Sent, Got, Told, Need, Grant, Left, the program's. Memory that was there stays, but for the window's own block. Conditions: numbers of 32 bits are such.
-/
import Derived.Test.YtppcfkcnaaflgaaEq
import Derived.Test.YtppcfkcnaaflgaaObx
import Derived.Test.YtppcfkcnaaflgaaWnq
import Derived.BigQuiet
import Derived.Deep.RegionWith
import Derived.Deep.RegionHeld3
import Derived.Deep.DeepCutAuto
import Derived.Deep.QuietTactic
namespace Go.Proofs.Ytppcfkcnaaflgaa.Wn
set_option maxRecDepth 100000
open Go.RowKit Go.Proofs.Ytppcfkcnaaflgaa.Utf Go.Proofs.Ytppcfkcnaaflgaa.Ob

theorem ret_u32 {a b : Int} (h : a = b) : Ending.returned (.int .u32 a) = .returned (.int .u32 b) := by rw [h]
/-- A window in memory, the program's. -/
structure Win (w : World) (b : Nat) (W : Wn) : Prop where
  obj : w.heap[b]? = some (.cells #[.int .u32 (W.no : Int), .int .u32 (W.ni : Int), .bool W.known, .int .u32 (W.out : Int), .int .u32 (W.inn : Int), .int .u32 (W.most : Int)] 58 (0, 0))
  ok : Ok W
section
variable {w w' : World} {b : Nat} {W : Wn} {X : Nat → Prop}
theorem Win.lt (h : Win w b W) : b < w.heap.size := (Array.getElem?_eq_some_iff.1 h.obj).1
theorem Win.off (h : Win w b W) (ho : Off X w w') (hx : ¬ X b) : Win w' b W := ⟨(ho.block b h.lt hx).trans h.obj, h.ok⟩
theorem Win.call (h : Win w b W) (hb : Below w.heap.size w w') : Win w' b W := h.off (X := fun _ => False) (Off.of _ hb) id
theorem Win.c0 (h : Win w b W) : w.cell? ⟨b, 0, none⟩ = some (.int .u32 (W.no : Int)) := cell_of_row _ _ 0 _ _ _ h.obj
theorem Win.c1 (h : Win w b W) : w.cell? ⟨b, 1, none⟩ = some (.int .u32 (W.ni : Int)) := cell_of_row _ _ 1 _ _ _ h.obj
theorem Win.c2 (h : Win w b W) : w.cell? ⟨b, 2, none⟩ = some (.bool W.known) := cell_of_row _ _ 2 _ _ _ h.obj
theorem Win.c3 (h : Win w b W) : w.cell? ⟨b, 3, none⟩ = some (.int .u32 (W.out : Int)) := cell_of_row _ _ 3 _ _ _ h.obj
theorem Win.c4 (h : Win w b W) : w.cell? ⟨b, 4, none⟩ = some (.int .u32 (W.inn : Int)) := cell_of_row _ _ 4 _ _ _ h.obj
theorem Win.c5 (h : Win w b W) : w.cell? ⟨b, 5, none⟩ = some (.int .u32 (W.most : Int)) := cell_of_row _ _ 5 _ _ _ h.obj
theorem Win.frz (h : Win w b W) (j : Nat) : w.frozen? ⟨b, j, none⟩ = false := frz_of j h.obj
theorem Win.setNo (h : Win w b W) (m : Nat) (hm : m < 4294967296) : Win (w.setCell ⟨b, 0, none⟩ (.int .u32 (m : Int))) b { W with no := m } := ⟨by simp [World.setCell, Array.getElem?_modify, h.obj], ⟨h.ok.m1, h.ok.m2, hm, h.ok.ni, h.ok.out, h.ok.inn⟩⟩
theorem Win.setNi (h : Win w b W) (m : Nat) (hm : m < 4294967296) : Win (w.setCell ⟨b, 1, none⟩ (.int .u32 (m : Int))) b { W with ni := m } := ⟨by simp [World.setCell, Array.getElem?_modify, h.obj], ⟨h.ok.m1, h.ok.m2, h.ok.no, hm, h.ok.out, h.ok.inn⟩⟩
theorem Win.setKnown (h : Win w b W) (k : Bool) : Win (w.setCell ⟨b, 2, none⟩ (.bool k)) b { W with known := k } := ⟨by simp [World.setCell, Array.getElem?_modify, h.obj], ⟨h.ok.m1, h.ok.m2, h.ok.no, h.ok.ni, h.ok.out, h.ok.inn⟩⟩
theorem Win.setOut (h : Win w b W) (m : Nat) (hm : m ≤ 256) : Win (w.setCell ⟨b, 3, none⟩ (.int .u32 (m : Int))) b { W with out := m } := ⟨by simp [World.setCell, Array.getElem?_modify, h.obj], ⟨h.ok.m1, h.ok.m2, h.ok.no, h.ok.ni, hm, h.ok.inn⟩⟩
theorem Win.setInn (h : Win w b W) (m : Nat) (hm : m ≤ W.most) : Win (w.setCell ⟨b, 4, none⟩ (.int .u32 (m : Int))) b { W with inn := m } := ⟨by simp [World.setCell, Array.getElem?_modify, h.obj], ⟨h.ok.m1, h.ok.m2, h.ok.no, h.ok.ni, h.ok.out, hm⟩⟩
end
section
/-- Steps from one number on. -/
theorem ser_add_any (a : Int) (n : Int) (w : World) : Calls Try.prog 31 #[.int .u32 a, .int .i64 n] w fun e w' => e = .returned (.int .u32 ((a + n) % 4294967296)) ∧ w = w' := by
  go_enter Try.func31, Try.ntmps31
  go_wp2
  go_ret
  exact ⟨ret_u32 (by simp), rfl⟩
theorem ser_steps_any (a b : Int) (w : World) : Calls Try.prog 34 #[.int .u32 a, .int .u32 b] w fun e w' => e = .returned (.int .u32 ((b - a) % 4294967296)) ∧ w = w' := by
  go_enter Try.func34, Try.ntmps34
  go_wp2
  go_ret
  exact ⟨rfl, rfl⟩
def spanV (x : Int) : Value := if x < 2147483648 then .tuple #[.int .i64 (x + 1), .bool true] else .tuple #[.int .i64 0, .bool false]
theorem ser_span_any (a b x : Int) (w : World) (hx : (b - a) % 4294967296 = x) : Calls Try.prog 33 #[.int .u32 a, .int .u32 b] w fun e w' => e = .returned (spanV x) ∧ w = w' := by
  have h1 : 0 ≤ x := by omega
  have h2 : x < 4294967296 := by omega
  by_cases h : x < 2147483648
  · have hv : spanV x = .tuple #[.int .i64 (x + 1), .bool true] := by simp [spanV, h]
    rw [hv]
    go_enter Try.func33, Try.ntmps33
    go_wp2_with (go_at_call 34; refine (ser_steps_any a b _).mono ?_; rw [hx]; rintro e w' ⟨rfl, rfl⟩)
    refine bodyPost_ret (v := .tuple #[.int .i64 (x + 1), .bool true]) (by simp [results, Try.results33, go_sem]) rfl ?_
    exact ⟨rfl, rfl⟩
  · have hv : spanV x = .tuple #[.int .i64 0, .bool false] := by simp [spanV, h]
    rw [hv]
    go_enter Try.func33, Try.ntmps33
    go_wp2_with (go_at_call 34; refine (ser_steps_any a b _).mono ?_; rw [hx]; rintro e w' ⟨rfl, rfl⟩)
    refine bodyPost_ret (v := .tuple #[.int .i64 0, .bool false]) (by simp [results, Try.results33, go_sem]) rfl ?_
    exact ⟨rfl, rfl⟩
theorem wmost_any (n : Nat) (w : World) (hn : n < 4294967296) : Calls Try.prog 23 #[.int .u32 (n : Int)] w fun e w' => e = .returned (.int .u32 ((min n 256 : Nat) : Int)) ∧ w = w' := by
  by_cases h : n ≤ 256
  · have d : min (n : Int) 256 = (n : Int) := by omega
    have e : min n 256 = n := by omega
    rw [e]
    clear e
    go_enter Try.func23, Try.ntmps23
    go_wp2
    go_ret
    exact ⟨rfl, rfl⟩
  · have d : min (n : Int) 256 = 256 := by omega
    have e : min n 256 = 256 := by omega
    rw [e]
    clear e
    go_enter Try.func23, Try.ntmps23
    go_wp2
    go_ret
    exact ⟨rfl, rfl⟩
theorem wmost_1 (w : World) : Calls Try.prog 23 #[.int .u32 1] w fun e w' => e = .returned (.int .u32 1) ∧ w = w' := wmost_any 1 w (by omega)
/-- A new window. -/
def GivesNew (W : Wn) (w : World) (e : Ending) (w' : World) : Prop := ∃ b, e = .returned (.pointer (some ⟨b, 0, none⟩)) ∧ Win w' b W ∧ w.heap.size ≤ b ∧ Below w.heap.size w w'
theorem wnew_any (g : Nat) (w : World) (hg : g < 4294967296) : Calls Try.prog 10 #[.int .u32 (g : Int)] w (GivesNew (newW g) w) := by
  by_cases hz : g = 0
  · subst hz
    have HM := Lib.hid (fun wx => wmost_1 wx)
    have OK := Lib.hid (Ok.new 0)
    have hv : newW 0 = ⟨1, 0, 0, false, 0, 1⟩ := rfl
    rw [hv] at OK ⊢
    clear hv hg
    go_enter Try.func10, Try.ntmps10
    go_wp2_with (first
      | (go_at_call 23; (with_reducible refine (HM.out _).mono ?_); rintro e w1 ⟨rfl, rfl⟩)
      | fail)
    go_ret
    exact ⟨_, rfl, ⟨heap_alloc_new _ _, OK.out⟩, Nat.le_refl _, ba (Below.refl _ _) _⟩
  · obtain ⟨q, hq⟩ : ∃ q : Nat, min g 256 = q := ⟨_, rfl⟩
    have HM := Lib.hid (fun wx => wmost_any g wx hg)
    rw [hq] at HM
    have hv : newW g = ⟨q, 0, 0, false, 0, q⟩ := by unfold newW; congr 1 <;> omega
    rw [hv]
    have OK := Lib.hid (hv ▸ Ok.new g)
    have hl : decide ((g : Int) < 1) = false := by simp; omega
    clear hv hq
    go_enter Try.func10, Try.ntmps10
    go_wp2_with (first
      | (go_at_call 23; (with_reducible refine (HM.out _).mono ?_); rintro e w1 ⟨rfl, rfl⟩)
      | fail)
    go_ret
    exact ⟨_, rfl, ⟨heap_alloc_new _ _, OK.out⟩, Nat.le_refl _, ba (Below.refl _ _) _⟩
end
section
variable {w w' : World} {b : Nat} {W : Wn}
/-- What a call leaves: the window so, memory beside it as it was. -/
def Leaves (b : Nat) (W : Wn) (v : Value) (w : World) (e : Ending) (w' : World) : Prop := e = .returned v ∧ Win w' b W ∧ Off (fun i => i = b) w w'
theorem off2 (w : World) (b j k : Nat) (u v : Value) : Off (fun i => i = b) w ((w.setCell ⟨b, j, none⟩ u).setCell ⟨b, k, none⟩ v) := (Off.set (X := fun i => i = b) (g := b) w j u rfl).trans (Off.set (X := fun i => i = b) (g := b) _ k v rfl)
theorem know_any (n : Nat) (w : World) (hn : n < 4294967296) (h : Win w b W) : Calls Try.prog 30 #[.pointer (some ⟨b, 0, none⟩), .int .u32 (n : Int)] w (Leaves b { W with ni := n, known := true } (.tuple #[]) w) := by
  have H := Lib.hid h
  have x1 := h.c1
  have x2 := h.c2
  have f1 := h.frz 1
  have f2 := (h.setNi n hn).frz 2
  have y2 := (h.setNi n hn).c2
  clear h
  go_enter Try.func30, Try.ntmps30
  go_wp2
  go_end0
  exact ⟨rfl, (H.out.setNi n hn).setKnown true, off2 _ _ _ _ _ _⟩
theorem begun_any (n i : Nat) (w : World) (hn : n < 4294967296) (hi : i < 4294967296) (h : Win w b W) : Calls Try.prog 16 #[.pointer (some ⟨b, 0, none⟩), .int .u32 (n : Int), .int .u32 (i : Int)] w (Leaves b (begW W n i) (.tuple #[]) w) := by
  have H := Lib.hid h
  have HM := Lib.hid (fun wx => wmost_any i wx hi)
  clear h
  go_enter Try.func16, Try.ntmps16
  go_wp2_with (first
    | (go_at_call 30; (with_reducible refine (know_any n _ hn H.out).mono ?_); rintro e w1 ⟨rfl, h1, o1⟩; have x3 := h1.c3; have f3 := h1.frz 3)
    | (go_at_call 23; (with_reducible refine (HM.out _).mono ?_); rintro e w2 ⟨rfl, rfl⟩)
    | fail)
  go_end0
  exact ⟨rfl, h1.setOut _ (by omega), o1.trans (Off.set _ _ _ rfl)⟩
theorem sent_any (w : World) (h : Win w b W) : Calls Try.prog 17 #[.pointer (some ⟨b, 0, none⟩)] w (Leaves b (sentW W) (.tuple #[.int .u32 (sentN W : Int), .bool (sentB W)]) w) := by
  have H := Lib.hid h
  have x0 := h.c0
  have x3 := h.c3
  by_cases ho : W.out = 0
  · have hW : sentW W = W := by unfold sentW; rw [if_neg (by omega)]
    have hN : sentN W = 0 := by unfold sentN; rw [if_neg (by omega)]
    have hB : sentB W = false := by simp [sentB, ho]
    rw [hW, hN, hB]
    rw [ho] at x3
    clear h hW hN hB ho
    go_enter Try.func17, Try.ntmps17
    go_wp2
    refine bodyPost_ret (v := .tuple #[.int .u32 0, .bool false]) (by simp [results, Try.results17, go_sem]) rfl ?_
    exact ⟨rfl, H.out, Off.refl _ _⟩
  · have hW : sentW W = { W with out := W.out - 1, no := (W.no + 1) % 4294967296 } := by unfold sentW; rw [if_pos (by omega)]
    have hN : sentN W = W.no := by unfold sentN; rw [if_pos (by omega)]
    have hB : sentB W = true := by simp [sentB]; omega
    rw [hW, hN, hB]
    obtain ⟨p, hp⟩ : ∃ p, (W.no + 1) % 4294967296 = p := ⟨_, rfl⟩
    obtain ⟨q, hq⟩ : ∃ q, W.out - 1 = q := ⟨_, rfl⟩
    have h1 := h.setNo p (by omega)
    have h2 := h1.setOut q (by have := h.ok.out; omega)
    have d : ((W.out : Int) == 0) = false := by simp; omega
    have eq1 : ((W.out : Int) - 1) % 4294967296 = (q : Int) := by have := h.ok.out; omega
    have HA := Lib.hid (fun wx => ser_add_any (W.no : Int) 1 wx)
    have ep : ((W.no : Int) + 1) % 4294967296 = (p : Int) := by omega
    rw [ep] at HA
    rw [hp, hq]
    have f0 := h.frz 0
    have y3 := h1.c3
    have g3 := h1.frz 3
    have H2 := Lib.hid h2
    clear h hW hN hB ho hp hq h1 h2 ep
    go_enter Try.func17, Try.ntmps17
    go_wp2_with (first
      | (go_at_call 31; (with_reducible refine (HA.out _).mono ?_); rintro e w1 ⟨rfl, rfl⟩)
      | fail)
    refine bodyPost_ret (v := .tuple #[.int .u32 (W.no : Int), .bool true]) (by simp [results, Try.results17, go_sem]) rfl ?_
    exact ⟨rfl, H2.out, off2 _ _ _ _ _ _⟩
end
end Go.Proofs.Ytppcfkcnaaflgaa.Wn
