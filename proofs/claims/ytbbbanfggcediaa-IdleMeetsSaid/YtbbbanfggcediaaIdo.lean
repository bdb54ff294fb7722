/-
  Package idle: what a wait, and what two waits, are in memory; contracts of length, half, moment, end, over, Got, Sent, Due, Late. No other condition.
-/
import Derived.Test.YtbbbanfggcediaaEq
import Derived.Test.YtbbbanfggcediaaObx
import Derived.BigQuiet
import Derived.Deep.RegionWith
import Derived.Deep.RegionHeld3
import Derived.Deep.DeepCutAuto
import Derived.Deep.QuietTactic
namespace Go.Proofs.Ytbbbanfggcediaa.Id
set_option maxRecDepth 100000
open Go.RowKit Go.Proofs.Ytbbbanfggcediaa.Utf Go.Proofs.Ytbbbanfggcediaa.Ob

def lenN (n : Nat) : Nat := min n 1048576
def halfN (n : Nat) : Nat := if n = 1 then 1 else n / 2
def momI (g s n : Int) : Int := max (max g s) (min n 2305843009213693952)
def overB (t l n : Int) : Bool := !(t == 0) && decide (l + t ≤ n)

theorem ret_i64 {a b : Int} (h : a = b) : Ending.returned (.int .i64 a) = .returned (.int .i64 b) := by rw [h]
theorem len_any (n : Nat) (w : World) (hn : n < 4294967296) : Calls Try.prog 16 #[.int .u32 (n : Int)] w fun e w' => e = .returned (.int .i64 ((lenN n : Nat) : Int)) ∧ w = w' := by
  by_cases h : n ≤ 1048576
  · have d : min (n : Int) 1048576 = (n : Int) := by omega
    have e : lenN n = n := by unfold lenN; omega
    rw [e]
    clear e
    go_enter Try.func16, Try.ntmps16
    go_wp2
    go_ret
    exact ⟨rfl, rfl⟩
  · have d : min (n : Int) 1048576 = 1048576 := by omega
    have e : lenN n = 1048576 := by unfold lenN; omega
    rw [e]
    clear e
    go_enter Try.func16, Try.ntmps16
    go_wp2
    go_ret
    exact ⟨rfl, rfl⟩
theorem half_any (n : Nat) (w : World) (hn : n ≤ 1048576) : Calls Try.prog 17 #[.int .i64 (n : Int)] w fun e w' => e = .returned (.int .i64 ((halfN n : Nat) : Int)) ∧ w = w' := by
  by_cases h : n = 1
  · subst h
    go_enter Try.func17, Try.ntmps17
    go_wp2
    go_ret
    exact ⟨rfl, rfl⟩
  · have d : ((n : Int) == 1) = false := by simp; omega
    have e : ((halfN n : Nat) : Int) = (n : Int) / 2 := by unfold halfN; rw [if_neg h]; omega
    rw [e]
    clear e h
    go_enter Try.func17, Try.ntmps17
    go_wp2
    go_ret
    exact ⟨rfl, rfl⟩
/-- Two waits in memory, at block b: own's ticks and last moment, peer's likewise. -/
structure Idl (w : World) (b : Nat) (o g p s : Int) : Prop where
  obj : w.heap[b]? = some (.cells #[.int .i64 o, .int .i64 g, .int .i64 p, .int .i64 s] 47 (0, 0))
  ho : 0 ≤ o ∧ o ≤ 1048576
  hg : 0 ≤ g ∧ g ≤ 2305843009213693952
  hp : 0 ≤ p ∧ p ≤ 1048576
  hs : 0 ≤ s ∧ s ≤ 2305843009213693952
section
variable {w w' : World} {b : Nat} {o g p s : Int} {X : Nat → Prop}
theorem Idl.lt (h : Idl w b o g p s) : b < w.heap.size := (Array.getElem?_eq_some_iff.1 h.obj).1
theorem Idl.off (h : Idl w b o g p s) (ho : Off X w w') (hx : ¬ X b) : Idl w' b o g p s := ⟨(ho.block b h.lt hx).trans h.obj, h.ho, h.hg, h.hp, h.hs⟩
theorem Idl.call (h : Idl w b o g p s) (hb : Below w.heap.size w w') : Idl w' b o g p s := h.off (X := fun _ => False) (Off.of _ hb) id
theorem Idl.c0 (h : Idl w b o g p s) : w.cell? ⟨b, 0, none⟩ = some (.int .i64 o) := cell_of_row _ _ 0 _ _ _ h.obj
theorem Idl.c1 (h : Idl w b o g p s) : w.cell? ⟨b, 1, none⟩ = some (.int .i64 g) := cell_of_row _ _ 1 _ _ _ h.obj
theorem Idl.c2 (h : Idl w b o g p s) : w.cell? ⟨b, 2, none⟩ = some (.int .i64 p) := cell_of_row _ _ 2 _ _ _ h.obj
theorem Idl.c3 (h : Idl w b o g p s) : w.cell? ⟨b, 3, none⟩ = some (.int .i64 s) := cell_of_row _ _ 3 _ _ _ h.obj
theorem Idl.frz (h : Idl w b o g p s) (j : Nat) : w.frozen? ⟨b, j, none⟩ = false := frz_of j h.obj
theorem Idl.setG (h : Idl w b o g p s) (m : Int) (hm : 0 ≤ m ∧ m ≤ 2305843009213693952) : Idl (w.setCell ⟨b, 1, none⟩ (.int .i64 m)) b o m p s := ⟨by simp [World.setCell, Array.getElem?_modify, h.obj], h.ho, hm, h.hp, h.hs⟩
theorem Idl.setS (h : Idl w b o g p s) (m : Int) (hm : 0 ≤ m ∧ m ≤ 2305843009213693952) : Idl (w.setCell ⟨b, 3, none⟩ (.int .i64 m)) b o g p m := ⟨by simp [World.setCell, Array.getElem?_modify, h.obj], h.ho, h.hg, h.hp, hm⟩
theorem mom_in (g s n : Int) (hg : 0 ≤ g ∧ g ≤ 2305843009213693952) (hs : 0 ≤ s ∧ s ≤ 2305843009213693952) : 0 ≤ momI g s n ∧ momI g s n ≤ 2305843009213693952 := by unfold momI; omega
theorem mom_any (n : Int) (w : World) (h : Idl w b o g p s) : Calls Try.prog 19 #[.pointer (some ⟨b, 0, none⟩), .int .i64 n] w fun e w' => e = .returned (.int .i64 (momI g s n)) ∧ Below w.heap.size w w' := by
  have x1 := h.c1
  have x3 := h.c3
  clear h
  go_enter Try.func19, Try.ntmps19
  go_wp2_with fail
  go_quiet (fail)
  all_goals go_wp2
  all_goals
    go_ret
    refine ⟨ret_i64 ?_, bdn (Below.refl _ _) _⟩
    unfold momI
    omega
/-- What Got, and Sent, leave. -/
def GivesAt (b : Nat) (o g p s : Int) (w : World) (e : Ending) (w' : World) : Prop := e = .returned (.tuple #[]) ∧ Idl w' b o g p s ∧ Off (fun i => i = b) w w'
theorem got_any (n : Int) (w : World) (h : Idl w b o g p s) : Calls Try.prog 11 #[.pointer (some ⟨b, 0, none⟩), .int .i64 n] w (GivesAt b o (momI g s n) p s w) := by
  have H := Lib.hid h
  clear h
  go_enter Try.func11, Try.ntmps11
  go_wp2_with (first
    | (go_at_call 19; (with_reducible refine (mom_any n _ H.out).mono ?_); rintro e w1 ⟨rfl, hb1⟩; have hf := (H.out.call hb1).frz 1; have y1 := (H.out.call hb1).c1)
    | fail)
  go_end0
  exact ⟨rfl, (H.out.call hb1).setG _ (mom_in _ _ _ H.out.hg H.out.hs), (Off.of _ hb1).trans (Off.set _ _ _ rfl)⟩
theorem sent_any (n : Int) (w : World) (h : Idl w b o g p s) : Calls Try.prog 10 #[.pointer (some ⟨b, 0, none⟩), .int .i64 n] w (GivesAt b o g p (momI g s n) w) := by
  have H := Lib.hid h
  clear h
  go_enter Try.func10, Try.ntmps10
  go_wp2_with (first
    | (go_at_call 19; (with_reducible refine (mom_any n _ H.out).mono ?_); rintro e w1 ⟨rfl, hb1⟩; have hf := (H.out.call hb1).frz 3; have y1 := (H.out.call hb1).c3)
    | fail)
  go_end0
  exact ⟨rfl, (H.out.call hb1).setS _ (mom_in _ _ _ H.out.hg H.out.hs), (Off.of _ hb1).trans (Off.set _ _ _ rfl)⟩
end
theorem nil_got (n : Int) (w : World) : Calls Try.prog 11 #[.pointer none, .int .i64 n] w fun e w' => e = .returned (.tuple #[]) ∧ w = w' := by
  go_enter Try.func11, Try.ntmps11
  go_wp2
  go_end0
  exact ⟨rfl, rfl⟩
theorem nil_sent (n : Int) (w : World) : Calls Try.prog 10 #[.pointer none, .int .i64 n] w fun e w' => e = .returned (.tuple #[]) ∧ w = w' := by
  go_enter Try.func10, Try.ntmps10
  go_wp2
  go_end0
  exact ⟨rfl, rfl⟩
def endI (t l : Int) : Value := .tuple #[.int .i64 (if t = 0 then 0 else l + t), .bool (!(t == 0))]
theorem end_any (t l : Int) (w : World) (ht : 0 ≤ t ∧ t ≤ 1048576) (hl : 0 ≤ l ∧ l ≤ 2305843009213693952) : Calls Try.prog 21 #[.agg #[.int .i64 t, .int .i64 l]] w fun e w' => e = .returned (endI t l) ∧ Below w.heap.size w w' := by
  by_cases h : t = 0
  · subst h
    clear ht
    go_enter Try.func21, Try.ntmps21
    go_wp2
    refine bodyPost_ret (v := .tuple #[.int .i64 0, .bool false]) (by simp [results, Try.results21, go_sem]) rfl ?_
    exact ⟨rfl, ba (Below.refl _ _) _⟩
  · have d : (t == 0) = false := by simpa using h
    have e : endI t l = .tuple #[.int .i64 (l + t), .bool true] := by simp [endI, h, d]
    rw [e]
    clear e h
    go_enter Try.func21, Try.ntmps21
    go_wp2
    refine bodyPost_ret (v := .tuple #[.int .i64 (l + t), .bool true]) (by simp [results, Try.results21, go_sem]) rfl ?_
    exact ⟨rfl, ba (Below.refl _ _) _⟩
theorem over_any (t l n : Int) (w : World) (ht : 0 ≤ t ∧ t ≤ 1048576) (hl : 0 ≤ l ∧ l ≤ 2305843009213693952) : Calls Try.prog 18 #[.agg #[.int .i64 t, .int .i64 l], .int .i64 n] w fun e w' => e = .returned (.bool (overB t l n)) ∧ Below w.heap.size w w' := by
  have hE := fun wx => end_any t l wx ht hl
  by_cases h : t = 0
  · subst h
    have HE := Lib.hid hE
    have e1 : endI 0 l = .tuple #[.int .i64 0, .bool false] := rfl
    rw [e1] at HE
    have e2 : overB 0 l n = false := rfl
    rw [e2]
    clear hE ht hl e1 e2
    go_enter Try.func18, Try.ntmps18
    go_wp2_with (first
      | (go_at_call 21; (with_reducible refine (HE.out _).mono ?_); rintro e w1 ⟨rfl, hb1⟩)
      | fail)
    go_ret
    exact ⟨rfl, (ba (Below.refl _ _) _).trans (hb1.mono (by simp))⟩
  · have d : (t == 0) = false := by simpa using h
    have e1 : endI t l = .tuple #[.int .i64 (l + t), .bool true] := by simp [endI, h, d]
    have e2 : overB t l n = decide (l + t ≤ n) := by simp [overB, d]
    have HE := Lib.hid hE
    rw [e1] at HE
    rw [e2]
    clear hE ht hl e1 e2 h d
    obtain ⟨D, hD⟩ : ∃ D, decide (l + t ≤ n) = D := ⟨_, rfl⟩
    rw [hD]
    go_enter Try.func18, Try.ntmps18
    go_wp2_with (first
      | (go_at_call 21; (with_reducible refine (HE.out _).mono ?_); rintro e w1 ⟨rfl, hb1⟩)
      | fail)
    go_ret
    exact ⟨rfl, (ba (Below.refl _ _) _).trans (hb1.mono (by simp))⟩
section
variable {w w' : World} {b : Nat} {o g p s : Int}
theorem late_any (n : Int) (w : World) (h : Idl w b o g p s) : Calls Try.prog 12 #[.pointer (some ⟨b, 0, none⟩), .int .i64 n] w fun e w' => e = .returned (.bool (overB o g (momI g s n))) ∧ Below w.heap.size w w' := by
  have H := Lib.hid h
  have HM := Lib.hid (fun wx (hx : Below w.heap.size w wx) => mom_any n wx (h.call hx))
  have HO := Lib.hid (fun wx => over_any o g (momI g s n) wx h.ho h.hg)
  have x0 := h.c0
  have x1 := h.c1
  have hb0 : Below w.heap.size w w.drew := (Below.refl _ _).drew
  have z0 : w.drew.cell? ⟨b, 0, none⟩ = some (.int .i64 o) := x0
  have z1 : w.drew.cell? ⟨b, 1, none⟩ = some (.int .i64 g) := x1
  clear h
  go_enter Try.func12, Try.ntmps12
  go_wp2_with fail
  go_region_held3 (fun wx => wx.cell? ⟨b, 0, none⟩ = some (.int .i64 o) ∧ wx.cell? ⟨b, 1, none⟩ = some (.int .i64 g) ∧ Below w.heap.size w wx)
    (with_reducible first | assumption | exact ⟨z0, z1, hb0⟩ | exact ⟨(H.out.call hb1).c0, (H.out.call hb1).c1, hb1⟩ | exact ⟨(H.out.call hb2).c0, (H.out.call hb2).c1, hb2⟩ | fail)
    ((first
      | (go_at_call 19; (with_reducible refine (HM.out _ hb0).mono ?_); rintro e w1 ⟨rfl, hb1'⟩; have hb1 := bn hb0 hb1')
      | (go_at_call 18; (with_reducible refine (HO.out _).mono ?_); rintro e w2 ⟨rfl, hb2'⟩; have hb2 := bn hb1 hb2')
      | fail))
  all_goals go_wp2
  all_goals
    go_ret
    exact ⟨rfl, hb2⟩
theorem due_any (n : Int) (w : World) (h : Idl w b o g p s) : Calls Try.prog 9 #[.pointer (some ⟨b, 0, none⟩), .int .i64 n] w fun e w' => e = .returned (.bool (overB p s (momI g s n))) ∧ Below w.heap.size w w' := by
  have H := Lib.hid h
  have HM := Lib.hid (fun wx (hx : Below w.heap.size w wx) => mom_any n wx (h.call hx))
  have HO := Lib.hid (fun wx => over_any p s (momI g s n) wx h.hp h.hs)
  have x0 := h.c2
  have x1 := h.c3
  have hb0 : Below w.heap.size w w.drew := (Below.refl _ _).drew
  have z0 : w.drew.cell? ⟨b, 2, none⟩ = some (.int .i64 p) := x0
  have z1 : w.drew.cell? ⟨b, 3, none⟩ = some (.int .i64 s) := x1
  clear h
  go_enter Try.func9, Try.ntmps9
  go_wp2_with fail
  go_region_held3 (fun wx => wx.cell? ⟨b, 2, none⟩ = some (.int .i64 p) ∧ wx.cell? ⟨b, 3, none⟩ = some (.int .i64 s) ∧ Below w.heap.size w wx)
    (with_reducible first | assumption | exact ⟨z0, z1, hb0⟩ | exact ⟨(H.out.call hb1).c2, (H.out.call hb1).c3, hb1⟩ | exact ⟨(H.out.call hb2).c2, (H.out.call hb2).c3, hb2⟩ | fail)
    ((first
      | (go_at_call 19; (with_reducible refine (HM.out _ hb0).mono ?_); rintro e w1 ⟨rfl, hb1'⟩; have hb1 := bn hb0 hb1')
      | (go_at_call 18; (with_reducible refine (HO.out _).mono ?_); rintro e w2 ⟨rfl, hb2'⟩; have hb2 := bn hb1 hb2')
      | fail))
  all_goals go_wp2
  all_goals
    go_ret
    exact ⟨rfl, hb2⟩
end
theorem nil_late (n : Int) (w : World) : Calls Try.prog 12 #[.pointer none, .int .i64 n] w fun e w' => e = .returned (.bool false) ∧ Below w.heap.size w w' := by
  go_enter Try.func12, Try.ntmps12
  go_wp2_with fail
  go_quiet (fail)
  go_wp2
  go_ret
  exact ⟨rfl, bdn (Below.refl _ _) _⟩
theorem nil_due (n : Int) (w : World) : Calls Try.prog 9 #[.pointer none, .int .i64 n] w fun e w' => e = .returned (.bool false) ∧ Below w.heap.size w w' := by
  go_enter Try.func9, Try.ntmps9
  go_wp2_with fail
  go_quiet (fail)
  go_wp2
  go_ret
  exact ⟨rfl, bdn (Below.refl _ _) _⟩
end Go.Proofs.Ytbbbanfggcediaa.Id
