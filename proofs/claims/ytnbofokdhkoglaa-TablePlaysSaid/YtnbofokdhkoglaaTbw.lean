/-
  What the laws of table lean on: do, a step; works, the anchor, which answers true. Memory that was there stays, but for the table's own two blocks. No other condition.
-/
import Derived.Test.YtnbofokdhkoglaaTbc
namespace Go.Proofs.Ytnbofokdhkoglaa.Tb
set_option maxRecDepth 100000
open Go.RowKit Go.Proofs.Ytnbofokdhkoglaa.Utf

def DoV (L : List Bool) (k n : Int) : Value := .tuple #[.int .i64 (numT L k : Int), .bool (isT L k n)]
section
variable {p b : Nat} {L : List Bool}
theorem row_other {k : Int} (n : Int) (h0 : k ≠ 0) (h1 : k ≠ 1) (h2 : k ≠ 2) : rowT L k n = L ∧ DoV L k n = .tuple #[.int .i64 0, .bool true] := by
  simp [rowT, DoV, numT, isT, h0, h1, h2]
set_option maxHeartbeats 1000000 in
theorem do_any (k n : Int) (w : World) (t : Tin w p b L) (hn : (Lit.int .i64 n).wf = true) :
    Calls Try.prog 11 #[.pointer (some ⟨p, 0, none⟩), .agg #[.int .i64 k, .int .i64 n]] w (GivesRow p b (rowT L k n) (DoV L k n) w) := by
  have hb0 : Below w.heap.size w (w.alloc (.cells #[.int .i64 k, .int .i64 n] 34)) := ba (Below.refl _ _) _
  have HT := Lib.hid (t.call hb0)
  have HB := Lib.hid hb0
  by_cases h0 : k = 0
  · subst h0
    have HC := Lib.hid (hold_any n _ (t.call hb0) hn)
    have hv : DoV L 0 n = .tuple #[.int .i64 0, .bool (mayT L n)] := by simp [DoV, numT, isT]
    rw [hv]
    clear t hb0 hn hv
    go_enter Try.func11, Try.ntmps11
    go_wp2_with (first
      | (go_at_call 22; (with_reducible refine HC.out.mono ?_); rintro e w1 ⟨rfl, t1, o1⟩)
      | fail)
    refine bodyPost_ret (v := .tuple #[.int .i64 0, .bool (mayT L n)]) (by simp [results, Try.results11, go_sem]) rfl ?_
    exact ⟨rfl, t1, (Off.of _ HB.out).trans o1⟩
  have e0 : (k == 0) = false := by simpa using h0
  by_cases h1 : k = 1
  · subst h1
    have HC := Lib.hid (take_any _ (t.call hb0))
    have hr : rowT L 1 n = rowT L 1 0 := by simp [rowT]
    have hv : DoV L 1 n = TakeV L := by simp [DoV, TakeV, isT]
    rw [hv, hr]
    unfold TakeV at HC ⊢
    clear t hb0 hn hv hr h0
    go_enter Try.func11, Try.ntmps11
    go_wp2_with (first
      | (go_at_call 20; (with_reducible refine HC.out.mono ?_); rintro e w1 ⟨rfl, t1, o1⟩)
      | fail)
    refine bodyPost_ret (v := .tuple #[.int .i64 (numT L 1 : Int), .bool (isT L 1 0)]) (by simp [results, Try.results11, go_sem]) rfl ?_
    exact ⟨rfl, t1, (Off.of _ HB.out).trans o1⟩
  have e1 : (k == 1) = false := by simpa using h1
  by_cases h2 : k = 2
  · subst h2
    have HC := Lib.hid (free_any n _ (t.call hb0) hn)
    have hv : DoV L 2 n = .tuple #[.int .i64 0, .bool (hasT L n)] := by simp [DoV, numT, isT]
    rw [hv]
    clear t hb0 hn hv h0 h1
    go_enter Try.func11, Try.ntmps11
    go_wp2_with (first
      | (go_at_call 21; (with_reducible refine HC.out.mono ?_); rintro e w1 ⟨rfl, t1, o1⟩)
      | fail)
    refine bodyPost_ret (v := .tuple #[.int .i64 0, .bool (hasT L n)]) (by simp [results, Try.results11, go_sem]) rfl ?_
    exact ⟨rfl, t1, (Off.of _ HB.out).trans o1⟩
  have e2 : (k == 2) = false := by simpa using h2
  obtain ⟨hr, hv⟩ := row_other (L := L) n h0 h1 h2
  rw [hr, hv]
  clear t hb0 hn hv hr h0 h1 h2
  go_enter Try.func11, Try.ntmps11
  go_wp2
  refine bodyPost_ret (v := .tuple #[.int .i64 0, .bool true]) (by simp [results, Try.results11, go_sem]) rfl ?_
  exact ⟨rfl, HT.out, Off.of _ HB.out⟩
theorem take_at {L' : List Bool} {v : Value} (w : World) (t : Tin w p b L) (hr : rowT L 1 0 = L') (hv : TakeV L = v) : Calls Try.prog 20 #[.pointer (some ⟨p, 0, none⟩)] w (GivesRow p b L' v w) := by
  subst hr; subst hv; exact take_any w t
theorem one_wf : (Lit.int .i64 1).wf = true := rfl
theorem hold_1 {L' : List Bool} {c : Bool} (w : World) (t : Tin w p b L) (hr : rowT L 0 1 = L') (hv : mayT L 1 = c) : Calls Try.prog 22 #[.pointer (some ⟨p, 0, none⟩), .int .i64 1] w (GivesRow p b L' (.bool c) w) := by
  subst hr; subst hv; exact hold_any 1 w t one_wf
theorem free_1 {L' : List Bool} {c : Bool} (w : World) (t : Tin w p b L) (hr : rowT L 2 1 = L') (hv : hasT L 1 = c) : Calls Try.prog 21 #[.pointer (some ⟨p, 0, none⟩), .int .i64 1] w (GivesRow p b L' (.bool c) w) := by
  subst hr; subst hv; exact free_any 1 w t one_wf
end
theorem new_2 (w : World) : Calls Try.prog 9 #[.int .i64 2] w (GivesNew 2 w) := new_yes 2 w (by omega)
/-- Memory that was there stays, whatever is done with a table that is new. -/
theorem new_off {w0 w w' : World} {p b : Nat} (hb : Below w0.heap.size w0 w) (hp : w0.heap.size ≤ p) (hq : w0.heap.size ≤ b) (ho : Off (Xp p b) w w') : Below w0.heap.size w0 w' :=
  hb.trans (ho.below hb.size fun i hi hx => by rcases hx with rfl | rfl <;> omega)
set_option maxHeartbeats 2000000 in
theorem works13_any (w : World) : Calls Try.prog 8 #[] w fun e w' => e = .returned (.bool true) ∧ Below w.heap.size w w' := by
  go_enter Try.func8, Try.ntmps8
  go_wp2_with (first
    | (go_at_call 9; (with_reducible refine (new_2 _).mono ?_); rintro e w1 ⟨p, b, rfl, t1, hp, hq, hb1⟩)
    | (go_at_call 20; (with_reducible refine (take_at (L := noneT 2) (L' := [true, false, false]) (v := .tuple #[.int .i64 0, .bool true]) _ t1 rfl rfl).mono ?_); rintro e w2 ⟨rfl, t2, o2⟩)
    | (go_at_call 22; (with_reducible refine (hold_1 (L' := [true, true, false]) (c := true) _ t2 rfl rfl).mono ?_); rintro e w3 ⟨rfl, t3, o3⟩)
    | (go_at_call 20; (with_reducible refine (take_at (L' := [true, true, true]) (v := .tuple #[.int .i64 2, .bool true]) _ t3 rfl rfl).mono ?_); rintro e w4 ⟨rfl, t4, o4⟩)
    | (go_at_call 20; (with_reducible refine (take_at (L' := [true, true, true]) (v := .tuple #[.int .i64 0, .bool false]) _ t4 rfl rfl).mono ?_); rintro e w5 ⟨rfl, t5, o5⟩)
    | (go_at_call 21; (with_reducible refine (free_1 (L' := [true, false, true]) (c := true) _ t5 rfl rfl).mono ?_); rintro e w6 ⟨rfl, t6, o6⟩)
    | (go_at_call 20; (with_reducible refine (take_at (L' := [true, true, true]) (v := .tuple #[.int .i64 1, .bool true]) _ t6 rfl rfl).mono ?_); rintro e w7 ⟨rfl, t7, o7⟩)
    | (go_at_call 18; (with_reducible refine (tcount_any _ t7).mono ?_); rintro e w8 ⟨rfl, rfl⟩)
    | (go_at_call 19; (with_reducible refine (most_any _ t7).mono ?_); rintro e w9 ⟨rfl, rfl⟩)
    | fail)
  go_ret
  exact ⟨rfl, new_off hb1 hp hq (((((o2.trans o3).trans o4).trans o5).trans o6).trans o7)⟩
end Go.Proofs.Ytnbofokdhkoglaa.Tb
