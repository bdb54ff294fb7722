/-
  The document's tables, continued: Take, Free, All, a step; same, which compares what both tell. Memory that was there stays, but for the row's own block. No other condition.
-/
import Derived.Test.YtnbofokdhkoglaaTbx
import Derived.Test.YtnbofokdhkoglaaTbw
import Derived.Deep.RegionHeld3
import Derived.Deep.RegionLaw
import Derived.Deep.QuietTactic
import Derived.BigQuiet
namespace Go.Proofs.Ytnbofokdhkoglaa.Tb
set_option maxRecDepth 100000
open Go.RowKit Go.Proofs.Ytnbofokdhkoglaa.Utf

section
variable {gx h : Nat} {L : List Bool}
set_option maxHeartbeats 1000000 in
theorem xfree_any (x : Int) (w : World) (t : Xin w gx h L) : Calls Try.prog 25 #[.pointer (some ⟨gx, 0, none⟩), .int .i64 x] w (GivesX gx h (rowT L 2 x) (.bool (hasT L x)) w) := by
  have hH := xhas_any x w t
  have x0 := t.cell
  have HT := Lib.hid t
  cases hh : hasT L x
  · have hr : rowT L 2 x = L := by simp [rowT, hh]
    rw [hh] at hH
    rw [hr]
    have HH := Lib.hid hH
    clear t hr hh hH
    go_enter Try.func25, Try.ntmps25
    go_wp2_with (first
      | (go_at_call 14; (with_reducible refine HH.out.mono ?_); rintro e w1 ⟨rfl, rfl⟩)
      | fail)
    go_ret
    exact ⟨rfl, HT.out, Off.refl _ _⟩
  · obtain ⟨h0, h1⟩ := hasT_in hh
    obtain ⟨i, rfl⟩ := Int.eq_ofNat_of_zero_le h0
    have z := t.row.cell (j := i) (by omega)
    have zf := t.row.frz i
    have f0 : (0 : Int) ≤ (i : Int) := by omega
    have hr : rowT L 2 (i : Int) = L.set i false := by simp [rowT, hh]
    rw [hh] at hH z
    rw [hr]
    have HH := Lib.hid hH
    clear t hr hh hH
    go_enter Try.func25, Try.ntmps25
    go_wp2_with (first
      | (go_at_call 14; (with_reducible refine HH.out.mono ?_); rintro e w1 ⟨rfl, rfl⟩)
      | fail)
    go_ret
    exact ⟨rfl, HT.out.set i false⟩
set_option maxHeartbeats 2000000 in
theorem xtake_any (w : World) (t : Xin w gx h L) : Calls Try.prog 24 #[.pointer (some ⟨gx, 0, none⟩)] w (GivesX gx h (rowT L 1 0) (TakeV L) w) := by
  have HT := Lib.hid t
  have HL := Lib.hid (And.intro (low_le L) t.hi)
  clear t
  go_enter Try.func24, Try.ntmps24
  go_wp2
  go_loopw [4] (fun s wr => ∃ j : Nat, j ≤ lowT L ∧ s = .int .i64 (j : Int) ∧ Xin wr gx h L ∧ Off (fun i => i = h) w wr) (fun s _ => L.length - (Go.RowKit.intOf s).toNat)
  case atStart => exact ⟨0, by omega, rfl, HT.out, Off.refl _ _⟩
  case round =>
    obtain ⟨j, hj, rfl, t, ho⟩ := hrel
    have x0 := t.cell
    have hY := xhold_any (j : Int) wr t
    have HO := Lib.hid ho
    have HTr := Lib.hid t
    obtain ⟨hll, hl2⟩ := HL.out
    by_cases hlt : j < lowT L
    · have hm : mayT L (j : Int) = false := by simp [mayT, low_has hlt]
      have hr : rowT L 0 (j : Int) = L := by simp [rowT, hm]
      rw [hm, hr] at hY
      have HY := Lib.hid hY
      have hjl : j < L.length := by omega
      have d1 : decide ((j : Int) < (L.length : Int)) = true := by simpa using hjl
      clear hY t ho hm hr
      go_wp2_with (first
        | (go_at_call 23; (with_reducible refine HY.out.mono ?_); rintro e w1 ⟨rfl, t1, o1⟩)
        | fail)
      go_roundw
      case rel => exact ⟨j + 1, by omega, by go_num, t1, HO.out.trans o1⟩
      case measure => simp [Go.RowKit.intOf]; omega
    · obtain rfl : j = lowT L := by omega
      by_cases hjl : lowT L < L.length
      · have hm : mayT L (lowT L : Int) = true := mayT_iff.2 ⟨by omega, by omega, low_not⟩
        have hr0 : rowT L 0 (lowT L : Int) = L.set (lowT L) true := by simp [rowT, hm]
        have hr : rowT L 1 0 = L.set (lowT L) true := by simp [rowT, hjl]
        have hv : TakeV L = .tuple #[.int .i64 (lowT L : Int), .bool true] := by simp [TakeV, numT, isT, hjl]
        rw [hm, hr0] at hY
        have HY := Lib.hid hY
        have HR := Lib.hid hr
        have HV := Lib.hid hv
        have d1 : decide ((lowT L : Int) < (L.length : Int)) = true := by simpa using hjl
        clear hY t ho hm hr hr0 hv
        go_wp2_with (first
          | (go_at_call 23; (with_reducible refine HY.out.mono ?_); rintro e w1 ⟨rfl, t1, o1⟩)
          | fail)
        refine bodyPost_ret (v := .tuple #[.int .i64 (lowT L : Int), .bool true]) (by simp [results, Try.results24, go_sem]) rfl ?_
        exact ⟨by rw [HV.out], by rw [HR.out]; exact t1, HO.out.trans o1⟩
      · have hr : rowT L 1 0 = L := by simp [rowT, hjl]
        have hv : TakeV L = .tuple #[.int .i64 0, .bool false] := by simp [TakeV, numT, isT, hjl]
        have HR := Lib.hid hr
        have HV := Lib.hid hv
        have d1 : decide ((lowT L : Int) < (L.length : Int)) = false := by simp; omega
        clear hY t ho hr hv
        go_wp2_with fail
        refine bodyPost_ret (v := .tuple #[.int .i64 0, .bool false]) (by simp [results, Try.results24, go_sem]) rfl ?_
        exact ⟨by rw [HV.out], by rw [HR.out]; exact HTr.out, HO.out⟩
set_option maxHeartbeats 1000000 in
theorem meant_any (k n : Int) (w : World) (t : Xin w gx h L) :
    Calls Try.prog 12 #[.pointer (some ⟨gx, 0, none⟩), .agg #[.int .i64 k, .int .i64 n]] w (GivesX gx h (rowT L k n) (DoV L k n) w) := by
  have hb0 : Below w.heap.size w (w.alloc (.cells #[.int .i64 k, .int .i64 n] 34)) := ba (Below.refl _ _) _
  have HT := Lib.hid (t.call hb0)
  have HB := Lib.hid hb0
  by_cases h0 : k = 0
  · subst h0
    have HC := Lib.hid (xhold_any n _ (t.call hb0))
    have hv : DoV L 0 n = .tuple #[.int .i64 0, .bool (mayT L n)] := by simp [DoV, numT, isT]
    rw [hv]
    clear t hb0 hv
    go_enter Try.func12, Try.ntmps12
    go_wp2_with (first
      | (go_at_call 23; (with_reducible refine HC.out.mono ?_); rintro e w1 ⟨rfl, t1, o1⟩)
      | fail)
    refine bodyPost_ret (v := .tuple #[.int .i64 0, .bool (mayT L n)]) (by simp [results, Try.results12, go_sem]) rfl ?_
    exact ⟨rfl, t1, (Off.of _ HB.out).trans o1⟩
  have e0 : (k == 0) = false := by simpa using h0
  by_cases h1 : k = 1
  · subst h1
    have HC := Lib.hid (xtake_any _ (t.call hb0))
    have hr : rowT L 1 n = rowT L 1 0 := by simp [rowT]
    have hv : DoV L 1 n = TakeV L := by simp [DoV, TakeV, isT]
    rw [hv, hr]
    unfold TakeV at HC ⊢
    clear t hb0 hv hr h0
    go_enter Try.func12, Try.ntmps12
    go_wp2_with (first
      | (go_at_call 24; (with_reducible refine HC.out.mono ?_); rintro e w1 ⟨rfl, t1, o1⟩)
      | fail)
    refine bodyPost_ret (v := .tuple #[.int .i64 (numT L 1 : Int), .bool (isT L 1 0)]) (by simp [results, Try.results12, go_sem]) rfl ?_
    exact ⟨rfl, t1, (Off.of _ HB.out).trans o1⟩
  have e1 : (k == 1) = false := by simpa using h1
  by_cases h2 : k = 2
  · subst h2
    have HC := Lib.hid (xfree_any n _ (t.call hb0))
    have hv : DoV L 2 n = .tuple #[.int .i64 0, .bool (hasT L n)] := by simp [DoV, numT, isT]
    rw [hv]
    clear t hb0 hv h0 h1
    go_enter Try.func12, Try.ntmps12
    go_wp2_with (first
      | (go_at_call 25; (with_reducible refine HC.out.mono ?_); rintro e w1 ⟨rfl, t1, o1⟩)
      | fail)
    refine bodyPost_ret (v := .tuple #[.int .i64 0, .bool (hasT L n)]) (by simp [results, Try.results12, go_sem]) rfl ?_
    exact ⟨rfl, t1, (Off.of _ HB.out).trans o1⟩
  have e2 : (k == 2) = false := by simpa using h2
  obtain ⟨hr, hv⟩ := row_other (L := L) n h0 h1 h2
  rw [hr, hv]
  clear t hb0 hv hr h0 h1 h2
  go_enter Try.func12, Try.ntmps12
  go_wp2
  refine bodyPost_ret (v := .tuple #[.int .i64 0, .bool true]) (by simp [results, Try.results12, go_sem]) rfl ?_
  exact ⟨rfl, HT.out, Off.of _ HB.out⟩
end
end Go.Proofs.Ytnbofokdhkoglaa.Tb
