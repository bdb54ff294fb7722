/-
  The statement TableNil, walked: it answers true. Memory that was there stays. No condition.
-/
import Derived.Test.YtnbofokdhkoglaaTbw
import Derived.Test.YtnbofokdhkoglaaTbl
namespace Go.Proofs.Ytnbofokdhkoglaa.tableNil
set_option maxRecDepth 100000
open Go.RowKit Go.Proofs.Ytnbofokdhkoglaa.Utf Go.Proofs.Ytnbofokdhkoglaa.Tb

set_option maxHeartbeats 2000000 in
theorem walk (n m : Int) (w : World) (_ : (Lit.int .i64 n).wf = true) (_ : (Lit.int .i64 m).wf = true) :
    Calls Try.prog 7 #[.int .i64 n, .int .i64 m] w fun e w' => e = .returned (.bool true) ∧ Below w.heap.size w w' := by
  by_cases hmay : 0 ≤ m ∧ m ≤ 65535
  · obtain ⟨X, rfl⟩ := Int.eq_ofNat_of_zero_le hmay.1
    have d1 : decide (0 ≤ (X : Int)) = true := by simp
    have d2 : decide ((X : Int) ≤ 65535) = true := by simp; omega
    have HN := Lib.hid (fun wx => new_yes X wx (by omega))
    clear hmay
    go_enter Try.func7, Try.ntmps7
    go_wp2_with (first
      | (go_at_call 20; (with_reducible refine (nil_take _).mono ?_); rintro e w1 ⟨rfl, rfl⟩)
      | (go_at_call 13; (with_reducible refine (nil_has _ _).mono ?_); rintro e w1 ⟨rfl, rfl⟩)
      | (go_at_call 22; (with_reducible refine (nil_hold _ _).mono ?_); rintro e w1 ⟨rfl, rfl⟩)
      | (go_at_call 21; (with_reducible refine (nil_free _ _).mono ?_); rintro e w1 ⟨rfl, rfl⟩)
      | (go_at_call 18; (with_reducible refine (nil_count _).mono ?_); rintro e w1 ⟨rfl, rfl⟩)
      | (go_at_call 17; (with_reducible refine (nil_all _).mono ?_); rintro e w1 ⟨rfl, rfl⟩)
      | (go_at_call 19; (with_reducible refine (nil_most _).mono ?_); rintro e w1 ⟨rfl, rfl⟩)
      | (go_at_call 9; (with_reducible refine (HN.out _).mono ?_); rintro e w1 ⟨p, b, rfl, t1, hp, hq, hb1⟩)
      | (go_at_call 8; (with_reducible refine (works13_any _).mono ?_); rintro e w2 ⟨rfl, hb2⟩)
      | fail)
    go_ret
    exact ⟨rfl, bn hb1 hb2⟩
  · by_cases h1 : 0 ≤ m
    · have d1 : decide (0 ≤ m) = true := by simpa using h1
      have d2 : decide (m ≤ 65535) = false := by simp; omega
      have HN := Lib.hid (fun wx => new_no m wx hmay)
      clear hmay h1
      go_enter Try.func7, Try.ntmps7
      go_wp2_with (first
        | (go_at_call 20; (with_reducible refine (nil_take _).mono ?_); rintro e w1 ⟨rfl, rfl⟩)
        | (go_at_call 13; (with_reducible refine (nil_has _ _).mono ?_); rintro e w1 ⟨rfl, rfl⟩)
        | (go_at_call 22; (with_reducible refine (nil_hold _ _).mono ?_); rintro e w1 ⟨rfl, rfl⟩)
        | (go_at_call 21; (with_reducible refine (nil_free _ _).mono ?_); rintro e w1 ⟨rfl, rfl⟩)
        | (go_at_call 18; (with_reducible refine (nil_count _).mono ?_); rintro e w1 ⟨rfl, rfl⟩)
        | (go_at_call 17; (with_reducible refine (nil_all _).mono ?_); rintro e w1 ⟨rfl, rfl⟩)
        | (go_at_call 19; (with_reducible refine (nil_most _).mono ?_); rintro e w1 ⟨rfl, rfl⟩)
        | (go_at_call 9; (with_reducible refine (HN.out _).mono ?_); rintro e w1 ⟨rfl, rfl⟩)
        | (go_at_call 8; (with_reducible refine (works13_any _).mono ?_); rintro e w2 ⟨rfl, hb2⟩)
        | fail)
      go_ret
      exact ⟨rfl, hb2⟩
    · have d1 : decide (0 ≤ m) = false := by simpa using h1
      have HN := Lib.hid (fun wx => new_no m wx hmay)
      clear hmay h1
      go_enter Try.func7, Try.ntmps7
      go_wp2_with (first
        | (go_at_call 20; (with_reducible refine (nil_take _).mono ?_); rintro e w1 ⟨rfl, rfl⟩)
        | (go_at_call 13; (with_reducible refine (nil_has _ _).mono ?_); rintro e w1 ⟨rfl, rfl⟩)
        | (go_at_call 22; (with_reducible refine (nil_hold _ _).mono ?_); rintro e w1 ⟨rfl, rfl⟩)
        | (go_at_call 21; (with_reducible refine (nil_free _ _).mono ?_); rintro e w1 ⟨rfl, rfl⟩)
        | (go_at_call 18; (with_reducible refine (nil_count _).mono ?_); rintro e w1 ⟨rfl, rfl⟩)
        | (go_at_call 17; (with_reducible refine (nil_all _).mono ?_); rintro e w1 ⟨rfl, rfl⟩)
        | (go_at_call 19; (with_reducible refine (nil_most _).mono ?_); rintro e w1 ⟨rfl, rfl⟩)
        | (go_at_call 9; (with_reducible refine (HN.out _).mono ?_); rintro e w1 ⟨rfl, rfl⟩)
        | (go_at_call 8; (with_reducible refine (works13_any _).mono ?_); rintro e w2 ⟨rfl, hb2⟩)
        | fail)
      go_ret
      exact ⟨rfl, hb2⟩
end Go.Proofs.Ytnbofokdhkoglaa.tableNil
