/-
  The statement IntakeNil, walked: it answers true. Memory that was there stays. No condition.
-/
import Derived.Test.YtdjncacknmejoaaIwo
namespace Go.Proofs.Ytdjncacknmejoaa.intakeNil
set_option maxRecDepth 100000
open Go.RowKit Go.Proofs.Ytdjncacknmejoaa.Utf Go.Proofs.Ytdjncacknmejoaa.Enc Go.Proofs.Ytdjncacknmejoaa.Fr Go.Proofs.Ytdjncacknmejoaa.It

theorem nil_put (A : Option Addr) (n c : Nat) (w : World) : Calls Try.prog 14 #[.pointer none, .slice A n c] w fun e w' => e = .returned (.int .i64 0) ∧ w = w' := by
  by_cases h0 : n = 0
  · subst h0
    go_enter Try.func14, Try.ntmps14
    go_wp2_with (first
      | (go_at_call 21; (with_reducible refine (nil_room _).mono ?_); rintro e w1 ⟨rfl, rfl⟩)
      | fail)
    go_ret
    exact ⟨rfl, rfl⟩
  · have h1 : 0 < n := by omega
    clear h0
    go_enter Try.func14, Try.ntmps14
    go_wp2_with (first
      | (go_at_call 21; (with_reducible refine (nil_room _).mono ?_); rintro e w1 ⟨rfl, rfl⟩)
      | fail)
    all_goals
      go_ret
      exact ⟨rfl, rfl⟩
set_option maxHeartbeats 1000000 in
theorem walk (A : Option Addr) (n c : Nat) (b : List Nat) (size : Nat) (w : World) (_ : Rd .u8 256 w w.heap.size A n b) (_ : n ≤ c) (hs : size < 4294967296) :
    Calls Try.prog 8 #[.slice A n c, .int .u32 (size : Int)] w fun e w' => e = .returned (.bool true) ∧ Below w.heap.size w w' := by
  go_enter Try.func8, Try.ntmps8
  go_wp2_with fail
  (with_reducible refine (nil_next _).mono ?_)
  rintro e w1 ⟨rfl, hb1⟩
  have hx1 : BxF (w1.alloc (.cells #[.int .u16 0, .slice none 0 0] 39)) w1.heap.size 0 none 0 0 := heap_alloc_new w1 _
  have hb1' := ba hb1 (.cells #[.int .u16 0, .slice none 0 0] 39)
  obtain ⟨x0, x1, _, _⟩ := hx1.all
  by_cases hmay : 512 ≤ size ∧ size ≤ 4096
  · have d1 : decide (512 ≤ (size : Int)) = true := by simp; omega
    have d2 : decide ((size : Int) ≤ 4096) = true := by simp; omega
    have HNEW : Hid (∀ wx, Calls Try.prog 11 #[.int .u32 (size : Int)] wx (GivesNew size wx)) := Lib.hid fun wx => new_yes size wx hmay.1 hmay.2
    clear hmay hx1 hs
    go_wp2_with (first
      | (go_at_call 19; (with_reducible refine (same_zero _).mono ?_); rintro e w2 ⟨rfl, hb2⟩; have hb2' := bn hb1' hb2)
      | (go_at_call 14; (with_reducible refine (nil_put _ _ _ _).mono ?_); rintro e w3 ⟨rfl, rfl⟩)
      | (go_at_call 20; (with_reducible refine (nil_held _).mono ?_); rintro e w4 ⟨rfl, rfl⟩)
      | (go_at_call 21; (with_reducible refine (nil_room _).mono ?_); rintro e w5 ⟨rfl, rfl⟩)
      | (go_at_call 11; (with_reducible refine (HNEW.out _).mono ?_); rintro e w6 ⟨g, h, rfl, _, _, _, hb6⟩; have hb6' := bn hb2' hb6)
      | (go_at_call 10; (with_reducible refine (works12_any _).mono ?_); rintro e w7 ⟨rfl, hb7⟩)
      | fail)
    go_ret
    exact ⟨rfl, bn hb6' hb7⟩
  · by_cases h5 : 512 ≤ size
    · have d1 : decide (512 ≤ (size : Int)) = true := by simp; omega
      have d2 : decide ((size : Int) ≤ 4096) = false := by simp; omega
      have HNEW : Hid (∀ wx, Calls Try.prog 11 #[.int .u32 (size : Int)] wx fun e w' => e = .returned (.tuple #[.pointer none, .int .i64 1]) ∧ wx = w') := Lib.hid fun wx => new_no size wx hs hmay
      clear hmay hx1 hs h5
      go_wp2_with (first
        | (go_at_call 19; (with_reducible refine (same_zero _).mono ?_); rintro e w2 ⟨rfl, hb2⟩; have hb2' := bn hb1' hb2)
        | (go_at_call 14; (with_reducible refine (nil_put _ _ _ _).mono ?_); rintro e w3 ⟨rfl, rfl⟩)
        | (go_at_call 20; (with_reducible refine (nil_held _).mono ?_); rintro e w4 ⟨rfl, rfl⟩)
        | (go_at_call 21; (with_reducible refine (nil_room _).mono ?_); rintro e w5 ⟨rfl, rfl⟩)
        | (go_at_call 11; (with_reducible refine (HNEW.out _).mono ?_); rintro e w6 ⟨rfl, rfl⟩)
        | (go_at_call 10; (with_reducible refine (works12_any _).mono ?_); rintro e w7 ⟨rfl, hb7⟩)
        | fail)
      go_ret
      exact ⟨rfl, bn hb2' hb7⟩
    · have d1 : decide (512 ≤ (size : Int)) = false := by simp; omega
      have d2 : decide ((size : Int) ≤ 4096) = true := by simp; omega
      have HNEW : Hid (∀ wx, Calls Try.prog 11 #[.int .u32 (size : Int)] wx fun e w' => e = .returned (.tuple #[.pointer none, .int .i64 1]) ∧ wx = w') := Lib.hid fun wx => new_no size wx hs hmay
      clear hmay hx1 hs h5
      go_wp2_with (first
        | (go_at_call 19; (with_reducible refine (same_zero _).mono ?_); rintro e w2 ⟨rfl, hb2⟩; have hb2' := bn hb1' hb2)
        | (go_at_call 14; (with_reducible refine (nil_put _ _ _ _).mono ?_); rintro e w3 ⟨rfl, rfl⟩)
        | (go_at_call 20; (with_reducible refine (nil_held _).mono ?_); rintro e w4 ⟨rfl, rfl⟩)
        | (go_at_call 21; (with_reducible refine (nil_room _).mono ?_); rintro e w5 ⟨rfl, rfl⟩)
        | (go_at_call 11; (with_reducible refine (HNEW.out _).mono ?_); rintro e w6 ⟨rfl, rfl⟩)
        | (go_at_call 10; (with_reducible refine (works12_any _).mono ?_); rintro e w7 ⟨rfl, hb7⟩)
        | fail)
      go_ret
      exact ⟨rfl, bn hb2' hb7⟩
end Go.Proofs.Ytdjncacknmejoaa.intakeNil
