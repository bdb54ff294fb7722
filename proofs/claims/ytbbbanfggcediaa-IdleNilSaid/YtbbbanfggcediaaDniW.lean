/-
  The statement IdleNil, walked: it answers true. Memory that was there stays. No condition.
-/
import Derived.Test.YtbbbanfggcediaaIdw
namespace Go.Proofs.Ytbbbanfggcediaa.idleNil
set_option maxRecDepth 100000
open Go.RowKit Go.Proofs.Ytbbbanfggcediaa.Utf Go.Proofs.Ytbbbanfggcediaa.Ob Go.Proofs.Ytbbbanfggcediaa.Id

theorem walk (k n : Int) (w : World) (_ : (Lit.int .i64 k).wf = true) (_ : (Lit.int .i64 n).wf = true) :
    Calls Try.prog 7 #[.agg #[.int .i64 k, .int .i64 n]] w fun e w' => e = .returned (.bool true) ∧ Below w.heap.size w w' := by
  have hb0 : Below w.heap.size w (w.alloc (.cells #[.int .i64 k, .int .i64 n] 36)) := ba (Below.refl _ _) _
  have HB := Lib.hid hb0
  clear hb0
  go_enter Try.func7, Try.ntmps7
  go_wp2_with (first
    | (go_at_call 14; (with_reducible refine (nil_when _).mono ?_); rintro e w1 ⟨rfl, rfl⟩)
    | (go_at_call 15; (with_reducible refine (nil_does _ _ _).mono ?_); rintro e w2 ⟨rfl, hb2⟩)
    | (go_at_call 13; (with_reducible refine (works14_any _).mono ?_); rintro e w3 ⟨rfl, hb3⟩)
    | fail)
  go_ret
  exact ⟨rfl, bn (bn HB.out hb2) hb3⟩
end Go.Proofs.Ytbbbanfggcediaa.idleNil
