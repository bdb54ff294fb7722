/-
  The statement WindowNil, walked: it answers true. Memory that was there stays. No condition.
-/
import Derived.Test.YtppcfkcnaaflgaaWnk
import Derived.Test.YtppcfkcnaaflgaaWna
namespace Go.Proofs.Ytppcfkcnaaflgaa.windowNil
set_option maxRecDepth 100000
open Go.RowKit Go.Proofs.Ytppcfkcnaaflgaa.Utf Go.Proofs.Ytppcfkcnaaflgaa.Ob Go.Proofs.Ytppcfkcnaaflgaa.Wn

set_option maxHeartbeats 1000000 in
theorem walk (k N : Int) (A B : Nat) (w : World) (_ : Op4.ok ⟨k, N, A, B⟩) :
    Calls Try.prog 8 #[opV k N A B] w fun e w' => e = .returned (.bool true) ∧ Below w.heap.size w w' := by
  have hb0 : Below w.heap.size w (w.alloc (opO k N A B)) := ba (Below.refl _ _) _
  unfold opO at hb0
  have HB := Lib.hid hb0
  have HD := Lib.hid (fun wx => nil_does k N A B wx)
  clear hb0
  unfold opV at HD ⊢
  go_enter Try.func8, Try.ntmps8
  go_wp2_with (first
    | (go_at_call 12; (with_reducible refine (HD.out _).mono ?_); rintro e w1 ⟨rfl, b1⟩)
    | (go_at_call 14; (with_reducible refine (nil_left _).mono ?_); rintro e w2 ⟨rfl, rfl⟩)
    | (go_at_call 9; (with_reducible refine (works15_any _).mono ?_); rintro e w3 ⟨rfl, b3⟩)
    | fail)
  go_ret
  exact ⟨rfl, bn (ba (bn HB.out b1) _) b3⟩
end Go.Proofs.Ytppcfkcnaaflgaa.windowNil
