/-
  The statement IdleFree, walked: it answers true. Memory that was there stays. No condition.
-/
import Derived.Test.YtbbbanfggcediaaIdw
import Derived.Test.YtbbbanfggcediaaIda
namespace Go.Proofs.Ytbbbanfggcediaa.idleFree
set_option maxRecDepth 100000
open Go.RowKit Go.Proofs.Ytbbbanfggcediaa.Utf Go.Proofs.Ytbbbanfggcediaa.Ob Go.Proofs.Ytbbbanfggcediaa.Id

theorem new_00 (n : Int) (w : World) : Calls Try.prog 8 #[.int .u32 0, .int .u32 0, .int .i64 n] w (GivesIdl 0 (momI 0 0 n) 0 (momI (momI 0 0 n) 0 n) w) := inew_any 0 0 n w (by omega) (by omega)
theorem doB_0 (k n g s : Int) : doB k n 0 g 0 s = false := by simp [doB, overB]
/-- Two waits without ends. -/
def Free (w : World) (b : Nat) : Prop := ∃ g s, Idl w b 0 g 0 s
theorem does_free {b : Nat} (k n : Int) (w : World) (h : Free w b) : Calls Try.prog 15 #[.pointer (some ⟨b, 0, none⟩), .agg #[.int .i64 k, .int .i64 n]] w fun e w' => e = .returned (.bool false) ∧ Free w' b ∧ Off (fun i => i = b) w w' := by
  obtain ⟨g, s, h⟩ := h
  refine (idoes_any k n w h).mono fun e w' ⟨he, h1, ho⟩ => ?_
  rw [doB_0] at he
  exact ⟨he, ⟨_, _, h1⟩, ho⟩
theorem when_free {b : Nat} (w : World) (h : Free w b) : Calls Try.prog 14 #[.pointer (some ⟨b, 0, none⟩)] w fun e w' => e = .returned (.tuple #[.int .i64 0, .bool false]) ∧ Below w.heap.size w w' := by
  obtain ⟨g, s, h⟩ := h
  exact when_at 0 false w h rfl
theorem new_free (n : Int) (w : World) : Calls Try.prog 8 #[.int .u32 0, .int .u32 0, .int .i64 n] w fun e w' => ∃ b, e = .returned (.pointer (some ⟨b, 0, none⟩)) ∧ Free w' b ∧ w.heap.size ≤ b ∧ Below w.heap.size w w' :=
  (new_00 n w).mono fun _ _ ⟨b, he, h, hs, hb⟩ => ⟨b, he, ⟨_, _, h⟩, hs, hb⟩
set_option maxHeartbeats 1000000 in
theorem walk (now : Int) (ss : List (Int × Int)) (A : Option Addr) (l c : Nat) (w : World) (_ : (Lit.int .i64 now).wf = true) (hs : Ops w w.heap.size A l ss) (hl : l ≤ 9223372036854775807) :
    Calls Try.prog 5 #[.int .i64 now, .slice A l c] w fun e w' => e = .returned (.bool true) ∧ Below w.heap.size w w' := by
  by_cases h2 : 200 < l
  · have d : decide (200 < (l : Int)) = true := by simp; omega
    clear h2 hs hl
    go_enter Try.func5, Try.ntmps5
    go_wp2_with (first
      | (go_at_call 13; (with_reducible refine (works14_any _).mono ?_); rintro e w3 ⟨rfl, hb3⟩)
      | fail)
    go_ret
    exact ⟨rfl, hb3⟩
  have d : decide (200 < (l : Int)) = false := by simp; omega
  have hl2 : l ≤ 200 := by omega
  have HS := Lib.hid hs
  clear h2 hs hl
  go_enter Try.func5, Try.ntmps5
  go_wp2_with fail
  with_reducible refine (new_free now _).mono ?_
  rintro e w1 ⟨b, rfl, h1, hb, b1⟩
  have H1 := Lib.hid h1
  have HB := Lib.hid hb
  have B1 := Lib.hid b1
  clear h1 hb b1
  go_wp2_with fail
  go_loopw [6] (fun i wx => ∃ k : Nat, k ≤ l ∧ i = .int .i64 k ∧ Free wx b ∧ Off (fun i => i = b) w1 wx) (fun i _ => l - (intOf i).toNat)
  case atStart => exact ⟨0, Nat.zero_le _, rfl, H1.out, Off.refl _ _⟩
  case round =>
    obtain ⟨k, hk, rfl, h, ho⟩ := hrel
    have HO := Lib.hid ho
    have HW : Hid (Below w.heap.size w wr) := Lib.hid (bo B1.out ho (fun i hi e => by have := HB.out; omega))
    by_cases hlt : k < l
    · obtain ⟨b2, o2, kk, xx, rfl, hb2, hx, c0, c1, _, _⟩ := (HS.out.call HW.out).2 k hlt
      have H := Lib.hid h
      clear h hx hb2 ho
      go_wp2_with (first
        | (go_at_call 15; (with_reducible refine (does_free kk xx _ H.out).mono ?_); rintro e w2 ⟨rfl, h2, o2'⟩)
        | fail)
      go_roundw
      case rel => exact ⟨k + 1, by omega, by go_num, h2, HO.out.trans o2'⟩
      case measure => simp [intOf]; omega
    · have H := Lib.hid h
      clear h ho
      go_wp2_with (first
        | (go_at_call 14; (with_reducible refine (when_free _ H.out).mono ?_); rintro e w2 ⟨rfl, b2⟩)
        | (go_at_call 13; (with_reducible refine (works14_any _).mono ?_); rintro e w3 ⟨rfl, b3⟩)
        | fail)
      go_ret
      exact ⟨rfl, bn (bn HW.out b2) b3⟩
end Go.Proofs.Ytbbbanfggcediaa.idleFree
