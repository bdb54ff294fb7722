/-
  What the laws of idle lean on: does, something that is done; works, the anchor, which answers true. Memory that was there stays, but for the two waits' own block. No other condition.
-/
import Derived.Test.YtbbbanfggcediaaIdn
namespace Go.Proofs.Ytbbbanfggcediaa.Id
set_option maxRecDepth 100000
open Go.RowKit Go.Proofs.Ytbbbanfggcediaa.Utf Go.Proofs.Ytbbbanfggcediaa.Ob

def doG (k n g s : Int) : Int := if k = 0 then momI g s n else g
def doS (k n g s : Int) : Int := if k = 1 then momI g s n else s
def doB (k n o g p s : Int) : Bool := if k = 2 then overB p s (momI g s n) else if k = 3 then overB o g (momI g s n) else false
def GivesDoes (b : Nat) (k n o g p s : Int) (w : World) (e : Ending) (w' : World) : Prop := e = .returned (.bool (doB k n o g p s)) ∧ Idl w' b o (doG k n g s) p (doS k n g s) ∧ Off (fun i => i = b) w w'
section
variable {b : Nat} {o g p s : Int}
set_option maxHeartbeats 1000000 in
theorem idoes_any (k n : Int) (w : World) (h : Idl w b o g p s) : Calls Try.prog 15 #[.pointer (some ⟨b, 0, none⟩), .agg #[.int .i64 k, .int .i64 n]] w (GivesDoes b k n o g p s w) := by
  have hb0 : Below w.heap.size w (w.alloc (.cells #[.int .i64 k, .int .i64 n] 36)) := ba (Below.refl _ _) _
  have h0 := h.call hb0
  by_cases k0 : k = 0
  · subst k0
    have H := Lib.hid (got_any n _ h0)
    have HB := Lib.hid hb0
    have hv : GivesDoes b 0 n o g p s w = fun e w' => e = .returned (.bool false) ∧ Idl w' b o (momI g s n) p s ∧ Off (fun i => i = b) w w' := by funext e w'; simp [GivesDoes, doB, doG, doS]
    rw [hv]
    clear h h0 hb0 hv
    go_enter Try.func15, Try.ntmps15
    go_wp2_with (first
      | (go_at_call 11; (with_reducible refine H.out.mono ?_); rintro e w1 ⟨rfl, h1, o1⟩)
      | fail)
    go_ret
    exact ⟨rfl, h1, (Off.of _ HB.out).trans o1⟩
  have e0 : (k == 0) = false := by simpa using k0
  by_cases k1 : k = 1
  · subst k1
    have H := Lib.hid (sent_any n _ h0)
    have HB := Lib.hid hb0
    have hv : GivesDoes b 1 n o g p s w = fun e w' => e = .returned (.bool false) ∧ Idl w' b o g p (momI g s n) ∧ Off (fun i => i = b) w w' := by funext e w'; simp [GivesDoes, doB, doG, doS]
    rw [hv]
    clear h h0 hb0 hv k0 e0
    go_enter Try.func15, Try.ntmps15
    go_wp2_with (first
      | (go_at_call 10; (with_reducible refine H.out.mono ?_); rintro e w1 ⟨rfl, h1, o1⟩)
      | fail)
    go_ret
    exact ⟨rfl, h1, (Off.of _ HB.out).trans o1⟩
  have e1 : (k == 1) = false := by simpa using k1
  by_cases k2 : k = 2
  · subst k2
    have H := Lib.hid (due_any n _ h0)
    have H0 := Lib.hid h0
    have HB := Lib.hid hb0
    have hv : GivesDoes b 2 n o g p s w = fun e w' => e = .returned (.bool (overB p s (momI g s n))) ∧ Idl w' b o g p s ∧ Off (fun i => i = b) w w' := by funext e w'; simp [GivesDoes, doB, doG, doS]
    rw [hv]
    clear h h0 hb0 hv k0 k1 e0 e1
    go_enter Try.func15, Try.ntmps15
    go_wp2_with (first
      | (go_at_call 9; (with_reducible refine H.out.mono ?_); rintro e w1 ⟨rfl, b1⟩)
      | fail)
    go_ret
    exact ⟨rfl, H0.out.call b1, (Off.of _ HB.out).next b1⟩
  have e2 : (k == 2) = false := by simpa using k2
  by_cases k3 : k = 3
  · subst k3
    have H := Lib.hid (late_any n _ h0)
    have H0 := Lib.hid h0
    have HB := Lib.hid hb0
    have hv : GivesDoes b 3 n o g p s w = fun e w' => e = .returned (.bool (overB o g (momI g s n))) ∧ Idl w' b o g p s ∧ Off (fun i => i = b) w w' := by funext e w'; simp [GivesDoes, doB, doG, doS]
    rw [hv]
    clear h h0 hb0 hv k0 k1 k2 e0 e1 e2
    go_enter Try.func15, Try.ntmps15
    go_wp2_with (first
      | (go_at_call 12; (with_reducible refine H.out.mono ?_); rintro e w1 ⟨rfl, b1⟩)
      | fail)
    go_ret
    exact ⟨rfl, H0.out.call b1, (Off.of _ HB.out).next b1⟩
  have e3 : (k == 3) = false := by simpa using k3
  have H0 := Lib.hid h0
  have HB := Lib.hid hb0
  have hv : GivesDoes b k n o g p s w = fun e w' => e = .returned (.bool false) ∧ Idl w' b o g p s ∧ Off (fun i => i = b) w w' := by funext e w'; simp [GivesDoes, doB, doG, doS, k0, k1, k2, k3]
  rw [hv]
  clear h h0 hb0 hv k0 k1 k2 k3
  go_enter Try.func15, Try.ntmps15
  go_wp2
  go_ret
  exact ⟨rfl, H0.out, Off.of _ HB.out⟩
end
set_option maxHeartbeats 1000000 in
theorem nil_does (k n : Int) (w : World) : Calls Try.prog 15 #[.pointer none, .agg #[.int .i64 k, .int .i64 n]] w fun e w' => e = .returned (.bool false) ∧ Below w.heap.size w w' := by
  have hb0 : Below w.heap.size w (w.alloc (.cells #[.int .i64 k, .int .i64 n] 36)) := ba (Below.refl _ _) _
  have HB := Lib.hid hb0
  clear hb0
  have main : ∀ (k0 k1 k2 k3 : Bool), (k == 0) = k0 → (k == 1) = k1 → (k == 2) = k2 → (k == 3) = k3 → Calls Try.prog 15 #[.pointer none, .agg #[.int .i64 k, .int .i64 n]] w fun e w' => e = .returned (.bool false) ∧ Below w.heap.size w w' := by
    intro k0 k1 k2 k3 e0 e1 e2 e3
    cases k0 <;> cases k1 <;> cases k2 <;> cases k3
    all_goals
      go_enter Try.func15, Try.ntmps15
      go_wp2_with (first
        | (go_at_call 11; (with_reducible refine (nil_got _ _).mono ?_); rintro e w1 ⟨rfl, rfl⟩)
        | (go_at_call 10; (with_reducible refine (nil_sent _ _).mono ?_); rintro e w1 ⟨rfl, rfl⟩)
        | (go_at_call 9; (with_reducible refine (nil_due _ _).mono ?_); rintro e w1 ⟨rfl, hb1⟩)
        | (go_at_call 12; (with_reducible refine (nil_late _ _).mono ?_); rintro e w1 ⟨rfl, hb1⟩)
        | fail)
      go_ret
      first
        | exact ⟨rfl, HB.out⟩
        | exact ⟨rfl, bn HB.out hb1⟩
  exact main _ _ _ _ rfl rfl rfl rfl
/-- Two waits that stand so, at a literal. -/
theorem new_10 (w : World) : Calls Try.prog 8 #[.int .u32 10, .int .u32 8, .int .i64 100] w (GivesIdl 10 100 4 100 w) := inew_any 10 8 100 w (by omega) (by omega)
section
variable {b : Nat} {o g p s : Int}
theorem due_at (n : Int) {v : Bool} (w : World) (h : Idl w b o g p s) (hv : overB p s (momI g s n) = v) : Calls Try.prog 9 #[.pointer (some ⟨b, 0, none⟩), .int .i64 n] w fun e w' => e = .returned (.bool v) ∧ Below w.heap.size w w' := hv ▸ due_any n w h
theorem late_at (n : Int) {v : Bool} (w : World) (h : Idl w b o g p s) (hv : overB o g (momI g s n) = v) : Calls Try.prog 12 #[.pointer (some ⟨b, 0, none⟩), .int .i64 n] w fun e w' => e = .returned (.bool v) ∧ Below w.heap.size w w' := hv ▸ late_any n w h
theorem when_at (m : Int) (v : Bool) (w : World) (h : Idl w b o g p s) (hv : WhenV o g p s = .tuple #[.int .i64 m, .bool v]) : Calls Try.prog 14 #[.pointer (some ⟨b, 0, none⟩)] w fun e w' => e = .returned (.tuple #[.int .i64 m, .bool v]) ∧ Below w.heap.size w w' := hv ▸ when_any w h
theorem got_at (n m : Int) (w : World) (h : Idl w b o g p s) (hv : momI g s n = m) : Calls Try.prog 11 #[.pointer (some ⟨b, 0, none⟩), .int .i64 n] w (GivesAt b o m p s w) := hv ▸ got_any n w h
theorem sent_at (n m : Int) (w : World) (h : Idl w b o g p s) (hv : momI g s n = m) : Calls Try.prog 10 #[.pointer (some ⟨b, 0, none⟩), .int .i64 n] w (GivesAt b o g p m w) := hv ▸ sent_any n w h
end
set_option maxHeartbeats 2000000 in
theorem works14_any (w : World) : Calls Try.prog 13 #[] w fun e w' => e = .returned (.bool true) ∧ Below w.heap.size w w' := by
  go_enter Try.func13, Try.ntmps13
  go_wp2_with fail
  with_reducible refine (new_10 _).mono ?_
  rintro e w1 ⟨b, rfl, h1, hb, b1⟩
  go_wp2_with fail
  with_reducible refine (when_at 104 true _ h1 rfl).mono ?_
  rintro e w2 ⟨rfl, b2⟩
  have h2 := h1.call b2
  go_wp2_with fail
  with_reducible refine (due_at 103 (v := false) _ h2 rfl).mono ?_
  rintro e w3 ⟨rfl, b3⟩
  have h3 := h2.call b3
  go_wp2_with fail
  with_reducible refine (due_at 104 (v := true) _ h3 rfl).mono ?_
  rintro e w4 ⟨rfl, b4⟩
  have h4 := h3.call b4
  go_wp2_with fail
  with_reducible refine (late_at 109 (v := false) _ h4 rfl).mono ?_
  rintro e w5 ⟨rfl, b5⟩
  have h5 := h4.call b5
  have B5 := Lib.hid (bn (bn (bn (bn b1 b2) b3) b4) b5)
  clear h1 h2 h3 h4 b1 b2 b3 b4 b5
  go_wp2_with fail
  with_reducible refine (new_10 _).mono ?_
  rintro e w6 ⟨c, rfl, y6, hc, b6⟩
  have h6 := h5.call b6
  go_wp2_with fail
  with_reducible refine (sent_at 104 104 _ y6 rfl).mono ?_
  rintro e w7 ⟨rfl, y7, o7⟩
  have ncb : ¬ b = c := by have := h5.lt; omega
  have h7 := h6.off o7 ncb
  go_wp2_with fail
  with_reducible refine (when_at 108 true _ y7 rfl).mono ?_
  rintro e w8 ⟨rfl, b8⟩
  have h8 := h7.call b8
  have y8 := y7.call b8
  go_wp2_with fail
  with_reducible refine (got_at 105 105 _ y8 rfl).mono ?_
  rintro e w9 ⟨rfl, y9, o9⟩
  have h9 := h8.off o9 ncb
  go_wp2_with fail
  with_reducible refine (sent_at 112 112 _ y9 rfl).mono ?_
  rintro e w10 ⟨rfl, y10, o10⟩
  have h10 := h9.off o10 ncb
  go_wp2_with fail
  with_reducible refine (when_at 115 true _ y10 rfl).mono ?_
  rintro e w11 ⟨rfl, b11⟩
  have h11 := h10.call b11
  have y11 := y10.call b11
  go_wp2_with fail
  with_reducible refine (late_at 115 (v := true) _ y11 rfl).mono ?_
  rintro e w12 ⟨rfl, b12⟩
  have h12 := h11.call b12
  go_wp2_with fail
  with_reducible refine (late_at 110 (v := true) _ h12 rfl).mono ?_
  rintro e w13 ⟨rfl, b13⟩
  go_wp2
  go_ret
  have hx : ∀ i, i < w.heap.size → ¬ i = c := fun i hi e => by have := B5.out.size; omega
  exact ⟨rfl, bo (bn B5.out b6) (((((o7.next b8).trans o9).trans o10).next b11).next b12 |>.next b13) hx⟩
end Go.Proofs.Ytbbbanfggcediaa.Id
