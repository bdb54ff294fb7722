/-
  The walk of the statement FieldsPlays: of any value, whatever is asked of its fields, every answer is the document's. Conditions: the table utf.shapes lies as the program's text lays it; values of bulk at most 2^20.
-/
import Derived.Test.YtobnbgbijdhjjaaDoorFpl0
import Derived.LoopN
namespace Go.Proofs.YtobnbgbijdhjjaaDoor.fieldsPlays
set_option maxRecDepth 100000
open Go.RowKit Go.Proofs.YtobnbgbijdhjjaaDoor.Utf Go.Proofs.YtobnbgbijdhjjaaDoor.Val Go.Proofs.YtobnbgbijdhjjaaDoor.Fl V

/-- What is kept ahead of the questions: the value's box and the copy's. -/
structure SP (w wi : World) (k n : Nat) (t : ByteArray) (ks : List V) (A : Option Addr) (l c : Nat) (g9 : Nat) (A9 : Option Addr) (l9 c9 : Nat) : Prop where
  b4 : Box wi w.heap.size (.int .u8 (k : Int)) (.int .u64 (n : Int)) (.string t) (.slice A l c)
  b9 : Box wi g9 (.int .u8 (k : Int)) (.int .u64 (n : Int)) (.string t) (.slice A9 l9 c9)
  kd : Kd wi ks A l c
  kd9 : Kd wi ks A9 l9 c9
  low : Below w.heap.size w wi
theorem SP.call {w wi w' : World} {k n : Nat} {t : ByteArray} {ks : List V} {A : Option Addr} {l c : Nat} {g9 : Nat} {A9 : Option Addr} {l9 c9 : Nat} (h : SP w wi k n t ks A l c g9 A9 l9 c9) (hb : Below wi.heap.size wi w') : SP w w' k n t ks A l c g9 A9 l9 c9 := ⟨h.b4.call hb, h.b9.call hb, h.kd.call hb, h.kd9.call hb, below_next h.low hb⟩

theorem SP.cells {w wi : World} {k n : Nat} {t : ByteArray} {ks : List V} {A : Option Addr} {l c : Nat} {g9 : Nat} {A9 : Option Addr} {l9 c9 : Nat} (h : SP w wi k n t ks A l c g9 A9 l9 c9) : wi.cell? ⟨w.heap.size, 0, none⟩ = some (.int .u8 (k : Int)) ∧ wi.cell? ⟨w.heap.size, 1, none⟩ = some (.int .u64 (n : Int)) ∧ wi.cell? ⟨w.heap.size, 2, none⟩ = some (.string t) ∧ wi.cell? ⟨w.heap.size, 3, none⟩ = some (.slice A l c) ∧
    wi.cell? ⟨g9, 0, none⟩ = some (.int .u8 (k : Int)) ∧ wi.cell? ⟨g9, 1, none⟩ = some (.int .u64 (n : Int)) ∧ wi.cell? ⟨g9, 2, none⟩ = some (.string t) ∧ wi.cell? ⟨g9, 3, none⟩ = some (.slice A9 l9 c9) := by
  obtain ⟨a0, a1, a2, a3, _⟩ := h.b4.all
  obtain ⟨b0, b1, b2, b3, _⟩ := h.b9.all
  exact ⟨a0, a1, a2, a3, b0, b1, b2, b3⟩
theorem SL.cells {w wi : World} {g gr : Nat} {ls : List V} {Af : Option Addr} {lf cf : Nat} {Ar : Option Addr} {lr cr : Nat} {spf spr : Bool} {k n : Nat} {t : ByteArray} {ks : List V} {A : Option Addr} {l c : Nat} {g9 : Nat} {A9 : Option Addr} {l9 c9 g0 : Nat} (h : Fl.SL w wi g gr ls Af lf cf Ar lr cr spf spr k n t ks A l c g9 A9 l9 c9 g0) : wi.cell? ⟨w.heap.size, 0, none⟩ = some (.int .u8 (k : Int)) ∧ wi.cell? ⟨w.heap.size, 1, none⟩ = some (.int .u64 (n : Int)) ∧ wi.cell? ⟨w.heap.size, 2, none⟩ = some (.string t) ∧ wi.cell? ⟨w.heap.size, 3, none⟩ = some (.slice A l c) ∧
    wi.cell? ⟨g9, 0, none⟩ = some (.int .u8 (k : Int)) ∧ wi.cell? ⟨g9, 1, none⟩ = some (.int .u64 (n : Int)) ∧ wi.cell? ⟨g9, 2, none⟩ = some (.string t) ∧ wi.cell? ⟨g9, 3, none⟩ = some (.slice A9 l9 c9) ∧ wi.cell? ⟨gr, 0, none⟩ = some (.slice Ar lr cr) ∧ wi.cell? ⟨gr, 1, none⟩ = some (.bool spr) := by
  obtain ⟨a0, a1, a2, a3, _⟩ := h.b4.all
  obtain ⟨b0, b1, b2, b3, _⟩ := h.b9.all
  obtain ⟨c0, c1, _⟩ := h.r.cells
  exact ⟨a0, a1, a2, a3, b0, b1, b2, b3, c0, c1⟩
theorem done_B {X : Nat → Prop} {w : World} {g : Nat} {ls : List V} {A : Option Addr} {l c : Nat} {sp : Bool} (h : Fld 75 X w g ls A l c sp) (n : Int) : Calls Tryd.prog 17 #[.pointer (some ⟨g, 0, none⟩), .int .i64 n] w fun e w' => e = .returned (.int .i64 (doneN ls sp n)) ∧ Below w.heap.size w w' := (done_any h n).mono fun _ _ hh => ⟨hh.1, hh.2 ▸ Below.refl _ _⟩
theorem xdone_B {X : Nat → Prop} {w : World} {g : Nat} {ls : List V} {A : Option Addr} {l c : Nat} {sp : Bool} (h : Fld 48 X w g ls A l c sp) (n : Int) : Calls Tryd.prog 18 #[.pointer (some ⟨g, 0, none⟩), .int .i64 n] w fun e w' => e = .returned (.int .i64 (doneN ls sp n)) ∧ Below w.heap.size w w' := (xdone_any h n).mono fun _ _ hh => ⟨hh.1, hh.2 ▸ Below.refl _ _⟩

set_option maxHeartbeats 8000000 in
theorem walk (k n : Nat) (t : ByteArray) (ks : List V) (A : Option Addr) (l c code : Nat) (name : ByteArray) (qs : List AQ) (Aq : Option Addr) (nq cq : Nat) (w : World) (hTab : Tab w) (hN : bulk (.mk k n t ks) ≤ 1048576) (hk : k < 256) (hn : n < 18446744073709551616) (hK : Kd w ks A l c) (hQ : Qs w Aq nq qs) :
    Calls Tryd.prog 3 #[.agg #[.int .u8 (k : Int), .int .u64 (n : Int), .string t, .slice A l c], .int .u64 (code : Int), .string name, .slice Aq nq cq] w (GivesB true w) := by
  have hb0 : Below w.heap.size w (w.alloc (.cells #[.int .u8 (k : Int), .int .u64 (n : Int), .string t, .slice A l c] 25)) := (Below.refl _ _).alloc (Nat.le_refl _) _
  have HX := Lib.hid (Box.new w (.int .u8 (k : Int)) (.int .u64 (n : Int)) (.string t) (.slice A l c))
  have HB := Lib.hid hb0
  have HT := Lib.hid hTab
  have HN := Lib.hid hN
  have HK := Lib.hid hk
  have HNN := Lib.hid hn
  have HQ := Lib.hid hQ
  have HKD := Lib.hid (hK.call hb0)
  have hll := large_any [.mk k n t ks] _ 1 1 _ (by simp only [bulkL]; omega) (kid1 (t := t) hk hn (hK.call hb0))
  simp only [World.size_alloc] at hll
  obtain ⟨big, hbig⟩ : ∃ q, decide (8192 < bigL [.mk k n t ks]) = q := ⟨_, rfl⟩
  rw [hbig] at hll
  have HL := Lib.hid hll
  clear hb0 hTab hN hk hn hK hll hbig hQ
  go_enter Tryd.func3, Tryd.ntmps3
  go_wp2_with fail
  (with_reducible refine HL.out.mono ?_)
  rintro e w0 ⟨rfl, hb0⟩
  have hnx := below_next ((Below.refl _ _).alloc (Nat.le_refl _) (.cells #[.int .u8 (k : Int), .int .u64 (n : Int), .string t, .slice A l c] 25)) hb0
  have HX0 := Lib.hid (HX.out.call hnx)
  have HB0 := Lib.hid (below_next HB.out hnx)
  have HKD0 := Lib.hid (HKD.out.call hnx)
  clear hb0 hnx HX HB HKD HL
  cases big with
  | true =>
    go_wp2_with fail
    (with_reducible refine (works7_any _ (HT.out.call HB0.out)).mono ?_)
    rintro e w1 ⟨rfl, hb1⟩
    go_wp2_with fail
    go_ret
    exact ⟨rfl, below_next HB0.out hb1⟩
  | false =>
  by_cases h60 : 60 < nq
  · have hd60 : decide (60 < (nq : Int)) = true := decide_eq_true (by omega)
    clear h60
    go_wp2_with fail
    (with_reducible refine (works7_any _ (HT.out.call HB0.out)).mono ?_)
    rintro e w1 ⟨rfl, hb1⟩
    go_wp2_with fail
    go_ret
    exact ⟨rfl, below_next HB0.out hb1⟩
  have hd60 : decide (60 < (nq : Int)) = false := decide_eq_false (by omega)
  have H60 := Lib.hid (show nq ≤ 60 by omega)
  clear h60
  obtain ⟨x0, x1, x2, x3, _⟩ := HX0.out.all
  go_wp2_with fail
  (with_reducible refine (xcopy_any k n t ks A l c _ (by have := HN.out; simp only [bulk] at this; omega) HKD0.out).mono ?_)
  rintro e w1 ⟨A9, l9, c9, rfl, hN9, hb1⟩
  have hS : SP w (w1.alloc (.cells #[.int .u8 (k : Int), .int .u64 (n : Int), .string t, .slice A9 l9 c9] 25)) k n t ks A l c w1.heap.size A9 l9 c9 :=
    ⟨(HX0.out.call hb1).alloc _, Box.new w1 _ _ _ _, (HKD0.out.call hb1).alloc _, hN9.kd.alloc _, (below_next HB0.out hb1).alloc (below_next HB0.out hb1).size _⟩
  have HS := Lib.hid hS
  clear hS hb1 hN9 HX0 HB0 HKD0 x0 x1 x2 x3 hd60
  go_wp2_with fail
  (with_reducible refine (new_any k n t ks A9 l9 c9 code name _ (by have := HN.out; simp only [bulk] at this; omega) (by have := HN.out; simp only [bulk] at this; omega) HNN.out HS.out.kd9 (HT.out.call HS.out.low)).mono ?_)
  have HXN := Lib.hid (fun w => xnew_any k n t ks A l c code name w HN.out HNN.out)
  cases hnw : newR (.mk k n t ks) code name with
  | none =>
    rw [hnw] at HXN
    clear hnw
    rintro e w2 ⟨rfl, hb2⟩
    have HS2 := Lib.hid (HS.out.call hb2)
    clear hb2 HS
    obtain ⟨x0, x1, x2, x3, _⟩ := HS2.out.b4.all
    go_wp2_with fail
    (with_reducible refine (HXN.out _ HS2.out.kd).mono ?_)
    rintro e w3 ⟨rfl, hb3⟩
    have HS3 := Lib.hid (HS2.out.call hb3)
    clear hb3 HS2 x0 x1 x2 x3 HXN
    by_cases hq0 : 0 < nq
    · have hd0 : decide ((0 : Int) < (nq : Int)) = true := decide_eq_true (by omega)
      go_wp2_with fail
      refine wp_loop_rounds 1 ?_
      rw [rounds_succ]
      go_upto_region 13 with fail
      refine wp_region_held_drew (S := fun wx => SP w wx k n t ks A l c w1.heap.size A9 l9 c9) (by kernel_rfl) (by exact HS3.out.call (Below.refl _ _).drew) (fun hHeld => ?_)
      (refine wpAnyH_take (i := 0) (oi := ⟨some 74, _, _, _, _, _⟩) (v := ?_) rfl (by kernel_rfl) (by kernel_rfl) (by kernel_rfl) (fun _ _ _ h => h) (Or.inl ⟨by kernel_rfl, ?_⟩) (by assumption) ?_; rotate_left 1; (· intro wx hSw; (try dsimp only at hSw); obtain ⟨p0, p1, p2, p3, q0, q1, q2, q3⟩ := SP.cells hSw; go_simp; (try with_reducible rfl)))
      try simp only [Act.put, List.setIfInBounds_toArray, List.set_cons_zero, List.set_cons_succ]
      (refine wpAnyH_take (i := 1) (oi := ⟨some 75, _, _, _, _, _⟩) (v := ?_) rfl (by kernel_rfl) (by kernel_rfl) (by kernel_rfl) (fun _ _ _ h => h) (Or.inl ⟨by kernel_rfl, ?_⟩) (by assumption) ?_; rotate_left 1; (· intro wx hSw; (try dsimp only at hSw); obtain ⟨p0, p1, p2, p3, q0, q1, q2, q3⟩ := SP.cells hSw; go_simp; (try with_reducible rfl)))
      try simp only [Act.put, List.setIfInBounds_toArray, List.set_cons_zero, List.set_cons_succ]
      (refine wpAnyH_take (i := 2) (oi := ⟨some 76, _, _, _, _, _⟩) (v := ?_) rfl (by kernel_rfl) (by kernel_rfl) (by kernel_rfl) (fun _ _ _ h => h) (Or.inl ⟨by kernel_rfl, ?_⟩) (by assumption) ?_; rotate_left 1; (· intro wx hSw; (try dsimp only at hSw); obtain ⟨p0, p1, p2, p3, q0, q1, q2, q3⟩ := SP.cells hSw; go_simp; (try with_reducible rfl)))
      try simp only [Act.put, List.setIfInBounds_toArray, List.set_cons_zero, List.set_cons_succ]
      (refine wpAnyH_take (i := 3) (oi := ⟨some 77, _, _, _, _, _⟩) (v := undef) rfl (by kernel_rfl) (by kernel_rfl) (by kernel_rfl) (fun _ _ _ h => h) (Or.inr ⟨by kernel_rfl, rfl⟩) (by assumption) ?_)
      try simp only [Act.put, List.setIfInBounds_toArray, List.set_cons_zero, List.set_cons_succ]
      (refine wpAnyH_take (i := 4) (oi := ⟨some 78, _, _, _, _, _⟩) (v := undef) rfl (by kernel_rfl) (by kernel_rfl) (by kernel_rfl) (fun _ _ _ h => h) (Or.inr ⟨by kernel_rfl, rfl⟩) (by assumption) ?_)
      try simp only [Act.put, List.setIfInBounds_toArray, List.set_cons_zero, List.set_cons_succ]
      (refine wpAnyH_take (i := 5) (oi := ⟨some 79, _, _, _, _, _⟩) (v := undef) rfl (by kernel_rfl) (by kernel_rfl) (by kernel_rfl) (fun _ _ _ h => h) (Or.inr ⟨by kernel_rfl, rfl⟩) (by assumption) ?_)
      try simp only [Act.put, List.setIfInBounds_toArray, List.set_cons_zero, List.set_cons_succ]
      (refine wpAnyH_take (i := 6) (oi := ⟨some 80, _, _, _, _, _⟩) (v := undef) rfl (by kernel_rfl) (by kernel_rfl) (by kernel_rfl) (fun _ _ _ h => h) (Or.inr ⟨by kernel_rfl, rfl⟩) (by assumption) ?_)
      try simp only [Act.put, List.setIfInBounds_toArray, List.set_cons_zero, List.set_cons_succ]
      (refine wpAnyH_take (i := 7) (oi := ⟨some 81, _, _, _, _, _⟩) (v := undef) rfl (by kernel_rfl) (by kernel_rfl) (by kernel_rfl) (fun _ _ _ h => h) (Or.inr ⟨by kernel_rfl, rfl⟩) (by assumption) ?_)
      try simp only [Act.put, List.setIfInBounds_toArray, List.set_cons_zero, List.set_cons_succ]
      (refine wpAnyH_take (i := 8) (oi := ⟨some 82, _, _, _, _, _⟩) (v := undef) rfl (by kernel_rfl) (by kernel_rfl) (by kernel_rfl) (fun _ _ _ h => h) (Or.inr ⟨by kernel_rfl, rfl⟩) (by assumption) ?_)
      try simp only [Act.put, List.setIfInBounds_toArray, List.set_cons_zero, List.set_cons_succ]
      (refine wpAnyH_take (i := 9) (oi := ⟨some 83, _, _, _, _, _⟩) (v := undef) rfl (by kernel_rfl) (by kernel_rfl) (by kernel_rfl) (fun _ _ _ h => h) (Or.inr ⟨by kernel_rfl, rfl⟩) (by assumption) ?_)
      try simp only [Act.put, List.setIfInBounds_toArray, List.set_cons_zero, List.set_cons_succ]
      (refine wpAnyH_take (i := 10) (oi := ⟨some 84, _, _, _, _, _⟩) (v := undef) rfl (by kernel_rfl) (by kernel_rfl) (by kernel_rfl) (fun _ _ _ h => h) (Or.inr ⟨by kernel_rfl, rfl⟩) (by assumption) ?_)
      try simp only [Act.put, List.setIfInBounds_toArray, List.set_cons_zero, List.set_cons_succ]
      (refine wpAnyH_take (i := 11) (oi := ⟨some 85, _, _, _, _, _⟩) (v := undef) rfl (by kernel_rfl) (by kernel_rfl) (by kernel_rfl) (fun _ _ _ h => h) (Or.inr ⟨by kernel_rfl, rfl⟩) (by assumption) ?_)
      try simp only [Act.put, List.setIfInBounds_toArray, List.set_cons_zero, List.set_cons_succ]
      (refine wpAnyH_take (i := 12) (oi := ⟨some 86, _, _, _, _, _⟩) (v := undef) rfl (by kernel_rfl) (by kernel_rfl) (by kernel_rfl) (fun _ _ _ h => h) (Or.inr ⟨by kernel_rfl, rfl⟩) (by assumption) ?_)
      try simp only [Act.put, List.setIfInBounds_toArray, List.set_cons_zero, List.set_cons_succ]
      (refine wpAnyH_take (i := 13) (oi := ⟨some 87, _, _, _, _, _⟩) (v := undef) rfl (by kernel_rfl) (by kernel_rfl) (by kernel_rfl) (fun _ _ _ h => h) (Or.inr ⟨by kernel_rfl, rfl⟩) (by assumption) ?_)
      try simp only [Act.put, List.setIfInBounds_toArray, List.set_cons_zero, List.set_cons_succ]
      (refine wpAnyH_take (i := 14) (oi := ⟨some 88, _, _, _, _, _⟩) (v := undef) rfl (by kernel_rfl) (by kernel_rfl) (by kernel_rfl) (fun _ _ _ h => h) (Or.inr ⟨by kernel_rfl, rfl⟩) (by assumption) ?_)
      try simp only [Act.put, List.setIfInBounds_toArray, List.set_cons_zero, List.set_cons_succ]
      (refine wpAnyH_take (i := 15) (oi := ⟨some 89, _, _, _, _, _⟩) (v := undef) rfl (by kernel_rfl) (by kernel_rfl) (by kernel_rfl) (fun _ _ _ h => h) (Or.inr ⟨by kernel_rfl, rfl⟩) (by assumption) ?_)
      try simp only [Act.put, List.setIfInBounds_toArray, List.set_cons_zero, List.set_cons_succ]
      (refine wpAnyH_take (i := 16) (oi := ⟨some 90, _, _, _, _, _⟩) (v := undef) rfl (by kernel_rfl) (by kernel_rfl) (by kernel_rfl) (fun _ _ _ h => h) (Or.inr ⟨by kernel_rfl, rfl⟩) (by assumption) ?_)
      try simp only [Act.put, List.setIfInBounds_toArray, List.set_cons_zero, List.set_cons_succ]
      (refine wpAnyH_take (i := 17) (oi := ⟨some 91, _, _, _, _, _⟩) (v := undef) rfl (by kernel_rfl) (by kernel_rfl) (by kernel_rfl) (fun _ _ _ h => h) (Or.inr ⟨by kernel_rfl, rfl⟩) (by assumption) ?_)
      try simp only [Act.put, List.setIfInBounds_toArray, List.set_cons_zero, List.set_cons_succ]
      (refine wpAnyH_take (i := 18) (oi := ⟨some 92, _, _, _, _, _⟩) (v := ?_) rfl (by kernel_rfl) (by kernel_rfl) (by kernel_rfl) (fun _ _ _ h => h) (Or.inl ⟨by kernel_rfl, ?_⟩) (by assumption) ?_; rotate_left 1; (· intro wx hSw; (try dsimp only at hSw); obtain ⟨p0, p1, p2, p3, q0, q1, q2, q3⟩ := SP.cells hSw; go_simp; (try with_reducible rfl)))
      try simp only [Act.put, List.setIfInBounds_toArray, List.set_cons_zero, List.set_cons_succ]
      (refine wpAnyH_take (i := 19) (oi := ⟨some 93, _, _, _, _, _⟩) (v := ?_) rfl (by kernel_rfl) (by kernel_rfl) (by kernel_rfl) (fun _ _ _ h => h) (Or.inl ⟨by kernel_rfl, ?_⟩) (by assumption) ?_; rotate_left 1; (· intro wx hSw; (try dsimp only at hSw); obtain ⟨p0, p1, p2, p3, q0, q1, q2, q3⟩ := SP.cells hSw; go_simp; (try with_reducible rfl)))
      try simp only [Act.put, List.setIfInBounds_toArray, List.set_cons_zero, List.set_cons_succ]
      (refine wpAnyH_take (i := 20) (oi := ⟨some 94, _, _, _, _, _⟩) (v := ?_) rfl (by kernel_rfl) (by kernel_rfl) (by kernel_rfl) (fun _ _ _ h => h) (Or.inl ⟨by kernel_rfl, ?_⟩) (by assumption) ?_; rotate_left 1; (· intro wx hSw; (try dsimp only at hSw); obtain ⟨p0, p1, p2, p3, q0, q1, q2, q3⟩ := SP.cells hSw; go_simp; (try with_reducible rfl)))
      try simp only [Act.put, List.setIfInBounds_toArray, List.set_cons_zero, List.set_cons_succ]
      (refine wpAnyH_take (i := 21) (oi := ⟨some 95, _, _, _, _, _⟩) (v := ?_) rfl (by kernel_rfl) (by kernel_rfl) (by kernel_rfl) (fun _ _ _ h => h) (Or.inl ⟨by kernel_rfl, ?_⟩) (by assumption) ?_; rotate_left 1; (· intro wx hSw; (try dsimp only at hSw); obtain ⟨p0, p1, p2, p3, q0, q1, q2, q3⟩ := SP.cells hSw; go_simp; (try with_reducible rfl)))
      try simp only [Act.put, List.setIfInBounds_toArray, List.set_cons_zero, List.set_cons_succ]
      (refine wpAnyH_ready (rs := [22]) (by kernel_rfl) (by simp) ?_; refine AllReadyH.cons (o := ⟨some 96, _, _, _, _, _⟩) rfl (fun K hK => ?_) AllReadyH.nil; go_simp; (go_at_call 19; (with_reducible refine (fplays_same (by have := HN.out; simp only [bulk] at this; omega) HK.out HNN.out hHeld.kd9 hHeld.kd).mono ?_); rintro e wy ⟨rfl, hby⟩); go_wp2_with fail; refine hK.out _ _ ?_ (fun hHeld => ?_); (· exact hHeld.call hby); clear hK K)
      try simp only [Act.put, List.setIfInBounds_toArray, List.set_cons_zero, List.set_cons_succ]
      (refine wpAnyH_take (i := 23) (oi := ⟨some 97, _, _, _, _, _⟩) (v := ?_) rfl (by kernel_rfl) (by kernel_rfl) (by kernel_rfl) (fun _ _ _ h => h) (Or.inl ⟨by kernel_rfl, ?_⟩) (by assumption) ?_; rotate_left 1; (· intro wx hSw; (try dsimp only at hSw); obtain ⟨p0, p1, p2, p3, q0, q1, q2, q3⟩ := SP.cells hSw; go_simp; (try with_reducible rfl)))
      try simp only [Act.put, List.setIfInBounds_toArray, List.set_cons_zero, List.set_cons_succ]
      (refine wpAnyH_take (i := 24) (oi := ⟨some 98, _, _, _, _, _⟩) (v := ?_) rfl (by kernel_rfl) (by kernel_rfl) (by kernel_rfl) (fun _ _ _ h => h) (Or.inl ⟨by kernel_rfl, ?_⟩) (by assumption) ?_; rotate_left 1; (· intro wx hSw; (try dsimp only at hSw); obtain ⟨p0, p1, p2, p3, q0, q1, q2, q3⟩ := SP.cells hSw; go_simp; (try with_reducible rfl)))
      try simp only [Act.put, List.setIfInBounds_toArray, List.set_cons_zero, List.set_cons_succ]
      (refine wpAnyH_ready (rs := [25]) (by kernel_rfl) (by simp) ?_; refine AllReadyH.cons (o := ⟨some 99, _, _, _, _, _⟩) rfl (fun K hK => ?_) AllReadyH.nil; go_simp; (go_at_call 10; (with_reducible refine (works7_any _ (HT.out.call hHeld.low)).mono ?_); rintro e wz ⟨rfl, hbz⟩); go_wp2_with fail; refine hK.out _ _ ?_ (fun hHeld => ?_); (· exact hHeld.call hbz); clear hK K)
      try simp only [Act.put, List.setIfInBounds_toArray, List.set_cons_zero, List.set_cons_succ]
      (refine wpAnyH_take (i := 26) (oi := ⟨some 100, _, _, _, _, _⟩) (v := ?_) rfl (by kernel_rfl) (by kernel_rfl) (by kernel_rfl) (fun _ _ _ h => h) (Or.inl ⟨by kernel_rfl, ?_⟩) (by assumption) ?_; rotate_left 1; (· intro wx hSw; (try dsimp only at hSw); obtain ⟨p0, p1, p2, p3, q0, q1, q2, q3⟩ := SP.cells hSw; go_simp; (try with_reducible rfl)))
      try simp only [Act.put, List.setIfInBounds_toArray, List.set_cons_zero, List.set_cons_succ]
      (refine wpAnyH_take (i := 27) (oi := ⟨some 8, _, _, _, _, _⟩) (v := ?_) rfl (by kernel_rfl) (by kernel_rfl) (by kernel_rfl) (fun _ _ _ h => h) (Or.inl ⟨by kernel_rfl, ?_⟩) (by assumption) ?_; rotate_left 1; (· intro wx hSw; (try dsimp only at hSw); obtain ⟨p0, p1, p2, p3, q0, q1, q2, q3⟩ := SP.cells hSw; go_simp; (try with_reducible rfl)))
      try simp only [Act.put, List.setIfInBounds_toArray, List.set_cons_zero, List.set_cons_succ]
      refine wpAnyH_done (by kernel_rfl) ?_ _
      go_wp2
      go_ret
      exact ⟨rfl, SP.low (by assumption)⟩
    · obtain rfl : nq = 0 := by omega
      go_wp2_with fail
      refine wp_loop_rounds 1 ?_
      rw [rounds_succ]
      go_upto_region 13 with fail
      refine wp_region_held_drew (S := fun wx => SP w wx k n t ks A l c w1.heap.size A9 l9 c9) (by kernel_rfl) (by exact HS3.out.call (Below.refl _ _).drew) (fun hHeld => ?_)
      (refine wpAnyH_take (i := 0) (oi := ⟨some 74, _, _, _, _, _⟩) (v := ?_) rfl (by kernel_rfl) (by kernel_rfl) (by kernel_rfl) (fun _ _ _ h => h) (Or.inl ⟨by kernel_rfl, ?_⟩) (by assumption) ?_; rotate_left 1; (· intro wx hSw; (try dsimp only at hSw); obtain ⟨p0, p1, p2, p3, q0, q1, q2, q3⟩ := SP.cells hSw; go_simp; (try with_reducible rfl)))
      try simp only [Act.put, List.setIfInBounds_toArray, List.set_cons_zero, List.set_cons_succ]
      (refine wpAnyH_take (i := 1) (oi := ⟨some 75, _, _, _, _, _⟩) (v := ?_) rfl (by kernel_rfl) (by kernel_rfl) (by kernel_rfl) (fun _ _ _ h => h) (Or.inl ⟨by kernel_rfl, ?_⟩) (by assumption) ?_; rotate_left 1; (· intro wx hSw; (try dsimp only at hSw); obtain ⟨p0, p1, p2, p3, q0, q1, q2, q3⟩ := SP.cells hSw; go_simp; (try with_reducible rfl)))
      try simp only [Act.put, List.setIfInBounds_toArray, List.set_cons_zero, List.set_cons_succ]
      (refine wpAnyH_take (i := 2) (oi := ⟨some 76, _, _, _, _, _⟩) (v := ?_) rfl (by kernel_rfl) (by kernel_rfl) (by kernel_rfl) (fun _ _ _ h => h) (Or.inl ⟨by kernel_rfl, ?_⟩) (by assumption) ?_; rotate_left 1; (· intro wx hSw; (try dsimp only at hSw); obtain ⟨p0, p1, p2, p3, q0, q1, q2, q3⟩ := SP.cells hSw; go_simp; (try with_reducible rfl)))
      try simp only [Act.put, List.setIfInBounds_toArray, List.set_cons_zero, List.set_cons_succ]
      (refine wpAnyH_take (i := 3) (oi := ⟨some 77, _, _, _, _, _⟩) (v := undef) rfl (by kernel_rfl) (by kernel_rfl) (by kernel_rfl) (fun _ _ _ h => h) (Or.inr ⟨by kernel_rfl, rfl⟩) (by assumption) ?_)
      try simp only [Act.put, List.setIfInBounds_toArray, List.set_cons_zero, List.set_cons_succ]
      (refine wpAnyH_take (i := 4) (oi := ⟨some 78, _, _, _, _, _⟩) (v := undef) rfl (by kernel_rfl) (by kernel_rfl) (by kernel_rfl) (fun _ _ _ h => h) (Or.inr ⟨by kernel_rfl, rfl⟩) (by assumption) ?_)
      try simp only [Act.put, List.setIfInBounds_toArray, List.set_cons_zero, List.set_cons_succ]
      (refine wpAnyH_take (i := 5) (oi := ⟨some 79, _, _, _, _, _⟩) (v := undef) rfl (by kernel_rfl) (by kernel_rfl) (by kernel_rfl) (fun _ _ _ h => h) (Or.inr ⟨by kernel_rfl, rfl⟩) (by assumption) ?_)
      try simp only [Act.put, List.setIfInBounds_toArray, List.set_cons_zero, List.set_cons_succ]
      (refine wpAnyH_take (i := 6) (oi := ⟨some 80, _, _, _, _, _⟩) (v := undef) rfl (by kernel_rfl) (by kernel_rfl) (by kernel_rfl) (fun _ _ _ h => h) (Or.inr ⟨by kernel_rfl, rfl⟩) (by assumption) ?_)
      try simp only [Act.put, List.setIfInBounds_toArray, List.set_cons_zero, List.set_cons_succ]
      (refine wpAnyH_take (i := 7) (oi := ⟨some 81, _, _, _, _, _⟩) (v := undef) rfl (by kernel_rfl) (by kernel_rfl) (by kernel_rfl) (fun _ _ _ h => h) (Or.inr ⟨by kernel_rfl, rfl⟩) (by assumption) ?_)
      try simp only [Act.put, List.setIfInBounds_toArray, List.set_cons_zero, List.set_cons_succ]
      (refine wpAnyH_take (i := 8) (oi := ⟨some 82, _, _, _, _, _⟩) (v := undef) rfl (by kernel_rfl) (by kernel_rfl) (by kernel_rfl) (fun _ _ _ h => h) (Or.inr ⟨by kernel_rfl, rfl⟩) (by assumption) ?_)
      try simp only [Act.put, List.setIfInBounds_toArray, List.set_cons_zero, List.set_cons_succ]
      (refine wpAnyH_take (i := 9) (oi := ⟨some 83, _, _, _, _, _⟩) (v := undef) rfl (by kernel_rfl) (by kernel_rfl) (by kernel_rfl) (fun _ _ _ h => h) (Or.inr ⟨by kernel_rfl, rfl⟩) (by assumption) ?_)
      try simp only [Act.put, List.setIfInBounds_toArray, List.set_cons_zero, List.set_cons_succ]
      (refine wpAnyH_take (i := 10) (oi := ⟨some 84, _, _, _, _, _⟩) (v := undef) rfl (by kernel_rfl) (by kernel_rfl) (by kernel_rfl) (fun _ _ _ h => h) (Or.inr ⟨by kernel_rfl, rfl⟩) (by assumption) ?_)
      try simp only [Act.put, List.setIfInBounds_toArray, List.set_cons_zero, List.set_cons_succ]
      (refine wpAnyH_take (i := 11) (oi := ⟨some 85, _, _, _, _, _⟩) (v := undef) rfl (by kernel_rfl) (by kernel_rfl) (by kernel_rfl) (fun _ _ _ h => h) (Or.inr ⟨by kernel_rfl, rfl⟩) (by assumption) ?_)
      try simp only [Act.put, List.setIfInBounds_toArray, List.set_cons_zero, List.set_cons_succ]
      (refine wpAnyH_take (i := 12) (oi := ⟨some 86, _, _, _, _, _⟩) (v := undef) rfl (by kernel_rfl) (by kernel_rfl) (by kernel_rfl) (fun _ _ _ h => h) (Or.inr ⟨by kernel_rfl, rfl⟩) (by assumption) ?_)
      try simp only [Act.put, List.setIfInBounds_toArray, List.set_cons_zero, List.set_cons_succ]
      (refine wpAnyH_take (i := 13) (oi := ⟨some 87, _, _, _, _, _⟩) (v := undef) rfl (by kernel_rfl) (by kernel_rfl) (by kernel_rfl) (fun _ _ _ h => h) (Or.inr ⟨by kernel_rfl, rfl⟩) (by assumption) ?_)
      try simp only [Act.put, List.setIfInBounds_toArray, List.set_cons_zero, List.set_cons_succ]
      (refine wpAnyH_take (i := 14) (oi := ⟨some 88, _, _, _, _, _⟩) (v := undef) rfl (by kernel_rfl) (by kernel_rfl) (by kernel_rfl) (fun _ _ _ h => h) (Or.inr ⟨by kernel_rfl, rfl⟩) (by assumption) ?_)
      try simp only [Act.put, List.setIfInBounds_toArray, List.set_cons_zero, List.set_cons_succ]
      (refine wpAnyH_take (i := 15) (oi := ⟨some 89, _, _, _, _, _⟩) (v := undef) rfl (by kernel_rfl) (by kernel_rfl) (by kernel_rfl) (fun _ _ _ h => h) (Or.inr ⟨by kernel_rfl, rfl⟩) (by assumption) ?_)
      try simp only [Act.put, List.setIfInBounds_toArray, List.set_cons_zero, List.set_cons_succ]
      (refine wpAnyH_take (i := 16) (oi := ⟨some 90, _, _, _, _, _⟩) (v := undef) rfl (by kernel_rfl) (by kernel_rfl) (by kernel_rfl) (fun _ _ _ h => h) (Or.inr ⟨by kernel_rfl, rfl⟩) (by assumption) ?_)
      try simp only [Act.put, List.setIfInBounds_toArray, List.set_cons_zero, List.set_cons_succ]
      (refine wpAnyH_take (i := 17) (oi := ⟨some 91, _, _, _, _, _⟩) (v := undef) rfl (by kernel_rfl) (by kernel_rfl) (by kernel_rfl) (fun _ _ _ h => h) (Or.inr ⟨by kernel_rfl, rfl⟩) (by assumption) ?_)
      try simp only [Act.put, List.setIfInBounds_toArray, List.set_cons_zero, List.set_cons_succ]
      (refine wpAnyH_take (i := 18) (oi := ⟨some 92, _, _, _, _, _⟩) (v := ?_) rfl (by kernel_rfl) (by kernel_rfl) (by kernel_rfl) (fun _ _ _ h => h) (Or.inl ⟨by kernel_rfl, ?_⟩) (by assumption) ?_; rotate_left 1; (· intro wx hSw; (try dsimp only at hSw); obtain ⟨p0, p1, p2, p3, q0, q1, q2, q3⟩ := SP.cells hSw; go_simp; (try with_reducible rfl)))
      try simp only [Act.put, List.setIfInBounds_toArray, List.set_cons_zero, List.set_cons_succ]
      (refine wpAnyH_take (i := 19) (oi := ⟨some 93, _, _, _, _, _⟩) (v := ?_) rfl (by kernel_rfl) (by kernel_rfl) (by kernel_rfl) (fun _ _ _ h => h) (Or.inl ⟨by kernel_rfl, ?_⟩) (by assumption) ?_; rotate_left 1; (· intro wx hSw; (try dsimp only at hSw); obtain ⟨p0, p1, p2, p3, q0, q1, q2, q3⟩ := SP.cells hSw; go_simp; (try with_reducible rfl)))
      try simp only [Act.put, List.setIfInBounds_toArray, List.set_cons_zero, List.set_cons_succ]
      (refine wpAnyH_take (i := 20) (oi := ⟨some 94, _, _, _, _, _⟩) (v := ?_) rfl (by kernel_rfl) (by kernel_rfl) (by kernel_rfl) (fun _ _ _ h => h) (Or.inl ⟨by kernel_rfl, ?_⟩) (by assumption) ?_; rotate_left 1; (· intro wx hSw; (try dsimp only at hSw); obtain ⟨p0, p1, p2, p3, q0, q1, q2, q3⟩ := SP.cells hSw; go_simp; (try with_reducible rfl)))
      try simp only [Act.put, List.setIfInBounds_toArray, List.set_cons_zero, List.set_cons_succ]
      (refine wpAnyH_take (i := 21) (oi := ⟨some 95, _, _, _, _, _⟩) (v := ?_) rfl (by kernel_rfl) (by kernel_rfl) (by kernel_rfl) (fun _ _ _ h => h) (Or.inl ⟨by kernel_rfl, ?_⟩) (by assumption) ?_; rotate_left 1; (· intro wx hSw; (try dsimp only at hSw); obtain ⟨p0, p1, p2, p3, q0, q1, q2, q3⟩ := SP.cells hSw; go_simp; (try with_reducible rfl)))
      try simp only [Act.put, List.setIfInBounds_toArray, List.set_cons_zero, List.set_cons_succ]
      (refine wpAnyH_ready (rs := [22]) (by kernel_rfl) (by simp) ?_; refine AllReadyH.cons (o := ⟨some 96, _, _, _, _, _⟩) rfl (fun K hK => ?_) AllReadyH.nil; go_simp; (go_at_call 19; (with_reducible refine (fplays_same (by have := HN.out; simp only [bulk] at this; omega) HK.out HNN.out hHeld.kd9 hHeld.kd).mono ?_); rintro e wy ⟨rfl, hby⟩); go_wp2_with fail; refine hK.out _ _ ?_ (fun hHeld => ?_); (· exact hHeld.call hby); clear hK K)
      try simp only [Act.put, List.setIfInBounds_toArray, List.set_cons_zero, List.set_cons_succ]
      (refine wpAnyH_take (i := 23) (oi := ⟨some 97, _, _, _, _, _⟩) (v := ?_) rfl (by kernel_rfl) (by kernel_rfl) (by kernel_rfl) (fun _ _ _ h => h) (Or.inl ⟨by kernel_rfl, ?_⟩) (by assumption) ?_; rotate_left 1; (· intro wx hSw; (try dsimp only at hSw); obtain ⟨p0, p1, p2, p3, q0, q1, q2, q3⟩ := SP.cells hSw; go_simp; (try with_reducible rfl)))
      try simp only [Act.put, List.setIfInBounds_toArray, List.set_cons_zero, List.set_cons_succ]
      (refine wpAnyH_take (i := 24) (oi := ⟨some 98, _, _, _, _, _⟩) (v := ?_) rfl (by kernel_rfl) (by kernel_rfl) (by kernel_rfl) (fun _ _ _ h => h) (Or.inl ⟨by kernel_rfl, ?_⟩) (by assumption) ?_; rotate_left 1; (· intro wx hSw; (try dsimp only at hSw); obtain ⟨p0, p1, p2, p3, q0, q1, q2, q3⟩ := SP.cells hSw; go_simp; (try with_reducible rfl)))
      try simp only [Act.put, List.setIfInBounds_toArray, List.set_cons_zero, List.set_cons_succ]
      (refine wpAnyH_ready (rs := [25]) (by kernel_rfl) (by simp) ?_; refine AllReadyH.cons (o := ⟨some 99, _, _, _, _, _⟩) rfl (fun K hK => ?_) AllReadyH.nil; go_simp; (go_at_call 10; (with_reducible refine (works7_any _ (HT.out.call hHeld.low)).mono ?_); rintro e wz ⟨rfl, hbz⟩); go_wp2_with fail; refine hK.out _ _ ?_ (fun hHeld => ?_); (· exact hHeld.call hbz); clear hK K)
      try simp only [Act.put, List.setIfInBounds_toArray, List.set_cons_zero, List.set_cons_succ]
      (refine wpAnyH_take (i := 26) (oi := ⟨some 100, _, _, _, _, _⟩) (v := ?_) rfl (by kernel_rfl) (by kernel_rfl) (by kernel_rfl) (fun _ _ _ h => h) (Or.inl ⟨by kernel_rfl, ?_⟩) (by assumption) ?_; rotate_left 1; (· intro wx hSw; (try dsimp only at hSw); obtain ⟨p0, p1, p2, p3, q0, q1, q2, q3⟩ := SP.cells hSw; go_simp; (try with_reducible rfl)))
      try simp only [Act.put, List.setIfInBounds_toArray, List.set_cons_zero, List.set_cons_succ]
      (refine wpAnyH_take (i := 27) (oi := ⟨some 8, _, _, _, _, _⟩) (v := ?_) rfl (by kernel_rfl) (by kernel_rfl) (by kernel_rfl) (fun _ _ _ h => h) (Or.inl ⟨by kernel_rfl, ?_⟩) (by assumption) ?_; rotate_left 1; (· intro wx hSw; (try dsimp only at hSw); obtain ⟨p0, p1, p2, p3, q0, q1, q2, q3⟩ := SP.cells hSw; go_simp; (try with_reducible rfl)))
      try simp only [Act.put, List.setIfInBounds_toArray, List.set_cons_zero, List.set_cons_succ]
      refine wpAnyH_done (by kernel_rfl) ?_ _
      go_wp2
      go_ret
      exact ⟨rfl, SP.low (by assumption)⟩
  | some ls =>
    rw [hnw] at HXN
    have HML := Lib.hid (show mayL ls = true by
      obtain ⟨n', t', d, n'', t'', e, hok, _⟩ := newR_some' hnw
      exact newR_may' hnw)
    have HL : Hid (bulkL ls ≤ 1048576) := Lib.hid (by
      have := HN.out
      obtain ⟨n', t', d, n'', t'', e, _, _⟩ := newR_some' hnw
      injection e with _ _ _ e
      subst e
      simp only [bulkL, bulk] at this
      omega)
    clear hnw
    rintro e w2 ⟨g, Af, lf, cf, rfl, hg, hF, hgs, hb2⟩
    have HS2 := Lib.hid (HS.out.call hb2)
    have HF2 := Lib.hid hF
    have HG := Lib.hid (show w1.heap.size + 1 ≤ g by simpa using hg)
    have HGS := Lib.hid hgs
    have HKS := Lib.hid (show Go.Proofs.YtobnbgbijdhjjaaDoor.Val.Kids false w2 (fun i => i < w1.heap.size + 1) ks A l c ∧ Go.Proofs.YtobnbgbijdhjjaaDoor.Val.Kids false w2 (fun i => i < w1.heap.size + 1) ks A9 l9 c9 from
      ⟨(Go.Proofs.YtobnbgbijdhjjaaDoor.Val.Kids.keep HS.out.kd fun i hi => hb2.block i hi).mono fun i hi => by simpa using hi, (Go.Proofs.YtobnbgbijdhjjaaDoor.Val.Kids.keep HS.out.kd9 fun i hi => hb2.block i hi).mono fun i hi => by simpa using hi⟩)
    have HLW := Lib.hid (show w.heap.size < w1.heap.size + 1 by have := HS.out.b4.lt; simpa using this)
    clear hb2 HS hg hF hgs
    obtain ⟨x0, x1, x2, x3, _⟩ := HS2.out.b4.all
    go_wp2_with fail
    (with_reducible refine (HXN.out _ HS2.out.kd).mono ?_)
    rintro e w3 ⟨gr, Ar, lr, cr, rfl, hgr, hR, _, hb3⟩
    have HG2 := Lib.hid (show g < gr by have h1 := HGS.out; omega)
    have hS3 : SL w w3 g gr ls Af lf cf Ar lr cr false false k n t ks A l c w1.heap.size A9 l9 c9 (w1.heap.size + 1) := by
      have h1 := HG.out
      have h2 := HG2.out
      have hfc := HF2.out.call hb3
      exact ⟨hfc.weaken (fun i hi => by omega) (.inl rfl), ⟨hR.obj, (kids_ne (obj_ne hfc.obj) hR.kd).mono fun i hi => ⟨hi.1.1, by have := hi.1.2; have := hi.2; omega⟩, .inr rfl⟩, HS2.out.b4.call hb3, HS2.out.b9.call hb3,
        HKS.out.1.keep fun i hi => hb3.block i (by have := HF2.out.lt; omega), HKS.out.2.keep fun i hi => hb3.block i (by have := HF2.out.lt; omega), below_next HS2.out.low hb3, HLW.out, by omega, h1, h2⟩
    have HS3 := Lib.hid hS3
    clear hS3 hb3 hgr hR HS2 HF2 HG HGS HKS HLW HXN x0 x1 x2 x3
    go_wp2_with fail
    go_loopw [14] (fun s wr => ∃ (j : Nat) (sp : Bool), j ≤ nq ∧ s = .int .i64 j ∧ SL w wr g gr ls Af lf cf Ar lr cr sp sp k n t ks A l c w1.heap.size A9 l9 c9 (w1.heap.size + 1)) (fun s _ => nq - (intOf s).toNat)
    case atStart => exact ⟨0, false, Nat.zero_le _, rfl, HS3.out⟩
    case round =>
      obtain ⟨j, sp, hj, rfl, hS⟩ := hrel
      have HSL := Lib.hid hS
      clear hS HS3
      have h60 := H60.out
      by_cases hlt : j < nq
      · obtain ⟨bq, oq, q, KA, kl, kc, hAq, hbq, hx, c0, c1, c2, c3, c4, c5, hz, hKi⟩ := HQ.out.2 j hlt
        subst hAq
        obtain ⟨td, sp', hdo⟩ : ∃ td sp', doesR ls q sp = (td, sp') := ⟨_, _, rfl⟩
        have hsm := does_small ls q sp
        rw [hdo] at hsm
        have HSM := Lib.hid hsm
        have HDO := Lib.hid hdo
        have HKI := Lib.hid hKi
        have HBQ := Lib.hid hbq
        have HC := Lib.hid (And.intro c0 (And.intro c1 (And.intro c2 (And.intro c3 (And.intro c4 c5)))))
        have d0 := (HSL.out.low.cell (p := ⟨bq, oq + j * 6, none⟩) HBQ.out).trans HC.out.1
        have d1 := (HSL.out.low.cell (p := ⟨bq, oq + j * 6 + 1, none⟩) HBQ.out).trans HC.out.2.1
        have d2 := (HSL.out.low.cell (p := ⟨bq, oq + j * 6 + 2, none⟩) HBQ.out).trans HC.out.2.2.1
        have d3 := (HSL.out.low.cell (p := ⟨bq, oq + j * 6 + 3, none⟩) HBQ.out).trans HC.out.2.2.2.1
        have d4 := (HSL.out.low.cell (p := ⟨bq, oq + j * 6 + 4, none⟩) HBQ.out).trans HC.out.2.2.2.2.1
        have d5 := (HSL.out.low.cell (p := ⟨bq, oq + j * 6 + 5, none⟩) HBQ.out).trans HC.out.2.2.2.2.2
        have hgr := HSL.out.r.lt
        have HGR := Lib.hid hgr
        have hbq2 := Nat.lt_of_lt_of_le hbq HSL.out.low.size
        clear hx hsm hdo hKi hz c0 c1 c2 c3 c4 c5 hgr
        go_upto_region 11 with fail
        go_region_with (first
          | (go_at_call 15; (with_reducible refine (does_any (HSL.out.call (Below.refl _ _).drew).f q KA kl kc (HKI.out.call (HSL.out.call (Below.refl _ _).drew).low) (by have := HL.out; omega) td HDO.out).mono ?_); rintro e w4 ⟨r4, rfl, hr4, ho4, hF4⟩; have HS4 := Lib.hid (SL.stepf (HSL.out.call (Below.refl _ _).drew) ho4 hF4); have e0 := (HS4.out.low.cell (p := ⟨bq, oq + j * 6, none⟩) HBQ.out).trans HC.out.1; have e1 := (HS4.out.low.cell (p := ⟨bq, oq + j * 6 + 1, none⟩) HBQ.out).trans HC.out.2.1; have e2 := (HS4.out.low.cell (p := ⟨bq, oq + j * 6 + 2, none⟩) HBQ.out).trans HC.out.2.2.1; have e3 := (HS4.out.low.cell (p := ⟨bq, oq + j * 6 + 3, none⟩) HBQ.out).trans HC.out.2.2.2.1; have e4 := (HS4.out.low.cell (p := ⟨bq, oq + j * 6 + 4, none⟩) HBQ.out).trans HC.out.2.2.2.2.1; have e5 := (HS4.out.low.cell (p := ⟨bq, oq + j * 6 + 5, none⟩) HBQ.out).trans HC.out.2.2.2.2.2; have HR4 := Lib.hid hr4; clear hr4 ho4 hF4)
          | (go_at_call 16; (with_reducible refine (meant_any HS4.out.r q KA kl kc (HKI.out.call HS4.out.low) (by have := HL.out; omega) HML.out td HDO.out).mono ?_); rintro e w5 ⟨r5, rfl, hr5, ho5, hF5⟩; have HS5 := Lib.hid (SL.stepr HS4.out ho5 hF5); have HR45 := Lib.hid (RT.off HR4.out ho5 (by have := HGR.out; exact this)); have HR5 := Lib.hid hr5; clear hr5 ho5 hF5)
          | (go_at_call 14; (with_reducible refine (same7_rt HR45.out HR5.out (by have := HSM.out.1; have := HL.out; omega) (by have := HSM.out.2; have := HL.out; omega)).mono ?_); rintro e w6 ⟨rfl, hb6⟩; have HS6 := Lib.hid (HS5.out.call hb6); clear hb6)
          | fail)
        all_goals
          go_wp2
          go_roundw
          case rel => exact ⟨j + 1, sp', by omega, by go_num, HS6.out⟩
          case measure => simp [intOf]; omega
      · obtain ⟨dn, hdn⟩ : ∃ dn, doneN ls sp (lr : Int) = dn := ⟨_, rfl⟩
        have HDN := Lib.hid hdn
        clear hdn
        go_upto_region 13 with fail
        refine wp_region_held_drew (S := fun wx => SL w wx g gr ls Af lf cf Ar lr cr sp sp k n t ks A l c w1.heap.size A9 l9 c9 (w1.heap.size + 1)) (by kernel_rfl) (by exact HSL.out.call (Below.refl _ _).drew) (fun hHeld => ?_)
        (refine wpAnyH_take (i := 0) (oi := ⟨some 74, _, _, _, _, _⟩) (v := ?_) rfl (by kernel_rfl) (by kernel_rfl) (by kernel_rfl) (fun _ _ _ h => h) (Or.inl ⟨by kernel_rfl, ?_⟩) (by assumption) ?_; rotate_left 1; (· intro wx hSw; (try dsimp only at hSw); obtain ⟨p0, p1, p2, p3, q0, q1, q2, q3, z0, z1⟩ := Go.Proofs.YtobnbgbijdhjjaaDoor.fieldsPlays.SL.cells hSw; go_simp; (try with_reducible rfl)))
        try simp only [Act.put, List.setIfInBounds_toArray, List.set_cons_zero, List.set_cons_succ]
        (refine wpAnyH_take (i := 1) (oi := ⟨some 75, _, _, _, _, _⟩) (v := ?_) rfl (by kernel_rfl) (by kernel_rfl) (by kernel_rfl) (fun _ _ _ h => h) (Or.inl ⟨by kernel_rfl, ?_⟩) (by assumption) ?_; rotate_left 1; (· intro wx hSw; (try dsimp only at hSw); obtain ⟨p0, p1, p2, p3, q0, q1, q2, q3, z0, z1⟩ := Go.Proofs.YtobnbgbijdhjjaaDoor.fieldsPlays.SL.cells hSw; go_simp; (try with_reducible rfl)))
        try simp only [Act.put, List.setIfInBounds_toArray, List.set_cons_zero, List.set_cons_succ]
        (refine wpAnyH_take (i := 2) (oi := ⟨some 76, _, _, _, _, _⟩) (v := ?_) rfl (by kernel_rfl) (by kernel_rfl) (by kernel_rfl) (fun _ _ _ h => h) (Or.inl ⟨by kernel_rfl, ?_⟩) (by assumption) ?_; rotate_left 1; (· intro wx hSw; (try dsimp only at hSw); obtain ⟨p0, p1, p2, p3, q0, q1, q2, q3, z0, z1⟩ := Go.Proofs.YtobnbgbijdhjjaaDoor.fieldsPlays.SL.cells hSw; go_simp; (try with_reducible rfl)))
        try simp only [Act.put, List.setIfInBounds_toArray, List.set_cons_zero, List.set_cons_succ]
        (refine wpAnyH_take (i := 3) (oi := ⟨some 77, _, _, _, _, _⟩) (v := ?_) rfl (by kernel_rfl) (by kernel_rfl) (by kernel_rfl) (fun _ _ _ h => h) (Or.inl ⟨by kernel_rfl, ?_⟩) (by assumption) ?_; rotate_left 1; (· intro wx hSw; (try dsimp only at hSw); obtain ⟨p0, p1, p2, p3, q0, q1, q2, q3, z0, z1⟩ := Go.Proofs.YtobnbgbijdhjjaaDoor.fieldsPlays.SL.cells hSw; go_simp; (try with_reducible rfl)))
        try simp only [Act.put, List.setIfInBounds_toArray, List.set_cons_zero, List.set_cons_succ]
        (refine wpAnyH_take (i := 4) (oi := ⟨some 78, _, _, _, _, _⟩) (v := ?_) rfl (by kernel_rfl) (by kernel_rfl) (by kernel_rfl) (fun _ _ _ h => h) (Or.inl ⟨by kernel_rfl, ?_⟩) (by assumption) ?_; rotate_left 1; (· intro wx hSw; (try dsimp only at hSw); obtain ⟨p0, p1, p2, p3, q0, q1, q2, q3, z0, z1⟩ := Go.Proofs.YtobnbgbijdhjjaaDoor.fieldsPlays.SL.cells hSw; go_simp; (try with_reducible rfl)))
        try simp only [Act.put, List.setIfInBounds_toArray, List.set_cons_zero, List.set_cons_succ]
        (refine wpAnyH_take (i := 5) (oi := ⟨some 79, _, _, _, _, _⟩) (v := ?_) rfl (by kernel_rfl) (by kernel_rfl) (by kernel_rfl) (fun _ _ _ h => h) (Or.inl ⟨by kernel_rfl, ?_⟩) (by assumption) ?_; rotate_left 1; (· intro wx hSw; (try dsimp only at hSw); obtain ⟨p0, p1, p2, p3, q0, q1, q2, q3, z0, z1⟩ := Go.Proofs.YtobnbgbijdhjjaaDoor.fieldsPlays.SL.cells hSw; go_simp; (try with_reducible rfl)))
        try simp only [Act.put, List.setIfInBounds_toArray, List.set_cons_zero, List.set_cons_succ]
        (refine wpAnyH_take (i := 6) (oi := ⟨some 80, _, _, _, _, _⟩) (v := ?_) rfl (by kernel_rfl) (by kernel_rfl) (by kernel_rfl) (fun _ _ _ h => h) (Or.inl ⟨by kernel_rfl, ?_⟩) (by assumption) ?_; rotate_left 1; (· intro wx hSw; (try dsimp only at hSw); obtain ⟨p0, p1, p2, p3, q0, q1, q2, q3, z0, z1⟩ := Go.Proofs.YtobnbgbijdhjjaaDoor.fieldsPlays.SL.cells hSw; go_simp; (try with_reducible rfl)))
        try simp only [Act.put, List.setIfInBounds_toArray, List.set_cons_zero, List.set_cons_succ]
        (refine wpAnyH_take (i := 7) (oi := ⟨some 81, _, _, _, _, _⟩) (v := ?_) rfl (by kernel_rfl) (by kernel_rfl) (by kernel_rfl) (fun _ _ _ h => h) (Or.inl ⟨by kernel_rfl, ?_⟩) (by assumption) ?_; rotate_left 1; (· intro wx hSw; (try dsimp only at hSw); obtain ⟨p0, p1, p2, p3, q0, q1, q2, q3, z0, z1⟩ := Go.Proofs.YtobnbgbijdhjjaaDoor.fieldsPlays.SL.cells hSw; go_simp; (try with_reducible rfl)))
        try simp only [Act.put, List.setIfInBounds_toArray, List.set_cons_zero, List.set_cons_succ]
        (refine wpAnyH_take (i := 8) (oi := ⟨some 82, _, _, _, _, _⟩) (v := ?_) rfl (by kernel_rfl) (by kernel_rfl) (by kernel_rfl) (fun _ _ _ h => h) (Or.inl ⟨by kernel_rfl, ?_⟩) (by assumption) ?_; rotate_left 1; (· intro wx hSw; (try dsimp only at hSw); obtain ⟨p0, p1, p2, p3, q0, q1, q2, q3, z0, z1⟩ := Go.Proofs.YtobnbgbijdhjjaaDoor.fieldsPlays.SL.cells hSw; go_simp; (try with_reducible rfl)))
        try simp only [Act.put, List.setIfInBounds_toArray, List.set_cons_zero, List.set_cons_succ]
        (refine wpAnyH_take (i := 10) (oi := ⟨some 84, _, _, _, _, _⟩) (v := ?_) rfl (by kernel_rfl) (by kernel_rfl) (by kernel_rfl) (fun _ _ _ h => h) (Or.inl ⟨by kernel_rfl, ?_⟩) (by assumption) ?_; rotate_left 1; (· intro wx hSw; (try dsimp only at hSw); obtain ⟨p0, p1, p2, p3, q0, q1, q2, q3, z0, z1⟩ := Go.Proofs.YtobnbgbijdhjjaaDoor.fieldsPlays.SL.cells hSw; go_simp; (try with_reducible rfl)))
        try simp only [Act.put, List.setIfInBounds_toArray, List.set_cons_zero, List.set_cons_succ]
        (refine wpAnyH_take (i := 11) (oi := ⟨some 85, _, _, _, _, _⟩) (v := ?_) rfl (by kernel_rfl) (by kernel_rfl) (by kernel_rfl) (fun _ _ _ h => h) (Or.inl ⟨by kernel_rfl, ?_⟩) (by assumption) ?_; rotate_left 1; (· intro wx hSw; (try dsimp only at hSw); obtain ⟨p0, p1, p2, p3, q0, q1, q2, q3, z0, z1⟩ := Go.Proofs.YtobnbgbijdhjjaaDoor.fieldsPlays.SL.cells hSw; go_simp; (try with_reducible rfl)))
        try simp only [Act.put, List.setIfInBounds_toArray, List.set_cons_zero, List.set_cons_succ]
        (refine wpAnyH_take (i := 12) (oi := ⟨some 86, _, _, _, _, _⟩) (v := ?_) rfl (by kernel_rfl) (by kernel_rfl) (by kernel_rfl) (fun _ _ _ h => h) (Or.inl ⟨by kernel_rfl, ?_⟩) (by assumption) ?_; rotate_left 1; (· intro wx hSw; (try dsimp only at hSw); obtain ⟨p0, p1, p2, p3, q0, q1, q2, q3, z0, z1⟩ := Go.Proofs.YtobnbgbijdhjjaaDoor.fieldsPlays.SL.cells hSw; go_simp; (try with_reducible rfl)))
        try simp only [Act.put, List.setIfInBounds_toArray, List.set_cons_zero, List.set_cons_succ]
        (refine wpAnyH_take (i := 13) (oi := ⟨some 87, _, _, _, _, _⟩) (v := ?_) rfl (by kernel_rfl) (by kernel_rfl) (by kernel_rfl) (fun _ _ _ h => h) (Or.inl ⟨by kernel_rfl, ?_⟩) (by assumption) ?_; rotate_left 1; (· intro wx hSw; (try dsimp only at hSw); obtain ⟨p0, p1, p2, p3, q0, q1, q2, q3, z0, z1⟩ := Go.Proofs.YtobnbgbijdhjjaaDoor.fieldsPlays.SL.cells hSw; go_simp; (try with_reducible rfl)))
        try simp only [Act.put, List.setIfInBounds_toArray, List.set_cons_zero, List.set_cons_succ]
        (refine wpAnyH_take (i := 14) (oi := ⟨some 88, _, _, _, _, _⟩) (v := ?_) rfl (by kernel_rfl) (by kernel_rfl) (by kernel_rfl) (fun _ _ _ h => h) (Or.inl ⟨by kernel_rfl, ?_⟩) (by assumption) ?_; rotate_left 1; (· intro wx hSw; (try dsimp only at hSw); obtain ⟨p0, p1, p2, p3, q0, q1, q2, q3, z0, z1⟩ := Go.Proofs.YtobnbgbijdhjjaaDoor.fieldsPlays.SL.cells hSw; go_simp; (try with_reducible rfl)))
        try simp only [Act.put, List.setIfInBounds_toArray, List.set_cons_zero, List.set_cons_succ]
        (refine wpAnyH_take (i := 15) (oi := ⟨some 89, _, _, _, _, _⟩) (v := ?_) rfl (by kernel_rfl) (by kernel_rfl) (by kernel_rfl) (fun _ _ _ h => h) (Or.inl ⟨by kernel_rfl, ?_⟩) (by assumption) ?_; rotate_left 1; (· intro wx hSw; (try dsimp only at hSw); obtain ⟨p0, p1, p2, p3, q0, q1, q2, q3, z0, z1⟩ := Go.Proofs.YtobnbgbijdhjjaaDoor.fieldsPlays.SL.cells hSw; go_simp; (try with_reducible rfl)))
        try simp only [Act.put, List.setIfInBounds_toArray, List.set_cons_zero, List.set_cons_succ]
        (refine wpAnyH_ready (rs := [9]) (by kernel_rfl) (by simp) ?_; refine AllReadyH.cons (o := ⟨some 83, _, _, _, _, _⟩) rfl (fun K hK => ?_) AllReadyH.nil; go_simp; (go_at_call 17; (with_reducible refine (done_B hHeld.f (lr : Int)).mono ?_); rintro e wa ⟨rfl, hba⟩); go_wp2_with fail; refine hK.out _ _ ?_ (fun hHeld => ?_); (· exact hHeld.call hba); clear hK K)
        try simp only [Act.put, List.setIfInBounds_toArray, List.set_cons_zero, List.set_cons_succ]
        (refine wpAnyH_ready (rs := [16]) (by kernel_rfl) (by simp) ?_; refine AllReadyH.cons (o := ⟨some 90, _, _, _, _, _⟩) rfl (fun K hK => ?_) AllReadyH.nil; go_simp; (go_at_call 18; (with_reducible refine (xdone_B hHeld.r (lr : Int)).mono ?_); rintro e wb ⟨rfl, hbb⟩); go_wp2_with fail; refine hK.out _ _ ?_ (fun hHeld => ?_); (· exact hHeld.call hbb); clear hK K)
        try simp only [Act.put, List.setIfInBounds_toArray, List.set_cons_zero, List.set_cons_succ]
        (refine wpAnyH_take (i := 17) (oi := ⟨some 91, _, _, _, _, _⟩) (v := ?_) rfl (by kernel_rfl) (by kernel_rfl) (by kernel_rfl) (fun _ _ _ h => h) (Or.inl ⟨by kernel_rfl, ?_⟩) (by assumption) ?_; rotate_left 1; (· intro wx hSw; (try dsimp only at hSw); obtain ⟨p0, p1, p2, p3, q0, q1, q2, q3, z0, z1⟩ := Go.Proofs.YtobnbgbijdhjjaaDoor.fieldsPlays.SL.cells hSw; go_simp; (try with_reducible rfl)))
        try simp only [Act.put, List.setIfInBounds_toArray, List.set_cons_zero, List.set_cons_succ]
        (refine wpAnyH_take (i := 18) (oi := ⟨some 92, _, _, _, _, _⟩) (v := ?_) rfl (by kernel_rfl) (by kernel_rfl) (by kernel_rfl) (fun _ _ _ h => h) (Or.inl ⟨by kernel_rfl, ?_⟩) (by assumption) ?_; rotate_left 1; (· intro wx hSw; (try dsimp only at hSw); obtain ⟨p0, p1, p2, p3, q0, q1, q2, q3, z0, z1⟩ := Go.Proofs.YtobnbgbijdhjjaaDoor.fieldsPlays.SL.cells hSw; go_simp; (try with_reducible rfl)))
        try simp only [Act.put, List.setIfInBounds_toArray, List.set_cons_zero, List.set_cons_succ]
        (refine wpAnyH_take (i := 19) (oi := ⟨some 93, _, _, _, _, _⟩) (v := ?_) rfl (by kernel_rfl) (by kernel_rfl) (by kernel_rfl) (fun _ _ _ h => h) (Or.inl ⟨by kernel_rfl, ?_⟩) (by assumption) ?_; rotate_left 1; (· intro wx hSw; (try dsimp only at hSw); obtain ⟨p0, p1, p2, p3, q0, q1, q2, q3, z0, z1⟩ := Go.Proofs.YtobnbgbijdhjjaaDoor.fieldsPlays.SL.cells hSw; go_simp; (try with_reducible rfl)))
        try simp only [Act.put, List.setIfInBounds_toArray, List.set_cons_zero, List.set_cons_succ]
        (refine wpAnyH_take (i := 20) (oi := ⟨some 94, _, _, _, _, _⟩) (v := ?_) rfl (by kernel_rfl) (by kernel_rfl) (by kernel_rfl) (fun _ _ _ h => h) (Or.inl ⟨by kernel_rfl, ?_⟩) (by assumption) ?_; rotate_left 1; (· intro wx hSw; (try dsimp only at hSw); obtain ⟨p0, p1, p2, p3, q0, q1, q2, q3, z0, z1⟩ := Go.Proofs.YtobnbgbijdhjjaaDoor.fieldsPlays.SL.cells hSw; go_simp; (try with_reducible rfl)))
        try simp only [Act.put, List.setIfInBounds_toArray, List.set_cons_zero, List.set_cons_succ]
        (refine wpAnyH_take (i := 21) (oi := ⟨some 95, _, _, _, _, _⟩) (v := ?_) rfl (by kernel_rfl) (by kernel_rfl) (by kernel_rfl) (fun _ _ _ h => h) (Or.inl ⟨by kernel_rfl, ?_⟩) (by assumption) ?_; rotate_left 1; (· intro wx hSw; (try dsimp only at hSw); obtain ⟨p0, p1, p2, p3, q0, q1, q2, q3, z0, z1⟩ := Go.Proofs.YtobnbgbijdhjjaaDoor.fieldsPlays.SL.cells hSw; go_simp; (try with_reducible rfl)))
        try simp only [Act.put, List.setIfInBounds_toArray, List.set_cons_zero, List.set_cons_succ]
        (refine wpAnyH_ready (rs := [22]) (by kernel_rfl) (by simp) ?_; refine AllReadyH.cons (o := ⟨some 96, _, _, _, _, _⟩) rfl (fun K hK => ?_) AllReadyH.nil; go_simp; (go_at_call 19; (with_reducible refine (fplays_same (by have := HN.out; simp only [bulk] at this; omega) HK.out HNN.out hHeld.kdn9 hHeld.kdn).mono ?_); rintro e wy ⟨rfl, hby⟩); go_wp2_with fail; refine hK.out _ _ ?_ (fun hHeld => ?_); (· exact hHeld.call hby); clear hK K)
        try simp only [Act.put, List.setIfInBounds_toArray, List.set_cons_zero, List.set_cons_succ]
        (refine wpAnyH_take (i := 23) (oi := ⟨some 97, _, _, _, _, _⟩) (v := ?_) rfl (by kernel_rfl) (by kernel_rfl) (by kernel_rfl) (fun _ _ _ h => h) (Or.inl ⟨by kernel_rfl, ?_⟩) (by assumption) ?_; rotate_left 1; (· intro wx hSw; (try dsimp only at hSw); obtain ⟨p0, p1, p2, p3, q0, q1, q2, q3, z0, z1⟩ := Go.Proofs.YtobnbgbijdhjjaaDoor.fieldsPlays.SL.cells hSw; go_simp; (try with_reducible rfl)))
        try simp only [Act.put, List.setIfInBounds_toArray, List.set_cons_zero, List.set_cons_succ]
        (refine wpAnyH_take (i := 24) (oi := ⟨some 98, _, _, _, _, _⟩) (v := ?_) rfl (by kernel_rfl) (by kernel_rfl) (by kernel_rfl) (fun _ _ _ h => h) (Or.inl ⟨by kernel_rfl, ?_⟩) (by assumption) ?_; rotate_left 1; (· intro wx hSw; (try dsimp only at hSw); obtain ⟨p0, p1, p2, p3, q0, q1, q2, q3, z0, z1⟩ := Go.Proofs.YtobnbgbijdhjjaaDoor.fieldsPlays.SL.cells hSw; go_simp; (try with_reducible rfl)))
        try simp only [Act.put, List.setIfInBounds_toArray, List.set_cons_zero, List.set_cons_succ]
        (refine wpAnyH_ready (rs := [25]) (by kernel_rfl) (by simp) ?_; refine AllReadyH.cons (o := ⟨some 99, _, _, _, _, _⟩) rfl (fun K hK => ?_) AllReadyH.nil; go_simp; (go_at_call 10; (with_reducible refine (works7_any _ (HT.out.call hHeld.low)).mono ?_); rintro e wz ⟨rfl, hbz⟩); go_wp2_with fail; refine hK.out _ _ ?_ (fun hHeld => ?_); (· exact hHeld.call hbz); clear hK K)
        try simp only [Act.put, List.setIfInBounds_toArray, List.set_cons_zero, List.set_cons_succ]
        (refine wpAnyH_take (i := 26) (oi := ⟨some 100, _, _, _, _, _⟩) (v := ?_) rfl (by kernel_rfl) (by kernel_rfl) (by kernel_rfl) (fun _ _ _ h => h) (Or.inl ⟨by kernel_rfl, ?_⟩) (by assumption) ?_; rotate_left 1; (· intro wx hSw; (try dsimp only at hSw); obtain ⟨p0, p1, p2, p3, q0, q1, q2, q3, z0, z1⟩ := Go.Proofs.YtobnbgbijdhjjaaDoor.fieldsPlays.SL.cells hSw; go_simp; (try with_reducible rfl)))
        try simp only [Act.put, List.setIfInBounds_toArray, List.set_cons_zero, List.set_cons_succ]
        (refine wpAnyH_take (i := 27) (oi := ⟨some 8, _, _, _, _, _⟩) (v := ?_) rfl (by kernel_rfl) (by kernel_rfl) (by kernel_rfl) (fun _ _ _ h => h) (Or.inl ⟨by kernel_rfl, ?_⟩) (by assumption) ?_; rotate_left 1; (· intro wx hSw; (try dsimp only at hSw); obtain ⟨p0, p1, p2, p3, q0, q1, q2, q3, z0, z1⟩ := Go.Proofs.YtobnbgbijdhjjaaDoor.fieldsPlays.SL.cells hSw; go_simp; (try with_reducible rfl)))
        try simp only [Act.put, List.setIfInBounds_toArray, List.set_cons_zero, List.set_cons_succ]
        refine wpAnyH_done (by kernel_rfl) ?_ _
        go_wp2
        go_ret
        exact ⟨rfl, SL.low (by assumption)⟩
end Go.Proofs.YtobnbgbijdhjjaaDoor.fieldsPlays
