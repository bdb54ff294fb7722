/-
  Contract of the laws' anchor 'works': it answers true, and memory that was there stays. Condition: the table of package utf.
-/
import Derived.Test.YtdbcdabijolagaaDoorWkf
import Derived.Deep.RegionWith
import Derived.Deep.RegionHeld3
namespace Go.Proofs.YtdbcdabijolagaaDoor.Val
open Go.RowKit Go.Proofs.YtdbcdabijolagaaDoor.Utf V

theorem tab_alloc {w : World} (h : Tab w) (o : Obj) : Tab (w.alloc o) := h.call ((Below.refl _ _).alloc (Nat.le_refl _) _)
/-- What the first two values' boxes hold. -/
def Two (g1 g2 : Nat) (W : World) (w : World) : Prop := Box w g1 (.int .u8 5) (.int .u64 1) (.string ⟨#[]⟩) (.slice none 0 0) ∧ Box w g2 (.int .u8 6) (.int .u64 1) (.string ⟨#[]⟩) (.slice none 0 0) ∧ Below W.heap.size W w
theorem Two.call {g1 g2 : Nat} {W w w' : World} (h : Two g1 g2 W w) (hb : Below w.heap.size w w') : Two g1 g2 W w' := ⟨h.1.call hb, h.2.1.call hb, below_next h.2.2 hb⟩
theorem Two.alloc {g1 g2 : Nat} {W w : World} (h : Two g1 g2 W w) (o : Obj) : Two g1 g2 W (w.alloc o) := h.call ((Below.refl _ _).alloc (Nat.le_refl _) _)
theorem Two.drew {g1 g2 : Nat} {W w : World} (h : Two g1 g2 W w) : Two g1 g2 W w.drew := h.call ((Below.refl _ _).drew)
theorem Box.newd (w : World) (x0 x1 x2 x3 : Value) : Box (w.alloc (.cells #[x0, x1, x2, x3] 25)).drew w.heap.size x0 x1 x2 x3 := Box.new w _ _ _ _
theorem Box.newa (w : World) (o : Obj) (x0 x1 x2 x3 : Value) : Box ((w.alloc o).alloc (.cells #[x0, x1, x2, x3] 25)) (w.heap.size + 1) x0 x1 x2 x3 := Box.new2 w o _ _ _ _
theorem Two.cells {g1 g2 : Nat} {W wx : World} (h : Two g1 g2 W wx) : wx.cell? ⟨g1, 0, none⟩ = some (.int .u8 5) ∧ wx.cell? ⟨g1, 1, none⟩ = some (.int .u64 1) ∧ wx.cell? ⟨g1, 2, none⟩ = some (.string ⟨#[]⟩) ∧ wx.cell? ⟨g1, 3, none⟩ = some (.slice none 0 0) ∧ wx.cell? ⟨g2, 0, none⟩ = some (.int .u8 6) ∧ wx.cell? ⟨g2, 1, none⟩ = some (.int .u64 1) ∧ wx.cell? ⟨g2, 2, none⟩ = some (.string ⟨#[]⟩) ∧ wx.cell? ⟨g2, 3, none⟩ = some (.slice none 0 0) ∧ Two g1 g2 W wx := by
  obtain ⟨a0, a1, a2, a3, _⟩ := h.1.all
  obtain ⟨b0, b1, b2, b3, _⟩ := h.2.1.all
  exact ⟨a0, a1, a2, a3, b0, b1, b2, b3, h⟩
theorem Two.of {g1 g2 : Nat} {W wx : World} (h : wx.cell? ⟨g1, 0, none⟩ = some (.int .u8 5) ∧ wx.cell? ⟨g1, 1, none⟩ = some (.int .u64 1) ∧ wx.cell? ⟨g1, 2, none⟩ = some (.string ⟨#[]⟩) ∧ wx.cell? ⟨g1, 3, none⟩ = some (.slice none 0 0) ∧ wx.cell? ⟨g2, 0, none⟩ = some (.int .u8 6) ∧ wx.cell? ⟨g2, 1, none⟩ = some (.int .u64 1) ∧ wx.cell? ⟨g2, 2, none⟩ = some (.string ⟨#[]⟩) ∧ wx.cell? ⟨g2, 3, none⟩ = some (.slice none 0 0) ∧ Two g1 g2 W wx) : Two g1 g2 W wx := h.2.2.2.2.2.2.2.2
theorem Box.call_lt {X w3 : World} {g : Nat} {x0 x1 x2 x3 : Value} (h : Box X g x0 x1 x2 x3) (_ : Below X.heap.size X w3) : g < X.heap.size := h.lt
theorem Two.set4 {g1 g2 g : Nat} {W w : World} (h : Two g1 g2 W w) (h1 : g1 < W.heap.size) (h2 : g2 < W.heap.size) (hg : W.heap.size ≤ g) (a b c d : Value) : Two g1 g2 W ((((w.setCell ⟨g, 0, none⟩ a).setCell ⟨g, 1, none⟩ b).setCell ⟨g, 2, none⟩ c).setCell ⟨g, 3, none⟩ d) :=
  ⟨h.1.far4 (by omega) _ _ _ _, h.2.1.far4 (by omega) _ _ _ _, below_set4 h.2.2 hg _ _ _ _⟩

/-- What the four boxes hold, and what stands behind them. -/
def Five (g1 g3 g4 g6 : Nat) (A3 A4 A6 : Option Addr) (l3 c3 l4 c4 l6 c6 : Nat) (W w : World) : Prop := Box w g1 (.int .u8 5) (.int .u64 1) (.string ⟨#[]⟩) (.slice none 0 0) ∧ Box w g3 (.int .u8 23) (.int .u64 0) (.string ⟨#[]⟩) (.slice A3 l3 c3) ∧ Box w g4 (.int .u8 2) (.int .u64 1) (.string ⟨#[]⟩) (.slice A4 l4 c4) ∧ Box w g6 (.int .u8 23) (.int .u64 0) (.string ⟨#[]⟩) (.slice A6 l6 c6) ∧ Kd w mks A3 l3 c3 ∧ Kd w [] A4 l4 c4 ∧ Kd w bks A6 l6 c6 ∧ Tab w ∧ Below W.heap.size W w
section
variable {g1 g3 g4 g6 : Nat} {A3 A4 A6 : Option Addr} {l3 c3 l4 c4 l6 c6 : Nat} {W w wx w' : World}
theorem Five.call (h : Five g1 g3 g4 g6 A3 A4 A6 l3 c3 l4 c4 l6 c6 W w) (hb : Below w.heap.size w w') : Five g1 g3 g4 g6 A3 A4 A6 l3 c3 l4 c4 l6 c6 W w' := ⟨h.1.call hb, h.2.1.call hb, h.2.2.1.call hb, h.2.2.2.1.call hb, h.2.2.2.2.1.call hb, h.2.2.2.2.2.1.call hb, h.2.2.2.2.2.2.1.call hb, h.2.2.2.2.2.2.2.1.call hb, below_next h.2.2.2.2.2.2.2.2 hb⟩
theorem Five.m (h : Five g1 g3 g4 g6 A3 A4 A6 l3 c3 l4 c4 l6 c6 W w) : Kd w mks A3 l3 c3 := h.2.2.2.2.1
theorem Five.x (h : Five g1 g3 g4 g6 A3 A4 A6 l3 c3 l4 c4 l6 c6 W w) : Kd w [] A4 l4 c4 := h.2.2.2.2.2.1
theorem Five.b (h : Five g1 g3 g4 g6 A3 A4 A6 l3 c3 l4 c4 l6 c6 W w) : Kd w bks A6 l6 c6 := h.2.2.2.2.2.2.1
theorem Five.t (h : Five g1 g3 g4 g6 A3 A4 A6 l3 c3 l4 c4 l6 c6 W w) : Tab w := h.2.2.2.2.2.2.2.1
theorem Five.low (h : Five g1 g3 g4 g6 A3 A4 A6 l3 c3 l4 c4 l6 c6 W w) : Below W.heap.size W w := h.2.2.2.2.2.2.2.2
theorem Five.of (h : wx.cell? ⟨g1, 0, none⟩ = some (.int .u8 5) ∧ wx.cell? ⟨g1, 1, none⟩ = some (.int .u64 1) ∧ wx.cell? ⟨g1, 2, none⟩ = some (.string ⟨#[]⟩) ∧ wx.cell? ⟨g1, 3, none⟩ = some (.slice none 0 0) ∧ wx.cell? ⟨g3, 0, none⟩ = some (.int .u8 23) ∧ wx.cell? ⟨g3, 1, none⟩ = some (.int .u64 0) ∧ wx.cell? ⟨g3, 2, none⟩ = some (.string ⟨#[]⟩) ∧ wx.cell? ⟨g3, 3, none⟩ = some (.slice A3 l3 c3) ∧ wx.cell? ⟨g4, 0, none⟩ = some (.int .u8 2) ∧ wx.cell? ⟨g4, 1, none⟩ = some (.int .u64 1) ∧ wx.cell? ⟨g4, 2, none⟩ = some (.string ⟨#[]⟩) ∧ wx.cell? ⟨g4, 3, none⟩ = some (.slice A4 l4 c4) ∧ wx.cell? ⟨g6, 0, none⟩ = some (.int .u8 23) ∧ wx.cell? ⟨g6, 1, none⟩ = some (.int .u64 0) ∧ wx.cell? ⟨g6, 2, none⟩ = some (.string ⟨#[]⟩) ∧ wx.cell? ⟨g6, 3, none⟩ = some (.slice A6 l6 c6) ∧ Five g1 g3 g4 g6 A3 A4 A6 l3 c3 l4 c4 l6 c6 W wx) : Five g1 g3 g4 g6 A3 A4 A6 l3 c3 l4 c4 l6 c6 W wx := h.2.2.2.2.2.2.2.2.2.2.2.2.2.2.2.2
theorem Five.drew (h : Five g1 g3 g4 g6 A3 A4 A6 l3 c3 l4 c4 l6 c6 W w) : Five g1 g3 g4 g6 A3 A4 A6 l3 c3 l4 c4 l6 c6 W w.drew := h.call ((Below.refl _ _).drew)
theorem Five.cells (h : Five g1 g3 g4 g6 A3 A4 A6 l3 c3 l4 c4 l6 c6 W wx) : wx.cell? ⟨g1, 0, none⟩ = some (.int .u8 5) ∧ wx.cell? ⟨g1, 1, none⟩ = some (.int .u64 1) ∧ wx.cell? ⟨g1, 2, none⟩ = some (.string ⟨#[]⟩) ∧ wx.cell? ⟨g1, 3, none⟩ = some (.slice none 0 0) ∧ wx.cell? ⟨g3, 0, none⟩ = some (.int .u8 23) ∧ wx.cell? ⟨g3, 1, none⟩ = some (.int .u64 0) ∧ wx.cell? ⟨g3, 2, none⟩ = some (.string ⟨#[]⟩) ∧ wx.cell? ⟨g3, 3, none⟩ = some (.slice A3 l3 c3) ∧ wx.cell? ⟨g4, 0, none⟩ = some (.int .u8 2) ∧ wx.cell? ⟨g4, 1, none⟩ = some (.int .u64 1) ∧ wx.cell? ⟨g4, 2, none⟩ = some (.string ⟨#[]⟩) ∧ wx.cell? ⟨g4, 3, none⟩ = some (.slice A4 l4 c4) ∧ wx.cell? ⟨g6, 0, none⟩ = some (.int .u8 23) ∧ wx.cell? ⟨g6, 1, none⟩ = some (.int .u64 0) ∧ wx.cell? ⟨g6, 2, none⟩ = some (.string ⟨#[]⟩) ∧ wx.cell? ⟨g6, 3, none⟩ = some (.slice A6 l6 c6) ∧ Five g1 g3 g4 g6 A3 A4 A6 l3 c3 l4 c4 l6 c6 W wx := by
  obtain ⟨a0, a1, a2, a3, _⟩ := h.1.all
  obtain ⟨b0, b1, b2, b3, _⟩ := h.2.1.all
  obtain ⟨c0, c1, c2, c3, _⟩ := h.2.2.1.all
  obtain ⟨d0, d1, d2, d3, _⟩ := h.2.2.2.1.all
  exact ⟨a0, a1, a2, a3, b0, b1, b2, b3, c0, c1, c2, c3, d0, d1, d2, d3, h⟩
end

set_option maxRecDepth 100000 in
set_option maxHeartbeats 1000000 in
theorem works_any (w : World) (ht : Tab w) : Calls Tryd.prog 11 #[] w (GivesB true w) := by
  go_enter Tryd.func11, Tryd.ntmps11
  go_wp2_with fail
  refine (number_any 5 1 w).mono ?_
  rintro e w1 ⟨rfl, hb1⟩
  have B1 := Box.new w1 (.int .u8 5) (.int .u64 1) (.string ⟨#[]⟩) (.slice none 0 0)
  have hB1 := hb1.alloc hb1.size (.cells #[.int .u8 5, .int .u64 1, .string ⟨#[]⟩, .slice none 0 0] 25)
  go_wp2_with fail
  refine (number_any 6 1 _).mono ?_
  rintro e w2 ⟨rfl, hb2⟩
  have hB2 := (below_next hB1 hb2).alloc (below_next hB1 hb2).size (.cells #[.int .u8 6, .int .u64 1, .string ⟨#[]⟩, .slice none 0 0] 25)
  have B2 := Box.new w2 (.int .u8 6) (.int .u64 1) (.string ⟨#[]⟩) (.slice none 0 0)
  replace B1 := (B1.call hb2).alloc (.cells #[.int .u8 6, .int .u64 1, .string ⟨#[]⟩, .slice none 0 0] 25)
  go_wp2_with fail
  obtain ⟨g1, hg1⟩ : ∃ g, w1.heap.size = g := ⟨_, rfl⟩
  obtain ⟨g2, hg2⟩ : ∃ g, w2.heap.size = g := ⟨_, rfl⟩
  obtain ⟨W, hW⟩ : ∃ W, w2.alloc (.cells #[.int .u8 6, .int .u64 1, .string ⟨#[]⟩, .slice none 0 0] 25) = W := ⟨_, rfl⟩
  rw [hg1] at B1 ⊢
  rw [hg2] at B2 ⊢
  rw [hW] at B1 B2 hB2 ⊢
  clear hg1 hg2 hW hb1 hb2 hB1
  have hp := ht.pos
  have HT := Lib.hid (ht.below hB2 hp)
  clear ht
  have hg1 := B1.lt
  have hg2 := B2.lt
  have H00 : Two g1 g2 W W := ⟨B1, B2, Below.refl _ _⟩
  have H0 : Two g1 g2 W W.drew := Two.drew ⟨B1, B2, Below.refl _ _⟩
  obtain ⟨p0, p1, p2, p3, pf⟩ := B1.all
  obtain ⟨q0, q1, q2, q3, qf⟩ := B2.all
  go_cut [3] (fun s3 wx => ∃ g3 A l c, s3 = .pointer (some ⟨g3, 0, none⟩) ∧ Box wx g3 (.int .u8 23) (.int .u64 0) (.string ⟨#[]⟩) (.slice A l c) ∧ Kd wx mks A l c ∧ Two g1 g2 W wx)
  case first =>
    go_region_held3 (fun wx => wx.cell? ⟨g1, 0, none⟩ = some (.int .u8 5) ∧ wx.cell? ⟨g1, 1, none⟩ = some (.int .u64 1) ∧ wx.cell? ⟨g1, 2, none⟩ = some (.string ⟨#[]⟩) ∧ wx.cell? ⟨g1, 3, none⟩ = some (.slice none 0 0) ∧ wx.cell? ⟨g2, 0, none⟩ = some (.int .u8 6) ∧ wx.cell? ⟨g2, 1, none⟩ = some (.int .u64 1) ∧ wx.cell? ⟨g2, 2, none⟩ = some (.string ⟨#[]⟩) ∧ wx.cell? ⟨g2, 3, none⟩ = some (.slice none 0 0) ∧ Two g1 g2 W wx) (with_reducible first | assumption | exact Two.cells H0 | exact Two.cells (Two.drew (Two.alloc H00 _)) | exact Two.cells (Two.set4 H3 hg1 hg2 hgz _ _ _ _) | exact Two.cells (Two.alloc H3 _) | exact Two.cells (Two.call (Two.of (by assumption)) (by assumption)) | (refine Two.cells (Two.alloc ?_ _); refine Two.of ?_; assumption) | fail)
      (first
      | (go_at_call 22; (with_reducible refine (nul_new _).mono ?_); rintro e w1 ⟨rfl, hb1⟩; have H1 : Two g1 g2 W w1 := (by with_reducible exact Two.call (Two.of (by assumption)) hb1); have hw1 := H1.2.2.size)
      | (go_at_call 23; (with_reducible refine (tru_new _).mono ?_); rintro e w2 ⟨rfl, hb2⟩; have H2 : Two g1 g2 W w2 := (by with_reducible exact Two.call (Two.of (by assumption)) hb2); have hw2 := H2.2.2.size)
      | (go_at_call 17; (with_reducible refine (many_m _ 4 4 _ (by first | exact mks_kd _ _ rfl | exact (mks_kd _ _ rfl).alloc _ | exact mks_kd _ _ (World.size_alloc _ _))).mono ?_); rintro e w3 ⟨A3, l3, c3, rfl, hN3, hb3⟩; have H3 : Two g1 g2 W w3 := (by with_reducible exact Two.call (Two.of (by assumption)) hb3); (first
          | (have Z : Box w3 w2.heap.size (.int .u8 0) (.int .u64 0) (.string ⟨#[]⟩) (.slice none 0 0) := (by with_reducible exact ((Box.new w2 _ _ _ _).alloc _).call hb3); have hgN := (by with_reducible exact Box.call_lt ((Box.new w2 _ _ _ _).alloc _) hb3); have hgz : W.heap.size ≤ w2.heap.size := hw2; obtain ⟨z0, z1, z2, z3, zf⟩ := Z.all)
          | (have Z : Box w3 w1.heap.size (.int .u8 0) (.int .u64 0) (.string ⟨#[]⟩) (.slice none 0 0) := (by with_reducible exact (((Box.new w1 _ _ _ _).call hb2).alloc _).call hb3); have hgN := (by with_reducible exact Box.call_lt (((Box.new w1 _ _ _ _).call hb2).alloc _) hb3); have hgz : W.heap.size ≤ w1.heap.size := hw1; obtain ⟨z0, z1, z2, z3, zf⟩ := Z.all)
          | (have Z : Box w3 W.heap.size (.int .u8 0) (.int .u64 0) (.string ⟨#[]⟩) (.slice none 0 0) := (by with_reducible exact ((((Box.newd W _ _ _ _).call hb1).call hb2).alloc _).call hb3); have hgN := (by with_reducible exact Box.call_lt ((((Box.newd W _ _ _ _).call hb1).call hb2).alloc _) hb3); have hgz : W.heap.size ≤ W.heap.size := Nat.le_refl _; obtain ⟨z0, z1, z2, z3, zf⟩ := Z.all)
          | (have Z : Box w3 (w2.heap.size + 1) (.int .u8 0) (.int .u64 0) (.string ⟨#[]⟩) (.slice none 0 0) := (by with_reducible exact (Box.newa w2 _ _ _ _ _).call hb3); have hgN := (by with_reducible exact Box.call_lt (Box.newa w2 _ _ _ _ _) hb3); have hgz : W.heap.size ≤ w2.heap.size + 1 := Nat.le_succ_of_le hw2; obtain ⟨z0, z1, z2, z3, zf⟩ := Z.all)
          | have Z := True.intro))
      | fail)
    all_goals
      go_wp2_with fail
      go_meet
      with_reducible first | exact ⟨_, A3, l3, c3, rfl, Z.set4 _ _ _ _, (hN3.far4 hgN _ _ _ _).kd, H3.set4 hg1 hg2 hgz _ _ _ _⟩ | exact ⟨_, A3, l3, c3, rfl, Box.new w3 _ _ _ _, hN3.kd.alloc _, H3.alloc _⟩ | fail
  case rest =>
    obtain ⟨g3, A3, l3, c3, rfl, B3, hK3, H3⟩ := hcut
    rename_i wx
    obtain ⟨B1, B2, hbx⟩ := H3
    have HT := Lib.hid (HT.out.call hbx)
    have hBx := below_next hB2 hbx
    obtain ⟨p0, p1, p2, p3, pf⟩ := B1.all
    obtain ⟨q0, q1, q2, q3, qf⟩ := B2.all
    obtain ⟨r0, r1, r2, r3, rf⟩ := B3.all
    go_wp2_with fail
    refine (get_m _ _ _ _ hK3).mono ?_
    rintro e w4 ⟨A4, l4, c4, rfl, hK4, hb4⟩
    have C1 := B1.call hb4
    have l1 := C1.lt
    have hb5 := (below_next hBx hb4).alloc (below_next hBx hb4).size (.cells #[.int .u8 2, .int .u64 1, .string ⟨#[]⟩, .slice A4 l4 c4] 25)
    have D1 := C1.alloc (.cells #[.int .u8 2, .int .u64 1, .string ⟨#[]⟩, .slice A4 l4 c4] 25)
    have D3 := (B3.call hb4).alloc (.cells #[.int .u8 2, .int .u64 1, .string ⟨#[]⟩, .slice A4 l4 c4] 25)
    have D4 := Box.new w4 (.int .u8 2) (.int .u64 1) (.string ⟨#[]⟩) (.slice A4 l4 c4)
    have hK3 := (hK3.call hb4).alloc (.cells #[.int .u8 2, .int .u64 1, .string ⟨#[]⟩, .slice A4 l4 c4] 25)
    have hK4 := hK4.alloc (.cells #[.int .u8 2, .int .u64 1, .string ⟨#[]⟩, .slice A4 l4 c4] 25)
    have HT := Lib.hid (tab_alloc (HT.out.call hb4) (.cells #[.int .u8 2, .int .u64 1, .string ⟨#[]⟩, .slice A4 l4 c4] 25))
    clear B1 B2 B3 pf qf rf
    obtain ⟨p0, p1, p2, p3, pf⟩ := C1.all
    clear C1
    go_wp2_with fail
    refine (many_b _ 4 4 _ (bks_kd _ _ (World.size_alloc _ _))).mono ?_
    rintro e w6 ⟨A6, l6, c6, rfl, hN6, hb6⟩
    have hb6' := (below_next (hb5.alloc hb5.size (.cells #[.int .u8 5, .int .u64 1, .string ⟨#[]⟩, .slice none 0 0, .int .u8 5, .int .u64 1, .string ⟨#[]⟩, .slice none 0 0, .int .u8 5, .int .u64 1, .string ⟨#[]⟩, .slice none 0 0, .int .u8 5, .int .u64 1, .string ⟨#[]⟩, .slice none 0 0] 25)) hb6)
    have HF : Five g1 g3 w4.heap.size w6.heap.size A3 A4 A6 l3 c3 l4 c4 l6 c6 (w6.alloc (.cells #[.int .u8 23, .int .u64 0, .string ⟨#[]⟩, .slice A6 l6 c6] 25)) (w6.alloc (.cells #[.int .u8 23, .int .u64 0, .string ⟨#[]⟩, .slice A6 l6 c6] 25)) :=
      ⟨((D1.alloc _).call hb6).alloc _, ((D3.alloc _).call hb6).alloc _, ((D4.alloc _).call hb6).alloc _, Box.new w6 _ _ _ _, ((hK3.alloc _).call hb6).alloc _, ((hK4.alloc _).call hb6).alloc _, hN6.kd.alloc _, tab_alloc ((tab_alloc HT.out _).call hb6) _, Below.refl _ _⟩
    have hb7 := hb6'.alloc hb6'.size (.cells #[.int .u8 23, .int .u64 0, .string ⟨#[]⟩, .slice A6 l6 c6] 25)
    clear D1 D3 D4 hK3 hK4 HT hN6 hb6 hb6' hb5 p0 p1 p2 p3 pf q0 q1 q2 q3 r0 r1 r2 r3 H00 H0 hbx hBx hB2 hb4 B1 B2
    go_wp2_with fail
    obtain ⟨W, hW⟩ : ∃ W, w6.alloc (.cells #[.int .u8 23, .int .u64 0, .string ⟨#[]⟩, .slice A6 l6 c6] 25) = W := ⟨_, rfl⟩
    obtain ⟨g4, hg4⟩ : ∃ g, w4.heap.size = g := ⟨_, rfl⟩
    obtain ⟨g6, hg6⟩ : ∃ g, w6.heap.size = g := ⟨_, rfl⟩
    rw [hW] at HF hb7 ⊢
    rw [hg4, hg6] at HF ⊢
    clear hW hg4 hg6
    have HF0 := HF.drew
    go_region_held3 (fun wx => wx.cell? ⟨g1, 0, none⟩ = some (.int .u8 5) ∧ wx.cell? ⟨g1, 1, none⟩ = some (.int .u64 1) ∧ wx.cell? ⟨g1, 2, none⟩ = some (.string ⟨#[]⟩) ∧ wx.cell? ⟨g1, 3, none⟩ = some (.slice none 0 0) ∧ wx.cell? ⟨g3, 0, none⟩ = some (.int .u8 23) ∧ wx.cell? ⟨g3, 1, none⟩ = some (.int .u64 0) ∧ wx.cell? ⟨g3, 2, none⟩ = some (.string ⟨#[]⟩) ∧ wx.cell? ⟨g3, 3, none⟩ = some (.slice A3 l3 c3) ∧ wx.cell? ⟨g4, 0, none⟩ = some (.int .u8 2) ∧ wx.cell? ⟨g4, 1, none⟩ = some (.int .u64 1) ∧ wx.cell? ⟨g4, 2, none⟩ = some (.string ⟨#[]⟩) ∧ wx.cell? ⟨g4, 3, none⟩ = some (.slice A4 l4 c4) ∧ wx.cell? ⟨g6, 0, none⟩ = some (.int .u8 23) ∧ wx.cell? ⟨g6, 1, none⟩ = some (.int .u64 0) ∧ wx.cell? ⟨g6, 2, none⟩ = some (.string ⟨#[]⟩) ∧ wx.cell? ⟨g6, 3, none⟩ = some (.slice A6 l6 c6) ∧ Five g1 g3 g4 g6 A3 A4 A6 l3 c3 l4 c4 l6 c6 W wx) (with_reducible first | assumption | exact Five.cells HF0 | exact Five.cells (Five.call (Five.of (by assumption)) (by assumption)) | fail)
      (first
      | (go_at_call 13; (with_reducible refine (right_m _ _ _ _ (by with_reducible exact Five.m (Five.of (by assumption))) (by with_reducible exact Five.t (Five.of (by assumption)))).mono ?_); rintro e u1 ⟨rfl, hc1⟩)
      | (go_at_call 13; (with_reducible refine (right_b _ _ _ _ (by with_reducible exact Five.b (Five.of (by assumption))) (by with_reducible exact Five.t (Five.of (by assumption)))).mono ?_); rintro e u2 ⟨rfl, hc2⟩)
      | (go_at_call 19; (with_reducible refine (num_300 _).mono ?_); rintro e u3 ⟨rfl, hc3⟩)
      | (go_at_call 13; (with_reducible refine (right_300 _ (by with_reducible exact Five.t (Five.of (by assumption)))).mono ?_); rintro e u4 ⟨rfl, hc4⟩)
      | (go_at_call 23; (with_reducible refine (tru_new _).mono ?_); rintro e u5 ⟨rfl, hc5⟩)
      | (go_at_call 18; (with_reducible refine (same_x _ _ _ _ (by with_reducible exact Five.x (Five.of (by assumption)))).mono ?_); rintro e u6 ⟨rfl, hc6⟩)
      | (go_at_call 30; (with_reducible refine (items_m _ _ _ _ (by with_reducible exact Five.m (Five.of (by assumption)))).mono ?_); rintro e u7 ⟨rfl, hc7⟩)
      | (go_at_call 28; (with_reducible refine (depth_m _ _ _ _ (by with_reducible exact Five.m (Five.of (by assumption)))).mono ?_); rintro e u8 ⟨rfl, hc8⟩)
      | (go_at_call 20; (with_reducible refine (text_a _).mono ?_); rintro e u9 ⟨rfl, hc9⟩)
      | (go_at_call 24; (with_reducible refine (desc_1 _).mono ?_); rintro e u10 ⟨A7, l7, c7, rfl, hN7, hc10⟩; have hK7 := hN7.kd)
      | (go_at_call 13; (with_reducible refine (right_d1 _ _ _ _ hK7 (by with_reducible exact Five.t (Five.of (by assumption)))).mono ?_); rintro e u11 ⟨rfl, hc11⟩)
      | (go_at_call 24; (with_reducible refine (desc_2 _).mono ?_); rintro e u12 ⟨A8, l8, c8, rfl, hN8, hc12⟩; have hK8 := hN8.kd)
      | (go_at_call 13; (with_reducible refine (right_d2 _ _ _ _ hK8 (by with_reducible exact Five.t (Five.of (by assumption)))).mono ?_); rintro e u13 ⟨rfl, hc13⟩)
      | fail)
    all_goals
      have hlow := Five.low (Five.of (by assumption))
      go_wp2
      go_ret
      exact ⟨rfl, below_next hb7 hlow⟩
end Go.Proofs.YtdbcdabijolagaaDoor.Val
