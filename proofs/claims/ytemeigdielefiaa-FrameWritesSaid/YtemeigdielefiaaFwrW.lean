/-
  The statement FrameWrites, walked: it answers true. Memory that was there stays. No condition.
-/
import Derived.Test.YtemeigdielefiaaFap
import Derived.Test.YtemeigdielefiaaFrk
import Derived.Deep.DeepCutAuto
namespace Go.Proofs.Ytemeigdielefiaa.frameWrites
set_option maxRecDepth 100000
open Go.RowKit Go.Proofs.Ytemeigdielefiaa.Utf Go.Proofs.Ytemeigdielefiaa.Enc Go.Proofs.Ytemeigdielefiaa.Fr

theorem walk_long (ch : Nat) (A : Option Addr) (n c : Nat) (w : World) (h : 16384 < n) :
    Calls Try.prog 3 #[.agg #[.int .u16 (ch : Int), .slice A n c]] w fun e w' => e = .returned (.bool true) ∧ Below w.heap.size w w' := by
  have hb0 : Below w.heap.size w (w.alloc (.cells #[.int .u16 (ch : Int), .slice A n c] 25)) := ba (Below.refl _ _) _
  have d : decide (16384 < (n : Int)) = true := by simp; omega
  clear h
  go_enter Try.func3, Try.ntmps3
  go_wp2_with (go_at_call 9; (with_reducible refine (works_any _).mono ?_); rintro e w1 ⟨rfl, hb1⟩)
  go_ret
  exact ⟨rfl, bn hb0 hb1⟩
theorem set2 {w : World} {g x y n c n' c' : Nat} {A A' : Option Addr} (h : BxF w g x A n c) : BxF ((w.setCell ⟨g, 0, none⟩ (.int .u16 (y : Int))).setCell ⟨g, 1, none⟩ (.slice A' n' c')) g y A' n' c' := by
  unfold BxF at h ⊢
  have h1 : (w.setCell ⟨g, 0, none⟩ (.int .u16 (y : Int))).heap[g]? = some (.cells #[.int .u16 (y : Int), .slice A n c] 25 (0, 0)) := by
    rw [setCell_eq_setRow w g 0 _ _ _ _ h, setRow_heap w g _ _ _ _ h]
    rfl
  rw [setCell_eq_setRow _ g 1 _ _ _ _ h1, setRow_heap _ g _ _ _ _ h1]
  rfl
/-- The roomy frame, in its box. -/
def RF (W w : World) (ch n : Nat) (b : List Nat) (g3 g : Nat) : Prop := BxF w g3 ch (some ⟨g, 0, none⟩) n (n + 11) ∧ Rm.Rmy w W.heap.size g n b ∧ Below W.heap.size W w
theorem rf1 {W w wb : World} {ch n g : Nat} {b : List Nat} (hy : Rm.Rmy w wb.heap.size g n b) (hs : W.heap.size ≤ wb.heap.size) (hb : Below W.heap.size W w) : RF W (w.alloc (.cells #[.int .u16 (ch : Int), .slice (some ⟨g, 0, none⟩) n (n + 11)] 25)) ch n b w.heap.size g :=
  ⟨heap_alloc_new w _, ⟨(hy.own.mono hs).alloc _, hy.len⟩, ba hb _⟩
theorem rf2 {W w wb : World} {ch x n g : Nat} {b : List Nat} {A : Option Addr} {n' c' : Nat} (hy : Rm.Rmy w wb.heap.size g n b) (hs : W.heap.size < wb.heap.size) (hx : BxF w W.heap.size x A n' c') (hb : Below W.heap.size W w) : RF W ((w.setCell ⟨W.heap.size, 0, none⟩ (.int .u16 (ch : Int))).setCell ⟨W.heap.size, 1, none⟩ (.slice (some ⟨g, 0, none⟩) n (n + 11))) ch n b W.heap.size g :=
  ⟨set2 hx, ⟨Own.mono (own_setBelow (own_setBelow hy.own hs _) hs _) (Nat.le_of_lt hs), hy.len⟩, (hb.setCell (by simp) _).setCell (by simp) _⟩
set_option maxHeartbeats 4000000 in
theorem walk_main (ch : Nat) (A : Option Addr) (n c : Nat) (b : List Nat) (w : World) (hch : ch < 65536) (hr : Rd .u8 256 w w.heap.size A n b) (hn : n ≤ 16384) :
    Calls Try.prog 3 #[.agg #[.int .u16 (ch : Int), .slice A n c]] w fun e w' => e = .returned (.bool true) ∧ Below w.heap.size w w' := by
  have d1 : decide (16384 < (n : Int)) = false := by simp; omega
  have hx0 : BxF (w.alloc (.cells #[.int .u16 (ch : Int), .slice A n c] 25)) w.heap.size ch A n c := heap_alloc_new w _
  have hb0 : Below w.heap.size w (w.alloc (.cells #[.int .u16 (ch : Int), .slice A n c] 25)) := ba (Below.refl _ _) _
  have HX0 := Lib.hid hx0
  have HB0 := Lib.hid hb0
  have HR := Lib.hid hr
  have HR0 := Lib.hid (hr.call hb0)
  clear hx0 hb0 hr
  go_enter Try.func3, Try.ntmps3
  go_upto_region 3 with fail
  generalize hW0 : w.alloc (.cells #[.int .u16 (ch : Int), .slice A n c] 25) = W0 at *
  obtain ⟨x0, x1, xf, xl⟩ := HX0.out.all
  have HS : Hid (∀ wy, Below W0.heap.size W0 wy → wy.cell? ⟨w.heap.size, 0, none⟩ = some (.int .u16 (ch : Int)) ∧ wy.cell? ⟨w.heap.size, 1, none⟩ = some (.slice A n c)) := Lib.hid fun wy h => ⟨(HX0.out.call h).all.1, (HX0.out.call h).all.2.1⟩
  clear hW0
  go_cut [3] (fun s3 wx => ∃ g3 g, s3 = .pointer (some ⟨g3, 0, none⟩) ∧ RF W0 wx ch n b g3 g)
  case first =>
    go_region_held3 (fun wx => wx.cell? ⟨w.heap.size, 0, none⟩ = some (.int .u16 (ch : Int)) ∧ wx.cell? ⟨w.heap.size, 1, none⟩ = some (.slice A n c))
      (with_reducible first | assumption | exact HS.out _ (by repeat' (with_reducible first | exact Below.refl _ _ | refine Below.drew ?_ | refine ba ?_ _ | refine Below.setCell ?_ (by simp <;> omega) _ | refine bn ?_ (by assumption))) | fail)
      (first
        | (go_at_call 10; (with_reducible refine (Rm.room A n c b _ (Rd.call HR0.out (by repeat' (with_reducible first | exact Below.refl _ _ | refine Below.drew ?_ | refine ba ?_ _ | refine bn ?_ (by assumption)))) (by omega)).mono ?_); rintro e w5 ⟨g, rfl, hy5, hb5⟩; (try (have hz := BxF.call (w := (W0.alloc (.cells #[.int .u16 0, .slice none 0 0] 25)).drew) (show BxF _ W0.heap.size 0 none 0 0 from heap_alloc_new W0 _) hb5; obtain ⟨z0, z1, zf, _⟩ := hz.all)))
        | fail)
    all_goals
      go_wp2_with fail
      go_meet
      refine ⟨_, g, rfl, ?_⟩
      first
        | (with_reducible refine rf1 hy5 (by simp) ?_; exact (by repeat' (with_reducible first | exact Below.refl _ _ | refine Below.drew ?_ | refine ba ?_ _ | refine bn ?_ (by assumption))))
        | (with_reducible refine rf2 hy5 (by simp) hz ?_; exact (by repeat' (with_reducible first | exact Below.refl _ _ | refine Below.drew ?_ | refine ba ?_ _ | refine bn ?_ (by assumption))))
  case rest =>
    obtain ⟨g3, g, rfl, hx3, hy3, hb3⟩ := hcut
    have HX3 := Lib.hid hx3
    have HY3 := Lib.hid hy3
    have HB3 := Lib.hid (HB0.out.trans (hb3.mono HB0.out.size))
    have HXF := Lib.hid (HX0.out.call hb3)
    obtain ⟨y0, y1, _, _⟩ := hx3.all
    have hgl := hy3.blk.2
    have HRI := Lib.hid (hy3.mine.rd)
    clear hb3 hx3 hy3 x0 x1 xf xl HS
    go_wp2_with fail
    (with_reducible refine (write_any ch (some ⟨g, 0, none⟩) n (n + 11) b _ hch HRI.out (by omega)).mono ?_)
    rintro e w4 ⟨A4, n4, c4, rfl, ho4, hb4⟩
    have hn4 : n4 = 8 + n := by rw [← ho4.len, layF_length, HR.out.len]
    subst hn4
    have HB4 := Lib.hid (HB3.out.trans (hb4.mono HB3.out.size))
    have HX4 := Lib.hid (HX3.out.call hb4)
    have HY4 := Lib.hid (HY3.out.below hb4)
    have HO4 := Lib.hid ho4
    have HXF4 := Lib.hid (HXF.out.call hb4)
    obtain ⟨y0, y1, _, _⟩ := HX4.out.all
    have hs4 := hb4.size
    clear hb4 ho4
    go_wp2_with fail
    (with_reducible refine (write_any ch (some ⟨g, 0, none⟩) n (n + 11) b _ hch HY4.out.mine.rd (by omega)).mono ?_)
    rintro e w5 ⟨A5, n5, c5, rfl, ho5, hb5⟩
    have hn5 : n5 = 8 + n := by rw [← ho5.len, layF_length, HR.out.len]
    subst hn5
    have HB5 := Lib.hid (HB4.out.trans (hb5.mono HB4.out.size))
    have HX5 := Lib.hid (HX4.out.call hb5)
    have HY5 := Lib.hid (HY4.out.below hb5)
    have HO5 := Lib.hid ho5
    have HO45 := Lib.hid (HO4.out.below hb5)
    have HXF5 := Lib.hid (HXF4.out.call hb5)
    obtain ⟨z0, z1, _, _⟩ := HXF5.out.all
    have hg4 := HO4.out.blk
    clear hb5 ho5
    have HRW := Lib.hid (xwrite_any ch A n c b w5 hch (HR.out.call HB5.out) (by omega))
    go_wp2_with fail
    (with_reducible refine HRW.out.mono ?_)
    rintro e w6 ⟨A6, n6, c6, rfl, ho6, hb6⟩
    have hn6 : n6 = 8 + n := by rw [← ho6.len, layF_length, HR.out.len]
    subst hn6
    have HB6 := Lib.hid (HB5.out.trans (hb6.mono HB5.out.size))
    have HY6 := Lib.hid (HY5.out.below hb6)
    have HO6 := Lib.hid (HO45.out.below hb6)
    have HP6 := Lib.hid (HO5.out.below hb6)
    have hr6 := ho6.rd
    obtain ⟨z0, z1, _, _⟩ := (HXF5.out.call hb6).all
    obtain ⟨y0, y1, _, _⟩ := (HX5.out.call hb6).all
    have hrow : (w6.alloc (.cells #[.slice A4 (8 + n) c4, .slice A5 (8 + n) c5, .slice (some ⟨g, 0, none⟩) n (n + 11)] 23)).heap[w6.heap.size]? = some (.cells #[.slice A4 (8 + n) c4, .slice A5 (8 + n) c5, .slice (some ⟨g, 0, none⟩) n (n + 11)] 23 (0, 0)) := heap_alloc_new w6 _
    have hW0 : w.heap.size ≤ W0.heap.size := HB0.out.size
    have HA := Lib.hid (apart3 (base := w.heap.size) (x := wc.heap.size) (y := w4.heap.size) hrow (Own.mono (HO6.out.alloc _) HB3.out.size) (Own.mono (HP6.out.alloc _) HB4.out.size) (Own.mono (Rm.Rmy.mine (HY6.out.below (ba (Below.refl _ _) _))) hW0) (fun b o e => hg4 b (by rw [e]; rfl)) (fun b o e => (HP6.out.blk b (by rw [e]; rfl)).1) (fun b o e => by injection e with e; injection e with e1 _; omega) hs4)
    have HKP := Lib.hid (Rm.kept _ g n A c b w6 HY6.out (HR.out.call HB6.out) (by omega))
    clear hb6 ho6 hrow hg4 hs4 hgl hW0
    go_wp2_with (first
      | (go_at_call 12; (with_reducible refine (eqbytes_same _ _ A4 A6 (8 + n) c4 c6 _ w6 HO6.out.rd hr6).mono ?_); rintro e w7 ⟨rfl, rfl⟩)
      | (go_at_call 14; (with_reducible refine HKP.out.mono ?_); rintro e w7 ⟨rfl, rfl⟩)
      | (go_at_call 15; (with_reducible refine HA.out.mono ?_); rintro e w7 ⟨rfl, hb7⟩; have HB7 := Lib.hid (bn (ba HB6.out _) hb7); clear hb7)
      | (go_at_call 9; (with_reducible refine (works_any _).mono ?_); rintro e w8 ⟨rfl, hb8⟩)
      | fail)
    go_ret
    exact ⟨rfl, bn HB7.out hb8⟩
theorem walk (ch : Nat) (A : Option Addr) (n c : Nat) (b : List Nat) (w : World) (hch : ch < 65536) (hr : Rd .u8 256 w w.heap.size A n b) :
    Calls Try.prog 3 #[.agg #[.int .u16 (ch : Int), .slice A n c]] w fun e w' => e = .returned (.bool true) ∧ Below w.heap.size w w' := by
  by_cases h : 16384 < n
  · exact walk_long ch A n c w h
  · exact walk_main ch A n c b w hch hr (by omega)
end Go.Proofs.Ytemeigdielefiaa.frameWrites
