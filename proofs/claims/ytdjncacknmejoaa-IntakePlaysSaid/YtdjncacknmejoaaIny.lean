/-
  Contract of package intake's further: the next frame of what is held. Memory that was there stays; the body lies in new memory. No other condition.
-/
import Derived.Test.YtdjncacknmejoaaInx
import Derived.Test.YtdjncacknmejoaaFrs
namespace Go.Proofs.Ytdjncacknmejoaa.It
set_option maxRecDepth 100000
open Go.RowKit Go.Proofs.Ytdjncacknmejoaa.Utf Go.Proofs.Ytdjncacknmejoaa.Enc Go.Proofs.Ytdjncacknmejoaa.Fr

def GivesFur (k ch z : Nat) (bd : List Nat) (w : World) (e : Ending) (w' : World) : Prop :=
  ∃ A c, e = .returned (.tuple #[.int .u8 (k : Int), .agg #[.int .u16 (ch : Int), .slice A bd.length c], .int .i64 (z : Int)]) ∧ Own .u8 256 5 w' w.heap.size A bd.length c bd ∧ Below w.heap.size w w'
theorem GivesFur.no {k : Nat} {w w1 : World} (h : Below w.heap.size w w1) : GivesFur k 0 0 [] w (.returned (.tuple #[.int .u8 (k : Int), .agg #[.int .u16 0, .slice none 0 0], .int .i64 0])) w1 := ⟨none, 0, rfl, Own.nil _ _ _ _ _, h⟩
theorem cell_set2 {w : World} {g b j : Nat} {v : Value} (v0 v1 : Value) (hne : g ≠ b) (h : w.cell? ⟨g, j, none⟩ = some v) : ((w.setCell ⟨b, 0, none⟩ v0).setCell ⟨b, 1, none⟩ v1).cell? ⟨g, j, none⟩ = some v := by
  rw [World.cell?_setCell_other _ _ _ _ (by intro e; injection e with e; exact hne e.symm), World.cell?_setCell_other _ _ _ _ (by intro e; injection e with e; exact hne e.symm)]
  exact h
theorem BxF.store {w : World} {b x n c : Nat} {A : Option Addr} (h : BxF w b x A n c) (x' n' c' : Nat) (A' : Option Addr) : BxF ((w.setCell ⟨b, 0, none⟩ (.int .u16 (x' : Int))).setCell ⟨b, 1, none⟩ (.slice A' n' c')) b x' A' n' c' := by
  unfold BxF at h ⊢
  simp [World.setCell, Array.getElem?_modify, h]
theorem own_drew {K : IntKind} {M : Nat} {T : TypeId} {w : World} {base n c : Nat} {A : Option Addr} {l : List Nat} (h : Own K M T w base A n c l) : Own K M T w.drew base A n c l := h.below ((Below.refl _ _).drew)
theorem BxF.drew {w : World} {b x n c : Nat} {A : Option Addr} (h : BxF w b x A n c) : BxF w.drew b x A n c := h
set_option maxHeartbeats 1000000 in
theorem further_ok (g m ch z : Nat) (A : Option Addr) (n c : Nat) (l bd : List Nat) (w : World) (hm : m < 4294967296) (hg : g < w.heap.size) (c0 : w.cell? ⟨g, 0, none⟩ = some (.int .u32 (m : Int))) (c1 : w.cell? ⟨g, 1, none⟩ = some (.slice A n c)) (hr : Rd .u8 256 w w.heap.size A n l) (hnc : n ≤ c) (hn : n ≤ 1099511627776) (he : erF l m = 0) (h1 : chF l = ch) (h2 : nF l = z) (h3 : bodyF l = bd) :
    Calls Try.prog 39 #[.pointer (some ⟨g, 0, none⟩)] w (GivesFur 2 ch z bd w) := by
  have hb0 : Below w.heap.size w (w.alloc (.cells #[.int .u16 0, .slice none 0 0] 39)) := ba (Below.refl _ _) _
  have hr0 := hr.call hb0
  have c0' := (hb0.cell (p := ⟨g, 0, none⟩) hg).trans c0
  have c1' := (hb0.cell (p := ⟨g, 1, none⟩) hg).trans c1
  have hx0 : BxF (w.alloc (.cells #[.int .u16 0, .slice none 0 0] 39)) w.heap.size 0 none 0 0 := heap_alloc_new w _
  obtain ⟨bl, hbl⟩ : ∃ bl, bd.length = bl := ⟨_, rfl⟩
  have hgl : g < (w.alloc (.cells #[.int .u16 0, .slice none 0 0] 39)).heap.size := by simp; omega
  have hgn : g ≠ w.heap.size := by omega
  have HB0 := Lib.hid hb0
  have HX0 := Lib.hid (show BxF (w.alloc (.cells #[.int .u16 0, .slice none 0 0] 39)).drew w.heap.size 0 none 0 0 from hx0)
  have HRD : Hid (Calls Try.prog 26 #[.slice A n c, .int .u32 (m : Int)] (w.alloc (.cells #[.int .u16 0, .slice none 0 0] 39)).drew (Fr.Told ch z bl bd (w.alloc (.cells #[.int .u16 0, .slice none 0 0] 39)).drew)) := Lib.hid (read_ok ch z bl bd _ (hr0.below (Below.drew (Below.refl _ _))) hnc hn hm he h1 h2 h3 hbl)
  have HBL := Lib.hid hbl
  clear hb0 hr0 hx0 hr c0 c1 he h1 h2 h3 hbl
  go_enter Try.func39, Try.ntmps39
  go_wp2_with fail
  go_region_held3 (fun wx => wx.cell? ⟨g, 0, none⟩ = some (.int .u32 (m : Int)) ∧ wx.cell? ⟨g, 1, none⟩ = some (.slice A n c)) (first | exact ⟨c0', c1'⟩ | exact ⟨d0, d1⟩ | exact ⟨cell_set2 _ _ hgn d0, cell_set2 _ _ hgn d1⟩)
    (first
    | (go_at_call 26; (with_reducible refine HRD.out.mono ?_); rintro e w2 ⟨A2, c2, rfl, ho2, hb2⟩; obtain ⟨x0, x1, xf, hg2⟩ := (HX0.out.call hb2).all; have d0 := (hb2.cell (p := ⟨g, 0, none⟩) hgl).trans c0'; have d1 := (hb2.cell (p := ⟨g, 1, none⟩) hgl).trans c1')
    | fail)
  have hx2 := HX0.out.call hb2
  have hx3 := BxF.store hx2 ch bl c2 A2
  have ho3 := own_setBelow (own_setBelow ho2 (g := w.heap.size) (j := 0) (by simp) (.int .u16 (ch : Int))) (g := w.heap.size) (j := 1) (by simp) (.slice A2 bl c2)
  have hbw : Below w.heap.size w w2 := HB0.out.drew.trans (hb2.mono HB0.out.drew.size)
  have hb3 : Below w.heap.size w ((w2.setCell ⟨w.heap.size, 0, none⟩ (.int .u16 (ch : Int))).setCell ⟨w.heap.size, 1, none⟩ (.slice A2 bl c2)) := (hbw.setCell (Nat.le_refl _) _).setCell (Nat.le_refl _) _
  generalize ((w2.setCell ⟨w.heap.size, 0, none⟩ (.int .u16 (ch : Int))).setCell ⟨w.heap.size, 1, none⟩ (.slice A2 bl c2)) = w3 at *
  obtain ⟨y0, y1, yf, _⟩ := hx3.all
  have HB3 := Lib.hid hb3
  have HO3 := Lib.hid ho3
  have HX3 := Lib.hid hx3
  clear hb2 hx2 hx3 ho3 hbw hb3 ho2 x0 x1 xf d0 d1 hg2
  go_wp2_with fail
  go_region_with (fail)
  all_goals
    go_wp2
    refine bodyPost_ret (v := .tuple #[.int .u8 2, .agg #[.int .u16 (ch : Int), .slice A2 bl c2], .int .i64 (z : Int)]) (by simp [results, Try.results39, go_sem, y0, y1]) rfl ?_
    refine ⟨A2, c2, by rw [HBL.out]; rfl, ?_, ?_⟩
    · rw [HBL.out]
      exact Own.mono (own_setBelow (own_setBelow (own_drew HO3.out) (by simp) _) (by simp) _) HB0.out.drew.size
    · exact (HB3.out.drew.setCell (Nat.le_refl _) _).setCell (Nat.le_refl _) _
set_option maxHeartbeats 1000000 in
theorem further_6 (g m : Nat) (A : Option Addr) (n c : Nat) (l : List Nat) (w : World) (hm : m < 4294967296) (hg : g < w.heap.size) (c0 : w.cell? ⟨g, 0, none⟩ = some (.int .u32 (m : Int))) (c1 : w.cell? ⟨g, 1, none⟩ = some (.slice A n c)) (hr : Rd .u8 256 w w.heap.size A n l) (hnc : n ≤ c) (hn : n ≤ 1099511627776) (he : erF l m = 6) :
    Calls Try.prog 39 #[.pointer (some ⟨g, 0, none⟩)] w (GivesFur 3 0 0 [] w) := by
  have hb0 : Below w.heap.size w (w.alloc (.cells #[.int .u16 0, .slice none 0 0] 39)) := ba (Below.refl _ _) _
  have hr0 := hr.call hb0
  have c0' := (hb0.cell (p := ⟨g, 0, none⟩) hg).trans c0
  have c1' := (hb0.cell (p := ⟨g, 1, none⟩) hg).trans c1
  have hx0 : BxF (w.alloc (.cells #[.int .u16 0, .slice none 0 0] 39)) w.heap.size 0 none 0 0 := heap_alloc_new w _
  have hgl : g < (w.alloc (.cells #[.int .u16 0, .slice none 0 0] 39)).heap.size := by simp; omega
  have hgn : g ≠ w.heap.size := by omega
  have HB0 := Lib.hid hb0
  have HX0 := Lib.hid (show BxF (w.alloc (.cells #[.int .u16 0, .slice none 0 0] 39)).drew w.heap.size 0 none 0 0 from hx0)
  have HRD : Hid (Calls Try.prog 26 #[.slice A n c, .int .u32 (m : Int)] (w.alloc (.cells #[.int .u16 0, .slice none 0 0] 39)).drew (Says (.tuple #[.agg #[.int .u16 0, .slice none 0 0], .int .i64 0, .int .i64 6]) (w.alloc (.cells #[.int .u16 0, .slice none 0 0] 39)).drew)) := Lib.hid (read_no6 _ (hr0.below (Below.drew (Below.refl _ _))) hnc hn hm he)
  clear hb0 hr0 hx0 hr c0 c1 he
  go_enter Try.func39, Try.ntmps39
  go_wp2_with fail
  go_region_held3 (fun wx => wx.cell? ⟨g, 0, none⟩ = some (.int .u32 (m : Int)) ∧ wx.cell? ⟨g, 1, none⟩ = some (.slice A n c)) (first | exact ⟨c0', c1'⟩ | exact ⟨d0, d1⟩ | exact ⟨cell_set2 _ _ hgn d0, cell_set2 _ _ hgn d1⟩)
    (first
    | (go_at_call 26; (with_reducible refine HRD.out.mono ?_); rintro e w2 ⟨rfl, hb2⟩; obtain ⟨x0, x1, xf, hg2⟩ := (HX0.out.call hb2).all; have d0 := (hb2.cell (p := ⟨g, 0, none⟩) hgl).trans c0'; have d1 := (hb2.cell (p := ⟨g, 1, none⟩) hgl).trans c1')
    | fail)
  have hx3 : BxF ((w2.setCell ⟨w.heap.size, 0, none⟩ (.int .u16 0)).setCell ⟨w.heap.size, 1, none⟩ (.slice none 0 0)) w.heap.size 0 none 0 0 := BxF.store (HX0.out.call hb2) 0 0 0 none
  have hb3 : Below w.heap.size w ((w2.setCell ⟨w.heap.size, 0, none⟩ (.int .u16 0)).setCell ⟨w.heap.size, 1, none⟩ (.slice none 0 0)) := ((HB0.out.drew.trans (hb2.mono HB0.out.drew.size)).setCell (Nat.le_refl _) _).setCell (Nat.le_refl _) _
  generalize ((w2.setCell ⟨w.heap.size, 0, none⟩ (.int .u16 0)).setCell ⟨w.heap.size, 1, none⟩ (.slice none 0 0)) = w3 at *
  obtain ⟨y0, y1, yf, _⟩ := hx3.all
  have HB3 := Lib.hid hb3
  clear hb2 hb3 d0 d1 x0 x1 xf hg2 hx3
  go_wp2
  refine bodyPost_ret (v := .tuple #[.int .u8 3, .agg #[.int .u16 0, .slice none 0 0], .int .i64 0]) (by simp [results, Try.results39, go_sem, y0, y1]) rfl ?_
  exact GivesFur.no ((HB3.out.setCell (Nat.le_refl _) _).setCell (Nat.le_refl _) _)
set_option maxHeartbeats 1000000 in
theorem further_7 (g m : Nat) (A : Option Addr) (n c : Nat) (l : List Nat) (w : World) (hm : m < 4294967296) (hg : g < w.heap.size) (c0 : w.cell? ⟨g, 0, none⟩ = some (.int .u32 (m : Int))) (c1 : w.cell? ⟨g, 1, none⟩ = some (.slice A n c)) (hr : Rd .u8 256 w w.heap.size A n l) (hnc : n ≤ c) (hn : n ≤ 1099511627776) (he : erF l m = 7) :
    Calls Try.prog 39 #[.pointer (some ⟨g, 0, none⟩)] w (GivesFur 0 0 0 [] w) := by
  have hb0 : Below w.heap.size w (w.alloc (.cells #[.int .u16 0, .slice none 0 0] 39)) := ba (Below.refl _ _) _
  have hr0 := hr.call hb0
  have c0' := (hb0.cell (p := ⟨g, 0, none⟩) hg).trans c0
  have c1' := (hb0.cell (p := ⟨g, 1, none⟩) hg).trans c1
  have hx0 : BxF (w.alloc (.cells #[.int .u16 0, .slice none 0 0] 39)) w.heap.size 0 none 0 0 := heap_alloc_new w _
  have hgl : g < (w.alloc (.cells #[.int .u16 0, .slice none 0 0] 39)).heap.size := by simp; omega
  have hgn : g ≠ w.heap.size := by omega
  have HB0 := Lib.hid hb0
  have HX0 := Lib.hid (show BxF (w.alloc (.cells #[.int .u16 0, .slice none 0 0] 39)).drew w.heap.size 0 none 0 0 from hx0)
  have HRD : Hid (Calls Try.prog 26 #[.slice A n c, .int .u32 (m : Int)] (w.alloc (.cells #[.int .u16 0, .slice none 0 0] 39)).drew (Says (.tuple #[.agg #[.int .u16 0, .slice none 0 0], .int .i64 0, .int .i64 7]) (w.alloc (.cells #[.int .u16 0, .slice none 0 0] 39)).drew)) := Lib.hid (read_no7 _ (hr0.below (Below.drew (Below.refl _ _))) hnc hn hm he)
  clear hb0 hr0 hx0 hr c0 c1 he
  go_enter Try.func39, Try.ntmps39
  go_wp2_with fail
  go_region_held3 (fun wx => wx.cell? ⟨g, 0, none⟩ = some (.int .u32 (m : Int)) ∧ wx.cell? ⟨g, 1, none⟩ = some (.slice A n c)) (first | exact ⟨c0', c1'⟩ | exact ⟨d0, d1⟩ | exact ⟨cell_set2 _ _ hgn d0, cell_set2 _ _ hgn d1⟩)
    (first
    | (go_at_call 26; (with_reducible refine HRD.out.mono ?_); rintro e w2 ⟨rfl, hb2⟩; obtain ⟨x0, x1, xf, hg2⟩ := (HX0.out.call hb2).all; have d0 := (hb2.cell (p := ⟨g, 0, none⟩) hgl).trans c0'; have d1 := (hb2.cell (p := ⟨g, 1, none⟩) hgl).trans c1')
    | fail)
  have hx3 : BxF ((w2.setCell ⟨w.heap.size, 0, none⟩ (.int .u16 0)).setCell ⟨w.heap.size, 1, none⟩ (.slice none 0 0)) w.heap.size 0 none 0 0 := BxF.store (HX0.out.call hb2) 0 0 0 none
  have hb3 : Below w.heap.size w ((w2.setCell ⟨w.heap.size, 0, none⟩ (.int .u16 0)).setCell ⟨w.heap.size, 1, none⟩ (.slice none 0 0)) := ((HB0.out.drew.trans (hb2.mono HB0.out.drew.size)).setCell (Nat.le_refl _) _).setCell (Nat.le_refl _) _
  generalize ((w2.setCell ⟨w.heap.size, 0, none⟩ (.int .u16 0)).setCell ⟨w.heap.size, 1, none⟩ (.slice none 0 0)) = w3 at *
  obtain ⟨y0, y1, yf, _⟩ := hx3.all
  have HB3 := Lib.hid hb3
  clear hb2 hb3 d0 d1 x0 x1 xf hg2 hx3
  go_wp2
  refine bodyPost_ret (v := .tuple #[.int .u8 0, .agg #[.int .u16 0, .slice none 0 0], .int .i64 0]) (by simp [results, Try.results39, go_sem, y0, y1]) rfl ?_
  exact GivesFur.no ((HB3.out.setCell (Nat.le_refl _) _).setCell (Nat.le_refl _) _)
end Go.Proofs.Ytdjncacknmejoaa.It
