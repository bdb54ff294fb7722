/-
  Contract of package intake's Next: what comes next. Memory that was there stays, but for the intake's own two blocks; a frame's body lies in new memory. No other condition.
-/
import Derived.Test.YtdjncacknmejoaaIny
namespace Go.Proofs.Ytdjncacknmejoaa.It
set_option maxRecDepth 100000
open Go.RowKit Go.Proofs.Ytdjncacknmejoaa.Utf Go.Proofs.Ytdjncacknmejoaa.Enc Go.Proofs.Ytdjncacknmejoaa.Fr

/-- What a teller answers, and what the intake's block is behind it. -/
def GivesTell (k ch z : Nat) (bd : List Nat) (g : Nat) (ob : Array Value) (w : World) (e : Ending) (w' : World) : Prop :=
  ∃ A c, e = .returned (.tuple #[.int .u8 (k : Int), .agg #[.int .u16 (ch : Int), .slice A bd.length c], .int .i64 (z : Int)]) ∧ Own .u8 256 5 w' w.heap.size A bd.length c bd ∧ Off (fun i => i = g) w w' ∧ w'.heap[g]? = some (.cells ob 62 (0, 0))
/-- What Next answers. -/
def GivesN (k ch : Nat) (bd : List Nat) (g h : Nat) (s : St) (w : World) (e : Ending) (w' : World) : Prop :=
  ∃ A c, e = .returned (.tuple #[.int .u8 (k : Int), .agg #[.int .u16 (ch : Int), .slice A bd.length c]]) ∧ Own .u8 256 5 w' w.heap.size A bd.length c bd ∧ In w' g h s ∧ Off (Xi g h) w w'
theorem BxF.off {w w' : World} {b x n c : Nat} {A : Option Addr} {X : Nat → Prop} (h : BxF w b x A n c) (ho : Off X w w') (hx : ¬ X b) : BxF w' b x A n c := (ho.block b h.all.2.2.2 hx).trans h
theorem own_off {w w' : World} {base n c : Nat} {A : Option Addr} {l : List Nat} {X : Nat → Prop} (h : Own .u8 256 5 w base A n c l) (ho : Off X w w') (hx : ∀ i, X i → i < base) : Own .u8 256 5 w' base A n c l := by
  have hk : ∀ g, (Value.slice A n c).ownBlock = some g → w'.heap[g]? = w.heap[g]? := fun g hg => ho.block g (h.blk g hg).2 fun hX => by have := (h.blk g hg).1; have := hx g hX; omega
  refine ⟨h.1, ⟨h.2.1.1, ?_⟩, h.2.2.keep hk⟩
  rcases h.2.1.2 with h1 | ⟨g, cap, cur, h1, h2, h3, h4⟩
  · exact .inl h1
  · exact .inr ⟨g, cap, cur, h1, h2, (hk g (by rw [h1]; rfl)).trans h3, h4⟩
set_option maxHeartbeats 2000000 in
theorem next_go (f : Nat) (hcall : ∀ (args : Array Value) (W : World), (callFunc f args).run Try.prog W = .ok (.enter f args) W) (g h k ch z n M m : Nat) (bd : List Nat) (hd : List Nat) (R : List Nat) (t t' : Value) (w : World) (hg : w.heap[g]? = some (.cells #[.int .u32 (m : Int), .slice (some ⟨h, 0, none⟩) n M, .bool false, t] 62 (0, 0))) (hR : Blk w h R) (hRl : R.length = M) (hRt : R.take n = hd) (hn : n ≤ M) (hne : g ≠ h) (hk : k ≠ 3) (hz : z ≤ n) (ht : t = .func (.func f) #[.pointer (some ⟨g, 0, none⟩)] #[])
    (hT : ∀ wx, Below w.heap.size w wx → Calls Try.prog f #[.pointer (some ⟨g, 0, none⟩)] wx (GivesTell k ch z bd g #[.int .u32 (m : Int), .slice (some ⟨h, 0, none⟩) n M, .bool false, t'] wx)) :
    Calls Try.prog 17 #[.pointer (some ⟨g, 0, none⟩)] w fun e w' => ∃ A c R', e = .returned (.tuple #[.int .u8 (k : Int), .agg #[.int .u16 (ch : Int), .slice A bd.length c]]) ∧ Own .u8 256 5 w' w.heap.size A bd.length c bd ∧
      w'.heap[g]? = some (.cells #[.int .u32 (m : Int), .slice (some ⟨h, 0, none⟩) (n - z) M, .bool false, t'] 62 (0, 0)) ∧ Blk w' h R' ∧ R'.length = M ∧ R'.take (n - z) = hd.drop z ∧ Off (Xi g h) w w' := by
  have hgl : g < w.heap.size := (Array.getElem?_eq_some_iff.1 hg).1
  have hhl := hR.lt
  have hb0 : Below w.heap.size w (w.alloc (.cells #[.int .u16 0, .slice none 0 0] 39)) := ba (Below.refl _ _) _
  have hx0 : BxF (w.alloc (.cells #[.int .u16 0, .slice none 0 0] 39)) w.heap.size 0 none 0 0 := heap_alloc_new w _
  have hg0 := (hb0.block g hgl).trans hg
  have hR0 := hR.call hb0
  have hsz : (w.alloc (.cells #[.int .u16 0, .slice none 0 0] 39)).heap.size = w.heap.size + 1 := World.size_alloc _ _
  subst ht
  have c2 := cell_of_row _ g 2 _ _ _ hg0
  have c3 := cell_of_row _ g 3 _ _ _ hg0
  have c2 : (w.alloc (.cells #[.int .u16 0, .slice none 0 0] 39)).cell? ⟨g, 2, none⟩ = some (.bool false) := c2
  have c3 : (w.alloc (.cells #[.int .u16 0, .slice none 0 0] 39)).cell? ⟨g, 3, none⟩ = some (.func (.func f) #[.pointer (some ⟨g, 0, none⟩)] #[]) := c3
  obtain ⟨bl, hbl⟩ : ∃ bl, bd.length = bl := ⟨_, rfl⟩
  have HT := Lib.hid (hT _ hb0)
  have HBL := Lib.hid hbl
  have HB0 := Lib.hid hb0
  have HX0 := Lib.hid hx0
  have HR0 := Lib.hid hR0
  have HSZ := Lib.hid hsz
  have k3 : ((k : Int) == 3) = false := by simp; omega
  clear hb0 hx0 hg0 hR0 hT hg hsz hbl
  go_enter Try.func17, Try.ntmps17
  have hgn : g ≠ w.heap.size := by omega
  have hhn : h ≠ w.heap.size := by omega
  go_wp2_with fail
  with_reducible refine HT.out.mono ?_
  rintro e w1 ⟨A1, c1, rfl, ho1, hf1, hg1⟩
  rw [HBL.out] at ho1 ⊢
  have hxa := BxF.off HX0.out hf1 (fun e => hgn e.symm)
  obtain ⟨x0, x1, xf, hxl⟩ := hxa.all
  have d1 : w1.cell? ⟨g, 1, none⟩ = some (.slice (some ⟨h, 0, none⟩) n M) := cell_of_row _ g 1 _ _ _ hg1
  go_wp2_with fail
  have hx2 := BxF.store hxa ch bl c1 A1
  have ho2 := own_setBelow (own_setBelow ho1 (g := w.heap.size) (j := 0) (by rw [HSZ.out]; omega) (.int .u16 (ch : Int))) (g := w.heap.size) (j := 1) (by rw [HSZ.out]; omega) (.slice A1 bl c1)
  have hR2 : Blk ((w1.setCell ⟨w.heap.size, 0, none⟩ (.int .u16 (ch : Int))).setCell ⟨w.heap.size, 1, none⟩ (.slice A1 bl c1)) h R := ((HR0.out.off hf1 (fun e => hne e.symm)).off (Off.set (X := fun i => i = w.heap.size) (g := w.heap.size) _ _ _ rfl) hhn).off (Off.set (X := fun i => i = w.heap.size) (g := w.heap.size) _ _ _ rfl) hhn
  have hg2 : ((w1.setCell ⟨w.heap.size, 0, none⟩ (.int .u16 (ch : Int))).setCell ⟨w.heap.size, 1, none⟩ (.slice A1 bl c1)).heap[g]? = some (.cells #[.int .u32 (m : Int), .slice (some ⟨h, 0, none⟩) n M, .bool false, t'] 62 (0, 0)) := by
    rw [Below.heap_setCell _ _ _ _ (by show g ≠ w.heap.size; exact hgn), Below.heap_setCell _ _ _ _ (by show g ≠ w.heap.size; exact hgn)]
    exact hg1
  have hf2 : Off (Xi g h) w ((w1.setCell ⟨w.heap.size, 0, none⟩ (.int .u16 (ch : Int))).setCell ⟨w.heap.size, 1, none⟩ (.slice A1 bl c1)) := by
    have a1 : Off (fun i => i = g ∨ i = w.heap.size) w ((w1.setCell ⟨w.heap.size, 0, none⟩ (.int .u16 (ch : Int))).setCell ⟨w.heap.size, 1, none⟩ (.slice A1 bl c1)) := (((Off.of _ HB0.out).trans (hf1.mono fun i _ e => Or.inl e)).trans (Off.set (X := fun i => i = g ∨ i = w.heap.size) (g := w.heap.size) _ _ _ (Or.inr rfl))).trans (Off.set (X := fun i => i = g ∨ i = w.heap.size) (g := w.heap.size) _ _ _ (Or.inr rfl))
    exact a1.mono fun i hi e => e.elim Or.inl fun e => by omega
  generalize ((w1.setCell ⟨w.heap.size, 0, none⟩ (.int .u16 (ch : Int))).setCell ⟨w.heap.size, 1, none⟩ (.slice A1 bl c1)) = w2 at *
  clear d1 x0 x1 xf hxl ho1 hf1 hg1 hxa
  (with_reducible refine (del_any h n M z R w2 hR2 (by omega) hn hz).mono ?_)
  rintro e w3 ⟨R', rfl, hR3, hR3l, hR3t, hf3⟩
  have hg3 := (hf3.block g (Array.getElem?_eq_some_iff.1 hg2).1 hne).trans hg2
  have hx3 := BxF.off hx2 hf3 (fun e => hhn e.symm)
  have ho3 := own_off ho2 hf3 (fun i e => by have := HSZ.out; have := hR.lt; omega)
  have hf3' := hf2.trans (hf3.mono fun i _ e => (Or.inr e : Xi g h i))
  have e1 := cell_of_row _ g 1 _ _ _ hg3
  have e1 : w3.cell? ⟨g, 1, none⟩ = some (.slice (some ⟨h, 0, none⟩) n M) := e1
  have ef : w3.frozen? ⟨g, 1, none⟩ = false := by simp [World.frozen?, hg3]
  clear hx2 ho2 hR2 hg2 hf2 hf3
  have hx4 := BxF.off hx3 (Off.set (X := fun i => i = g) (g := g) w3 1 (.slice (some ⟨h, 0, none⟩) (n - z) M) rfl) (fun e => hgn e.symm)
  have ho4 := own_setBelow ho3 (g := g) (j := 1) (by rw [HSZ.out]; omega) (.slice (some ⟨h, 0, none⟩) (n - z) M)
  have hR4 := hR3.off (Off.set (X := fun i => i = g) (g := g) w3 1 (.slice (some ⟨h, 0, none⟩) (n - z) M) rfl) (fun e => hne e.symm)
  have hg4 : (w3.setCell ⟨g, 1, none⟩ (.slice (some ⟨h, 0, none⟩) (n - z) M)).heap[g]? = some (.cells #[.int .u32 (m : Int), .slice (some ⟨h, 0, none⟩) (n - z) M, .bool false, t'] 62 (0, 0)) := by simp [World.setCell, Array.getElem?_modify, hg3]
  have hf4 := hf3'.trans (Off.set (X := Xi g h) (g := g) w3 1 (.slice (some ⟨h, 0, none⟩) (n - z) M) (Or.inl rfl))
  have HX4 := Lib.hid hx4
  have HO4 := Lib.hid ho4
  have HR4 := Lib.hid hR4
  have HG4 := Lib.hid hg4
  have HF4 := Lib.hid hf4
  clear hx3 ho3 hR3 hg3 hf3' hx4 ho4 hR4 hg4 hf4
  go_wp2_with fail
  generalize w3.setCell ⟨g, 1, none⟩ (.slice (some ⟨h, 0, none⟩) (n - z) M) = w4 at *
  obtain ⟨y0, y1, yf, _⟩ := HX4.out.all
  clear e1 ef
  go_region_with (fail)
  all_goals
    go_wp2
    refine bodyPost_ret (v := .tuple #[.int .u8 (k : Int), .agg #[.int .u16 (ch : Int), .slice A1 bl c1]]) (by simp [results, Try.results17, go_sem, y0, y1]) rfl ?_
    refine ⟨A1, c1, R', by rw [HBL.out], ?_, ?_, ?_, by omega, by rw [hR3t, hRt], ?_⟩
    · rw [HBL.out]
      exact Own.mono (own_setBelow (own_setBelow (own_drew HO4.out) (by rw [HSZ.out]; omega) _) (by rw [HSZ.out]; omega) _) (by rw [HSZ.out]; omega)
    · show ((w4.setCell ⟨w.heap.size, 0, none⟩ (.int .u16 (ch : Int))).setCell ⟨w.heap.size, 1, none⟩ (.slice A1 bl c1)).heap[g]? = _
      rw [Below.heap_setCell _ _ _ _ (by show g ≠ w.heap.size; exact hgn), Below.heap_setCell _ _ _ _ (by show g ≠ w.heap.size; exact hgn)]
      exact HG4.out
    · exact ((HR4.out.off (Off.drew (Off.refl (fun _ => False) _)) (fun h => h)).off (Off.set (X := fun i => i = w.heap.size) (g := w.heap.size) _ _ _ rfl) hhn).off (Off.set (X := fun i => i = w.heap.size) (g := w.heap.size) _ _ _ rfl) hhn
    · have a1 := ((HF4.out.drew.mono (Y := fun i => Xi g h i ∨ i = w.heap.size) (fun i _ e => Or.inl e)).trans (Off.set (X := fun i => Xi g h i ∨ i = w.heap.size) (g := w.heap.size) _ 0 (.int .u16 (ch : Int)) (Or.inr rfl))).trans (Off.set (X := fun i => Xi g h i ∨ i = w.heap.size) (g := w.heap.size) _ 1 (.slice A1 bl c1) (Or.inr rfl))
      exact a1.mono fun i hi e => e.elim (fun e => e) fun e => by omega
theorem next_bad_any (g h : Nat) (s : St) (w : World) (i : In w g h s) (hb : s.bad = true) : Calls Try.prog 17 #[.pointer (some ⟨g, 0, none⟩)] w (GivesN 3 0 [] g h s w) := by
  have hb0 : Below w.heap.size w (w.alloc (.cells #[.int .u16 0, .slice none 0 0] 39)) := ba (Below.refl _ _) _
  have i0 := i.call hb0
  obtain ⟨_, _, c2, _, _⟩ := i0.cells
  rw [hb] at c2
  have hgn : g ≠ w.heap.size := by have := i.glt; omega
  have HI := Lib.hid i0
  have HB0 := Lib.hid hb0
  clear i i0 hb0
  go_enter Try.func17, Try.ntmps17
  go_wp2
  refine bodyPost_ret (v := .tuple #[.int .u8 3, .agg #[.int .u16 0, .slice none 0 0]]) (by simp [results, Try.results17, go_sem]) rfl ?_
  exact ⟨none, 0, rfl, Own.nil _ _ _ _ _, HI.out, Off.of _ HB0.out⟩
set_option maxHeartbeats 2000000 in
theorem next_spoil (f : Nat) (hcall : ∀ (args : Array Value) (W : World), (callFunc f args).run Try.prog W = .ok (.enter f args) W) (g m : Nat) (v t t' : Value) (w : World) (hg : w.heap[g]? = some (.cells #[.int .u32 (m : Int), v, .bool false, t] 62 (0, 0))) (ht : t = .func (.func f) #[.pointer (some ⟨g, 0, none⟩)] #[])
    (hT : ∀ wx, Below w.heap.size w wx → Calls Try.prog f #[.pointer (some ⟨g, 0, none⟩)] wx (GivesTell 3 0 0 [] g #[.int .u32 (m : Int), v, .bool false, t'] wx)) :
    Calls Try.prog 17 #[.pointer (some ⟨g, 0, none⟩)] w fun e w' => e = .returned (.tuple #[.int .u8 3, .agg #[.int .u16 0, .slice none 0 0]]) ∧
      w'.heap[g]? = some (.cells #[.int .u32 (m : Int), .slice none 0 0, .bool true, t'] 62 (0, 0)) ∧ Off (fun i => i = g) w w' := by
  have hgl : g < w.heap.size := (Array.getElem?_eq_some_iff.1 hg).1
  have hb0 : Below w.heap.size w (w.alloc (.cells #[.int .u16 0, .slice none 0 0] 39)) := ba (Below.refl _ _) _
  have hx0 : BxF (w.alloc (.cells #[.int .u16 0, .slice none 0 0] 39)) w.heap.size 0 none 0 0 := heap_alloc_new w _
  have hg0 := (hb0.block g hgl).trans hg
  subst ht
  have c2 : (w.alloc (.cells #[.int .u16 0, .slice none 0 0] 39)).cell? ⟨g, 2, none⟩ = some (.bool false) := cell_of_row _ g 2 _ _ _ hg0
  have c3 : (w.alloc (.cells #[.int .u16 0, .slice none 0 0] 39)).cell? ⟨g, 3, none⟩ = some (.func (.func f) #[.pointer (some ⟨g, 0, none⟩)] #[]) := cell_of_row _ g 3 _ _ _ hg0
  have HT := Lib.hid (hT _ hb0)
  have HB0 := Lib.hid hb0
  have HX0 := Lib.hid hx0
  clear hb0 hx0 hg0 hT hg
  have hgn : g ≠ w.heap.size := by omega
  go_enter Try.func17, Try.ntmps17
  go_wp2_with fail
  with_reducible refine HT.out.mono ?_
  rintro e w1 ⟨A1, c1, rfl, ho1, hf1, hg1⟩
  have hxa := BxF.off HX0.out hf1 (fun e => hgn e.symm)
  obtain ⟨x0, x1, xf, hxl⟩ := hxa.all
  go_wp2_with fail
  have hx2 := BxF.store hxa 0 0 c1 A1
  have hg2 : ((w1.setCell ⟨w.heap.size, 0, none⟩ (.int .u16 0)).setCell ⟨w.heap.size, 1, none⟩ (.slice A1 0 c1)).heap[g]? = some (.cells #[.int .u32 (m : Int), v, .bool false, t'] 62 (0, 0)) := by
    rw [Below.heap_setCell _ _ _ _ (by show g ≠ w.heap.size; exact hgn), Below.heap_setCell _ _ _ _ (by show g ≠ w.heap.size; exact hgn)]
    exact hg1
  have hf2 : Off (fun i => i = g ∨ i = w.heap.size) w ((w1.setCell ⟨w.heap.size, 0, none⟩ (.int .u16 0)).setCell ⟨w.heap.size, 1, none⟩ (.slice A1 0 c1)) := (((Off.of _ HB0.out).trans (hf1.mono fun i _ e => Or.inl e)).trans (Off.set (X := fun i => i = g ∨ i = w.heap.size) (g := w.heap.size) _ _ _ (Or.inr rfl))).trans (Off.set (X := fun i => i = g ∨ i = w.heap.size) (g := w.heap.size) _ _ _ (Or.inr rfl))
  have hx2 : BxF ((w1.setCell ⟨w.heap.size, 0, none⟩ (.int .u16 0)).setCell ⟨w.heap.size, 1, none⟩ (.slice A1 0 c1)) w.heap.size 0 A1 0 c1 := hx2
  generalize ((w1.setCell ⟨w.heap.size, 0, none⟩ (.int .u16 0)).setCell ⟨w.heap.size, 1, none⟩ (.slice A1 0 c1)) = w2 at *
  clear x0 x1 xf hxl ho1 hf1 hg1 hxa
  with_reducible refine (spoil_raw g m v t' w2 hg2).mono ?_
  rintro e w3 ⟨rfl, hg3, hf3⟩
  have hx3 := BxF.off hx2 hf3 (fun e => hgn e.symm)
  obtain ⟨y0, y1, yf, _⟩ := hx3.all
  have hf3' := hf2.trans (hf3.mono fun i _ e => (Or.inl e : i = g ∨ i = w.heap.size))
  have HG3 := Lib.hid hg3
  have HF3 := Lib.hid hf3'
  clear hx2 hg2 hf2 hf3 hf3' hg3 hx3
  go_wp2
  refine bodyPost_ret (v := .tuple #[.int .u8 3, .agg #[.int .u16 0, .slice none 0 0]]) (by simp [results, Try.results17, go_sem, y0, y1]) rfl ?_
  refine ⟨rfl, ?_, ?_⟩
  · rw [Below.heap_setCell _ _ _ _ (by show g ≠ w.heap.size; exact hgn), Below.heap_setCell _ _ _ _ (by show g ≠ w.heap.size; exact hgn)]
    exact HG3.out
  · have a1 := (HF3.out.trans (Off.set (X := fun i => i = g ∨ i = w.heap.size) (g := w.heap.size) _ 0 (.int .u16 0) (Or.inr rfl))).trans (Off.set (X := fun i => i = g ∨ i = w.heap.size) (g := w.heap.size) _ 1 (.slice none 0 0) (Or.inr rfl))
    exact a1.mono fun i hi e => e.elim (fun e => e) fun e => by omega
theorem tell_first (g h : Nat) (s : St) (w : World) (i : In w g h s) (hb : s.bad = false) (hw : s.went = false) : Calls Try.prog 28 #[.pointer (some ⟨g, 0, none⟩)] w (GivesTell (kind s) 0 (if kind s = 1 then 8 else 0) [] g #[.int .u32 (s.most : Int), .slice (some ⟨h, 0, none⟩) s.held.length (s.most + 8), .bool false, tv (decide (kind s = 1)) g] w) := by
  obtain ⟨c0, c1, c2, c3, cf⟩ := i.cells
  have hr := i.rd hb
  have hlen := i.ok.len
  have hob := i.obj
  rw [hv_ok hb] at c1 hob
  rw [hb, hw] at hob
  have key : ∀ k, kind s = k → k ≠ 2 → (∀ e w', GivesFirst k g w e w' → GivesTell (kind s) 0 (if kind s = 1 then 8 else 0) [] g #[.int .u32 (s.most : Int), .slice (some ⟨h, 0, none⟩) s.held.length (s.most + 8), .bool false, tv (decide (kind s = 1)) g] w e w') := by
    rintro k rfl _ e w' ⟨rfl, ho, h1⟩
    refine ⟨none, 0, ?_, Own.nil _ _ _ _ _, ho.mono (fun i _ e => e.2), ?_⟩
    · by_cases hk : kind s = 1
      · rw [if_pos hk, if_pos hk]; rfl
      · rw [if_neg hk, if_neg hk]; rfl
    · by_cases hk : kind s = 1
      · rw [h1 hk, decide_eq_true hk]
        simp [World.setCell, Array.getElem?_modify, hob, tv]
      · rw [ho.block g i.glt (fun e => hk e.1), decide_eq_false hk]
        exact hob
  have hkd : kind s = if s.held.take 8 = hdr.take s.held.length then (if s.held.length < 8 then 0 else 1) else 3 := by
    unfold kind
    rw [hb, hw]
    rfl
  by_cases hxy : s.held.take 8 = hdr.take s.held.length
  · rw [if_pos hxy] at hkd
    by_cases hlt : s.held.length < 8
    · rw [if_pos hlt] at hkd
      exact (first_none g _ _ _ _ _ w i.glt c1 c3 cf hr hlen hlt hxy).mono (key 0 hkd (by omega))
    · rw [if_neg hlt] at hkd
      by_cases h8 : s.held.length = 8
      · rw [h8] at c1 hr hxy hlen
        exact (first_head8 g _ _ _ _ w i.glt c1 c3 cf hr hlen hxy).mono (key 1 hkd (by omega))
      · exact (first_head g _ _ _ _ _ w i.glt c1 c3 cf hr hlen (by omega) hxy).mono (key 1 hkd (by omega))
  · rw [if_neg hxy] at hkd
    by_cases h8 : s.held.length ≤ 8
    · exact (first_bad1 g _ _ _ _ _ w i.glt c1 c3 cf hr hlen h8 hxy).mono (key 3 hkd (by omega))
    · exact (first_bad2 g _ _ _ _ _ w i.glt c1 c3 cf hr hlen (by omega) hxy).mono (key 3 hkd (by omega))
theorem tell_further (g h : Nat) (s : St) (w : World) (i : In w g h s) (hb : s.bad = false) (hw : s.went = true) : Calls Try.prog 39 #[.pointer (some ⟨g, 0, none⟩)] w (GivesTell (kind s) (chN s) (if kind s = 2 then nF s.held else 0) (bdN s) g #[.int .u32 (s.most : Int), .slice (some ⟨h, 0, none⟩) s.held.length (s.most + 8), .bool false, tv true g] w) := by
  obtain ⟨c0, c1, c2, c3, cf⟩ := i.cells
  have hr := i.rd hb
  have hlen := i.ok.len
  have hhi := i.ok.hi
  have hob := i.obj
  rw [hv_ok hb] at c1 hob
  rw [hb, hw] at hob
  have key : ∀ k ch z bd, kind s = k → chN s = ch → (if kind s = 2 then nF s.held else 0) = z → bdN s = bd → (∀ e w', GivesFur k ch z bd w e w' → GivesTell (kind s) (chN s) (if kind s = 2 then nF s.held else 0) (bdN s) g #[.int .u32 (s.most : Int), .slice (some ⟨h, 0, none⟩) s.held.length (s.most + 8), .bool false, tv true g] w e w') := by
    rintro k ch z bd rfl rfl rfl rfl e w' ⟨A, c, rfl, ho, hb'⟩
    exact ⟨A, c, rfl, ho, Off.of _ hb', (hb'.block g i.glt).trans hob⟩
  have hkd : kind s = if erF s.held s.most = 0 then 2 else if erF s.held s.most = 7 then 0 else 3 := by
    unfold kind
    rw [hb, hw]
    rfl
  rcases erF_cases s.held s.most with he | he | he
  · rw [if_pos he] at hkd
    exact (further_ok g s.most _ _ _ _ _ _ _ w (by omega) i.glt c0 c1 hr hlen (by omega) he rfl rfl rfl).mono (key 2 _ _ _ hkd (by unfold chN; rw [if_pos hkd]) (by rw [if_pos hkd]) (by unfold bdN; rw [if_pos hkd]))
  · rw [if_neg (by omega), if_neg (by omega)] at hkd
    exact (further_6 g s.most _ _ _ _ w (by omega) i.glt c0 c1 hr hlen (by omega) he).mono (key 3 _ _ _ hkd (by unfold chN; rw [if_neg (by omega)]) (by rw [if_neg (by omega)]) (by unfold bdN; rw [if_neg (by omega)]))
  · rw [if_neg (by omega), if_pos he] at hkd
    exact (further_7 g s.most _ _ _ _ w (by omega) i.glt c0 c1 hr hlen (by omega) he).mono (key 0 _ _ _ hkd (by unfold chN; rw [if_neg (by omega)]) (by rw [if_neg (by omega)]) (by unfold bdN; rw [if_neg (by omega)]))
/-- What comes next. -/
theorem next_any (g h : Nat) (s : St) (w : World) (i : In w g h s) : Calls Try.prog 17 #[.pointer (some ⟨g, 0, none⟩)] w (GivesN (kind s) (chN s) (bdN s) g h (next s) w) := by
  have hne := i.ne
  have hok := i.ok.next
  rcases hb : s.bad with _ | _
  · obtain ⟨R, hR, hRl, hRt⟩ := i.row hb
    have hob := i.obj
    rw [hv_ok hb, hb] at hob
    have hlen := i.ok.len
    -- what both tellers share
    have fin : ∀ (f z : Nat) (t' : Bool), (∀ (args : Array Value) (W : World), (callFunc f args).run Try.prog W = .ok (.enter f args) W) → tv s.went g = .func (.func f) #[.pointer (some ⟨g, 0, none⟩)] #[] → z ≤ s.held.length → (kind s = 3 → chN s = 0 ∧ bdN s = [] ∧ z = 0 ∧ t' = s.went) → (kind s ≠ 3 → next s = { s with held := s.held.drop z, went := t' }) →
        (∀ wx, Below w.heap.size w wx → Calls Try.prog f #[.pointer (some ⟨g, 0, none⟩)] wx (GivesTell (kind s) (chN s) z (bdN s) g #[.int .u32 (s.most : Int), .slice (some ⟨h, 0, none⟩) s.held.length (s.most + 8), .bool false, tv t' g] wx)) →
        Calls Try.prog 17 #[.pointer (some ⟨g, 0, none⟩)] w (GivesN (kind s) (chN s) (bdN s) g h (next s) w) := by
      intro f z t' hc ht hz h3 hn hT
      by_cases hk : kind s = 3
      · obtain ⟨e1, e2, e3, e4⟩ := h3 hk
        rw [hk, e1, e2, e3] at hT
        have := next_spoil f hc g s.most _ _ _ w hob ht hT
        rw [hk, e1, e2]
        refine this.mono fun e w' ⟨he, hg', ho⟩ => ⟨none, 0, he, Own.nil _ _ _ _ _, ⟨hok, ?_, fun hb' => ?_, hne, Nat.lt_of_lt_of_le i.lt ho.size⟩, ho.mono fun i _ e => Or.inl e⟩
        · rw [next_bad hk, hg', e4]
          rfl
        · rw [next_bad hk] at hb'
          cases hb'
      · have := next_go f hc g h (kind s) (chN s) z s.held.length (s.most + 8) s.most (bdN s) s.held R _ _ w hob hR hRl hRt hlen hne hk hz ht hT
        refine this.mono fun e w' ⟨A, c, R', he, hw', hg', hR', hRl', hRt', ho⟩ => ⟨A, c, he, hw', ⟨hok, ?_, fun _ => ⟨R', hR', ?_, ?_⟩, hne, Nat.lt_of_lt_of_le i.lt ho.size⟩, ho⟩
        · rw [hn hk, hg', hv_ok (s := { s with held := s.held.drop z, went := t' }) hb]
          show _ = some (Obj.cells #[_, .slice (some ⟨h, 0, none⟩) (s.held.drop z).length _, .bool s.bad, _] _ _)
          rw [hb, List.length_drop]
        · rw [hn hk]; exact hRl'
        · rw [hn hk]
          show R'.take (s.held.drop z).length = s.held.drop z
          rw [List.length_drop]; exact hRt'
    rcases hw : s.went with _ | _
    · refine fin 28 (if kind s = 1 then 8 else 0) (decide (kind s = 1)) Try.call28 (by rw [hw]; rfl) ?_ ?_ ?_ ?_
      · split
        · rename_i hk; exact (kind_header hk).2.2.1
        · omega
      · intro hk
        refine ⟨by unfold chN; rw [if_neg (by omega)], by unfold bdN; rw [if_neg (by omega)], by rw [if_neg (by omega)], ?_⟩
        rw [hw]
        exact decide_eq_false (by omega)
      · intro hk
        rcases kind_cases s with h0 | h1 | h2 | h3
        · rw [next_none h0, h0]
          cases s
          simp at hw ⊢
          exact hw
        · unfold It.next
          rw [h1]
          simp
        · have := (kind_frame h2).2.1
          rw [hw] at this
          cases this
        · exact absurd h3 hk
      · intro wx hbx
        have hch : chN s = 0 := by
          unfold chN
          rw [if_neg]
          intro h2
          have := (kind_frame h2).2.1
          rw [hw] at this
          cases this
        have hbd : bdN s = [] := by
          unfold bdN
          rw [if_neg]
          intro h2
          have := (kind_frame h2).2.1
          rw [hw] at this
          cases this
        rw [hch, hbd]
        exact tell_first g h s wx (i.call hbx) hb hw
    · refine fin 39 (if kind s = 2 then nF s.held else 0) true Try.call39 (by rw [hw]; rfl) ?_ ?_ ?_ ?_
      · split
        · rename_i hk; exact (erF_ok (kind_frame hk).2.2).2.2.1
        · omega
      · intro hk
        exact ⟨by unfold chN; rw [if_neg (by omega)], by unfold bdN; rw [if_neg (by omega)], by rw [if_neg (by omega)], hw.symm⟩
      · intro hk
        rcases kind_cases s with h0 | h1 | h2 | h3
        · rw [next_none h0, h0]
          cases s
          simp at hw ⊢
          exact hw
        · have := (kind_header h1).2.1
          rw [hw] at this
          cases this
        · unfold It.next
          rw [h2]
          cases s
          simp at hw ⊢
          exact hw
        · exact absurd h3 hk
      · intro wx hbx
        exact tell_further g h s wx (i.call hbx) hb hw
  · have hk := kind_bad hb
    have e1 : chN s = 0 := by unfold chN; rw [if_neg (by omega)]
    have e2 : bdN s = [] := by unfold bdN; rw [if_neg (by omega)]
    have e3 : next s = s := by
      rw [next_bad hk]
      have := i.ok.bad hb
      cases s
      simp at this hb ⊢
      simp [this, hb]
    rw [hk, e1, e2, e3]
    exact next_bad_any g h s w i hb
theorem nil_next (w : World) : Calls Try.prog 17 #[.pointer none] w (Says (.tuple #[.int .u8 0, .agg #[.int .u16 0, .slice none 0 0]]) w) := by
  have hb0 : Below w.heap.size w (w.alloc (.cells #[.int .u16 0, .slice none 0 0] 39)) := ba (Below.refl _ _) _
  have HB0 := Lib.hid hb0
  clear hb0
  go_enter Try.func17, Try.ntmps17
  go_wp2
  refine bodyPost_ret (v := .tuple #[.int .u8 0, .agg #[.int .u16 0, .slice none 0 0]]) (by simp [results, Try.results17, go_sem]) rfl ?_
  exact ⟨rfl, HB0.out⟩
end Go.Proofs.Ytdjncacknmejoaa.It
