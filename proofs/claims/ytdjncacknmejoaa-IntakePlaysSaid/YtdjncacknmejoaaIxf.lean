/-
  The document's intake (layer 12): Next behind the header, and Next of any intake. Memory that was there stays, but for its own blocks; a frame's body lies in new memory. No condition.
-/
import Derived.Test.YtdjncacknmejoaaIxn
import Derived.Test.YtdjncacknmejoaaIto
namespace Go.Proofs.Ytdjncacknmejoaa.It
set_option maxRecDepth 100000
open Go.RowKit Go.Proofs.Ytdjncacknmejoaa.Utf Go.Proofs.Ytdjncacknmejoaa.Enc Go.Proofs.Ytdjncacknmejoaa.Fr

/-- What Read answers, in one form. -/
def GivesRD (ch bl z er : Nat) (bd : List Nat) (w : World) (e : Ending) (w' : World) : Prop :=
  ∃ B cb, e = .returned (.tuple #[.agg #[.int .u16 (ch : Int), .slice B bl cb], .int .i64 (z : Int), .int .i64 (er : Int)]) ∧ Own .u8 256 5 w' w.heap.size B bl cb bd ∧ Below w.heap.size w w'
theorem xread_one (A : Option Addr) (n c : Nat) (b : List Nat) (most : Nat) (w : World) (hr : Rd .u8 256 w w.heap.size A n b) (hnc : n ≤ c) (hn : n ≤ 1099511627776) (hm : most < 4294967296) :
    Calls Try.prog 33 #[.slice A n c, .int .u32 (most : Int)] w (GivesRD (if erF b most = 0 then chF b else 0) (if erF b most = 0 then bodyF b else []).length (if erF b most = 0 then nF b else 0) (erF b most) (if erF b most = 0 then bodyF b else []) w) := by
  refine (xread_any A n c b most w hr hnc hn hm).mono fun e w' h => ?_
  unfold GivesRead at h
  by_cases h0 : erF b most = 0
  · rw [if_pos h0] at h
    obtain ⟨B, cb, he, ho, hb⟩ := h
    rw [if_pos h0, if_pos h0, if_pos h0, h0]
    exact ⟨B, cb, he, ho, hb⟩
  · rw [if_neg h0] at h
    rw [if_neg h0, if_neg h0, if_neg h0]
    exact ⟨none, 0, h.1, Own.nil _ _ _ _ _, h.2⟩
/-- How it stands behind the read. -/
structure RS (w wx : World) (g c z z2 ch bl cb : Nat) (A B : Option Addr) (s : St) (bd : List Nat) : Prop where
  ne : z ≠ z2
  lo : w.heap.size ≤ z2
  own : Own .u8 256 5 wx w.heap.size B bl cb bd
  far : ∀ i, Bof B i → i ≠ z ∧ i ≠ z2
  box : BxF wx z2 ch B bl cb
  res : BxF wx z 0 none 0 0
  inn : XIn wx g A c s
  off : Off (fun _ => False) w wx
theorem bof_own {w : World} {base n c i : Nat} {A : Option Addr} {l : List Nat} (h : Own .u8 256 5 w base A n c l) (hb : Bof A i) : base ≤ i ∧ i < w.heap.size := by
  obtain ⟨o, rfl⟩ := hb
  exact h.blk i rfl
section
variable {w W0 w1 : World} {g c z ch bl cb : Nat} {A B : Option Addr} {s : St} {bd : List Nat}
theorem RS.mkA (hz : w.heap.size = z) (hi : XIn w g A c s) (hb0 : Below w.heap.size w W0) (hx : BxF W0 z 0 none 0 0) (hb1 : Below (W0.alloc (.cells #[.int .u16 0, .slice none 0 0] 39)).drew.heap.size (W0.alloc (.cells #[.int .u16 0, .slice none 0 0] 39)).drew w1)
    (ho : Own .u8 256 5 w1 (W0.alloc (.cells #[.int .u16 0, .slice none 0 0] 39)).drew.heap.size B bl cb bd) :
    RS w ((w1.setCell ⟨W0.heap.size, 0, none⟩ (.int .u16 (ch : Int))).setCell ⟨W0.heap.size, 1, none⟩ (.slice B bl cb)) g c z W0.heap.size ch bl cb A B s bd := by
  have hzl := hx.all.2.2.2
  have hsz : (W0.alloc (.cells #[.int .u16 0, .slice none 0 0] 39)).drew.heap.size = W0.heap.size + 1 := World.size_alloc _ _
  have hb0' : Below W0.heap.size W0 (W0.alloc (.cells #[.int .u16 0, .slice none 0 0] 39)).drew := Below.drew (ba (Below.refl _ _) _)
  have hb2 : Below W0.heap.size W0 w1 := hb0'.trans (hb1.mono (by rw [hsz]; omega))
  have hx1 : BxF w1 W0.heap.size 0 none 0 0 := BxF.call (w := (W0.alloc (.cells #[.int .u16 0, .slice none 0 0] 39)).drew) (heap_alloc_new W0 _) hb1
  have hs0 := hb0.size
  have hof : Off (fun _ => False) w ((w1.setCell ⟨W0.heap.size, 0, none⟩ (.int .u16 (ch : Int))).setCell ⟨W0.heap.size, 1, none⟩ (.slice B bl cb)) := (((Off.of _ hb0).trans (Off.of _ hb2)).fresh hs0).fresh hs0
  refine ⟨by omega, hs0, Own.mono (own_setBelow (own_setBelow ho (by omega) _) (by omega) _) (by omega), fun i hi => ?_, BxF.store hx1 _ _ _ _, ?_, hi.off hof (fun h => h) (fun _ _ h => h), hof⟩
  · have := (bof_own ho hi).1
    omega
  · have hx2 := hx.call hb2
    unfold BxF at hx2 ⊢
    rw [Below.heap_setCell _ _ _ _ (by show z ≠ W0.heap.size; omega), Below.heap_setCell _ _ _ _ (by show z ≠ W0.heap.size; omega)]
    exact hx2
theorem RS.mkB (hz : w.heap.size = z) (hi : XIn w g A c s) (hb0 : Below w.heap.size w W0) (hx : BxF W0 z 0 none 0 0) (hb1 : Below W0.drew.heap.size W0.drew w1) (ho : Own .u8 256 5 w1 W0.drew.heap.size B bl cb bd) :
    RS w (w1.alloc (.cells #[.int .u16 (ch : Int), .slice B bl cb] 39)) g c z w1.heap.size ch bl cb A B s bd := by
  have hzl := hx.all.2.2.2
  have hb2 : Below W0.heap.size W0 w1 := (Below.drew (Below.refl _ _)).trans hb1
  have hs0 := hb0.size
  have hs1 := hb2.size
  have hsd : W0.drew.heap.size = W0.heap.size := rfl
  have hb3 : Below w1.heap.size w1 (w1.alloc (.cells #[.int .u16 (ch : Int), .slice B bl cb] 39)) := ba (Below.refl _ _) _
  have hof : Off (fun _ => False) w (w1.alloc (.cells #[.int .u16 (ch : Int), .slice B bl cb] 39)) := ((Off.of _ hb0).trans (Off.of _ hb2)).trans (Off.of _ hb3)
  refine ⟨by omega, by omega, Own.mono (ho.below hb3) (by omega), fun i hi => ?_, heap_alloc_new w1 _, (hx.call hb2).call hb3, hi.off hof (fun h => h) (fun _ _ h => h), hof⟩
  have := bof_own ho hi
  omega
end
theorem next_2w {s : St} {k : Nat} (h2 : kind s = 2) (hw : s.went = true) (hkk : nF s.held = k) : next s = { s with held := s.held.drop k, went := true } := by
  rw [next_2 h2 k hkk]
  rcases s with ⟨m, h, b, t⟩
  have : t = true := hw
  subst this
  rfl
theorem RS.fin {w wc : World} {g c z z2 ch bl cb k : Nat} {A B : Option Addr} {s : St} {bd : List Nat} (hi : XIn w g A c s) (hrs : RS w wc g c z z2 ch bl cb A B s bd) (hb : s.bad = false) (hw : s.went = true) (hz : w.heap.size ≤ z) (hgz : g ≠ z) (hk : k ≤ s.held.length) (h2 : kind s = 2) (hch : chN s = ch) (hbd : bdN s = bd) (hbl : bd.length = bl) (hkk : nF s.held = k) :
    GivesXN (kind s) (chN s) (bdN s) g A (next s) w (.returned (.tuple #[.int .u8 2, .agg #[.int .u16 (ch : Int), .slice B bl cb]])) (((wc.setCell ⟨g, 1, none⟩ (.slice (cutA A c k) (s.held.length - k) (c - k))).setCell ⟨z, 0, none⟩ (.int .u16 (ch : Int))).setCell ⟨z, 1, none⟩ (.slice B bl cb)).drew := by
  subst hch
  subst hbd
  subst hbl
  have hgl := hi.glt
  have hf1 : Off (fun i => i = g ∨ i = z) wc (((wc.setCell ⟨g, 1, none⟩ (.slice (cutA A c k) (s.held.length - k) (c - k))).setCell ⟨z, 0, none⟩ (.int .u16 (chN s : Int))).setCell ⟨z, 1, none⟩ (.slice B (bdN s).length cb)).drew := (Off.snoc (X := fun i => i = g ∨ i = z) (Off.snoc (X := fun i => i = g ∨ i = z) (Off.snoc (X := fun i => i = g ∨ i = z) (Off.refl _ _) (.inl rfl)) (.inr rfl)) (.inr rfl)).drew
  have hf2 : Off (fun i => i = g) w (((wc.setCell ⟨g, 1, none⟩ (.slice (cutA A c k) (s.held.length - k) (c - k))).setCell ⟨z, 0, none⟩ (.int .u16 (chN s : Int))).setCell ⟨z, 1, none⟩ (.slice B (bdN s).length cb)).drew := (((Off.snoc (X := fun i => i = g) (g := g) (hrs.off.mono fun _ _ h => h.elim) rfl).fresh hz).fresh hz).drew
  have hxi := hi.cutOff (k := k) hb hk true hf2 (by
    show (((wc.setCell ⟨g, 1, none⟩ (.slice (cutA A c k) (s.held.length - k) (c - k))).setCell ⟨z, 0, none⟩ (.int .u16 (chN s : Int))).setCell ⟨z, 1, none⟩ (.slice B (bdN s).length cb)).heap[g]? = _
    rw [Below.heap_setCell _ _ _ _ (by show g ≠ z; exact hgz), Below.heap_setCell _ _ _ _ (by show g ≠ z; exact hgz)]
    have hob := hrs.inn.obj
    simp [World.setCell, Array.getElem?_modify, hob, hb, hw])
  rw [next_2w h2 hw hkk]
  refine ⟨B, cb, _, _, by rw [h2]; rfl, own_off2 hrs.own hf1 (fun i h e => ?_), hxi, fun i h => cutA_bof hi.row hk h, hf2.mono fun _ _ e => Or.inl e⟩
  have h1 := (bof_own hrs.own h).1
  have h3 := (hrs.far i h).1
  rcases e with e | e <;> omega
theorem next_7 {s : St} (hb : s.bad = false) (hw : s.went = true) (h : erF s.held s.most = 7) : kind s = 0 := by
  unfold kind
  rw [hb, hw, h]
  simp
theorem next_0 {s : St} (hb : s.bad = false) (hw : s.went = true) (h : erF s.held s.most = 0) : kind s = 2 := by
  unfold kind
  rw [hb, hw, h]
  simp
theorem next_x {s : St} (hb : s.bad = false) (hw : s.went = true) (h : erF s.held s.most ≠ 0) (h7 : erF s.held s.most ≠ 7) : kind s = 3 := by
  unfold kind
  rw [hb, hw, if_neg (by simp), if_pos rfl, if_neg h, if_neg h7]
set_option maxHeartbeats 4000000 in
theorem xnext_frame (g c : Nat) (A : Option Addr) (s : St) (w : World) (i : XIn w g A c s) (hb : s.bad = false) (hw : s.went = true) : Calls Try.prog 18 #[.pointer (some ⟨g, 0, none⟩)] w (GivesXN (kind s) (chN s) (bdN s) g A (next s) w) := by
  have hb0 : Below w.heap.size w (w.alloc (.cells #[.int .u16 0, .slice none 0 0] 39)) := ba (Below.refl _ _) _
  have hx0 : BxF (w.alloc (.cells #[.int .u16 0, .slice none 0 0] 39)) w.heap.size 0 none 0 0 := heap_alloc_new w _
  obtain ⟨z, hz⟩ : ∃ z, w.heap.size = z := ⟨_, rfl⟩
  obtain ⟨W0, hW0⟩ : ∃ W0, w.alloc (.cells #[.int .u16 0, .slice none 0 0] 39) = W0 := ⟨_, rfl⟩
  rw [hW0] at hx0 hb0
  rw [hz] at hx0
  have hgl := i.glt
  have hgz : g ≠ z := by omega
  have hzg : z ≠ g := by omega
  have hz0 : z < W0.heap.size := hx0.all.2.2.2
  obtain ⟨n, hn⟩ : ∃ n, s.held.length = n := ⟨_, rfl⟩
  have hnm : n ≤ 4104 := by have := i.ok.len; have := i.ok.hi; omega
  have hnc : n ≤ c := hn ▸ i.row.le
  obtain ⟨m, hm⟩ : ∃ m, s.most = m := ⟨_, rfl⟩
  have hmm : m ≤ 4096 := hm ▸ i.ok.hi
  obtain ⟨er, her⟩ : ∃ er, erF s.held s.most = er := ⟨_, rfl⟩
  obtain ⟨ch, hch⟩ : ∃ ch, (if er = 0 then chF s.held else 0) = ch := ⟨_, rfl⟩
  obtain ⟨bd, hbd⟩ : ∃ bd, (if er = 0 then bodyF s.held else []) = bd := ⟨_, rfl⟩
  obtain ⟨bl, hbl⟩ : ∃ bl, bd.length = bl := ⟨_, rfl⟩
  obtain ⟨k, hk⟩ : ∃ k, (if er = 0 then nF s.held else 0) = k := ⟨_, rfl⟩
  -- what holds in every world of the walk
  have HW : Hid (∀ wx : World, Below W0.heap.size W0 wx → wx.cell? ⟨g, 0, none⟩ = some (.int .u32 (m : Int)) ∧ wx.cell? ⟨g, 1, none⟩ = some (.slice A n c) ∧ wx.cell? ⟨g, 2, none⟩ = some (.bool true) ∧ wx.cell? ⟨g, 3, none⟩ = some (.bool false) ∧ (∀ j, wx.frozen? ⟨g, j, none⟩ = false) ∧ Calls Try.prog 33 #[.slice A n c, .int .u32 (m : Int)] wx (GivesRD ch bl k er bd wx)) := Lib.hid fun wx hbx => by
    have i2 := (i.call hb0).call hbx
    obtain ⟨c0, c1, c2, c3, cf⟩ := i2.cells
    have hr := i2.row.rd
    rw [hn] at c1 hr
    rw [hb] at c3
    rw [hw] at c2
    rw [hm] at c0
    have hx := xread_one A n c s.held m wx hr hnc (by omega) (by omega)
    rw [← hm, her, hch, hbd, hbl, hk, hm] at hx
    exact ⟨c0, c1, c2, c3, cf, hx⟩
  obtain ⟨c0, c1, c2, c3, cf, _⟩ := HW.out W0 (Below.refl _ _)
  obtain ⟨d0, d1, _, _, _, _⟩ := HW.out (W0.alloc (.cells #[.int .u16 0, .slice none 0 0] 39)) (ba (Below.refl _ _) _)
  obtain ⟨e0, e1, _, _, _, _⟩ := HW.out (W0.alloc (.cells #[.int .u16 0, .slice none 0 0] 39)).drew (Below.drew (ba (Below.refl _ _) _))
  have HI := Lib.hid i
  have HB0 := Lib.hid hb0
  have HBX := Lib.hid hx0
  have HN := Lib.hid hn
  have HM := Lib.hid hm
  have HER := Lib.hid her
  have HCH := Lib.hid hch
  have HBD := Lib.hid hbd
  have HBL := Lib.hid hbl
  have HK := Lib.hid hk
  clear i hx0 hb0 hn hm her hch hbd hbl hk
  go_enter Try.func18, Try.ntmps18
  go_wp2_with fail
  go_cut [6, 7, 8] (fun s6 s7 s8 wx => ∃ z2 B cb, s6 = .pointer (some ⟨z2, 0, none⟩) ∧ s7 = .int .i64 (k : Int) ∧ s8 = .int .i64 (er : Int) ∧ RS w wx g c z z2 ch bl cb A B s bd)
  case first =>
    go_region_with (first
      | (go_at_call 33; (with_reducible refine (HW.out _ (by first | exact Below.drew (Below.refl _ _) | exact Below.drew (ba (Below.refl _ _) _))).2.2.2.2.2.mono ?_); rintro e w1 ⟨B, cb, rfl, ho1, hb1⟩; have hy1 : BxF (w1.alloc (.cells #[.int .u16 0, .slice none 0 0] 39)) w1.heap.size 0 none 0 0 := heap_alloc_new w1 _; obtain ⟨y0, y1, yf, hyl⟩ := hy1.all; (try (have hx2 : BxF w1 W0.heap.size 0 none 0 0 := BxF.call (w := (W0.alloc (.cells #[.int .u16 0, .slice none 0 0] 39)).drew) (heap_alloc_new W0 _) hb1; obtain ⟨t0, t1, tf, htl⟩ := hx2.all)))
      | fail)
    all_goals (go_wp2_with fail)
    all_goals go_meet
    all_goals first
      | exact ⟨_, _, _, rfl, rfl, rfl, RS.mkA hz HI.out HB0.out HBX.out hb1 ho1⟩
      | exact ⟨_, _, _, rfl, rfl, rfl, RS.mkB hz HI.out HB0.out HBX.out hb1 ho1⟩
  case rest =>
    obtain ⟨z2, B, cb, h6, h7, h8, hrs⟩ := hcut
    subst h6
    subst h7
    subst h8
    obtain ⟨c0', c1', c2', c3', cf'⟩ := hrs.inn.cells
    rw [HN.out] at c1'
    rw [hb] at c3'
    rw [hw] at c2'
    rw [HM.out] at c0'
    obtain ⟨x0, x1, xf, _⟩ := hrs.res.all
    obtain ⟨y0, y1, yf, _⟩ := hrs.box.all
    have HRS := Lib.hid hrs
    have hwz : w.heap.size ≤ z := by omega
    have hz2 := hrs.ne
    have hgz2 : g ≠ z2 := by have := hrs.lo; omega
    clear hz hW0 hz0 c0 c1 c2 c3 cf d0 d1 e0 e1 hrs
    by_cases h7 : er = 7
    · have t7 : ((er : Int) == 7) = true := by simp; omega
      have HKD := Lib.hid (next_7 hb hw (by rw [HER.out, h7]))
      have HFin := Lib.hid ((HRS.out.off.fresh (g := z) (j := 0) (v := .int .u16 0) hwz).fresh (g := z) (j := 1) (v := .slice none 0 0) hwz)
      clear h7
      go_wp2
      refine bodyPost_ret (v := .tuple #[.int .u8 0, .agg #[.int .u16 0, .slice none 0 0]]) (by simp [results, Try.results18, go_sem, x0, x1]) rfl ?_
      rw [show chN s = 0 by unfold chN; rw [HKD.out]; rfl, show bdN s = [] by unfold bdN; rw [HKD.out]; rfl, next_none HKD.out, HKD.out]
      exact GivesXN.mk0 (k := 0) (HI.out.off HFin.out (fun h => h) (fun _ _ h => h)) (fun _ h => h) (HFin.out.mono fun _ _ h => h.elim)
    · have t7 : ((er : Int) == 7) = false := by simp; omega
      by_cases h0 : er = 0
      · have t0 : ((er : Int) != 0) = false := by simp; omega
        have HKD := Lib.hid (next_0 hb hw (by rw [HER.out, h0]))
        have hkn : k ≤ n := by
          have := erF_ok (HER.out.trans h0)
          have h1 := HK.out
          rw [if_pos h0] at h1
          rw [← h1, ← HN.out]
          omega
        have HCN : Hid (chN s = ch) := Lib.hid (by unfold chN; rw [HKD.out, ← HCH.out, if_pos rfl, if_pos h0])
        have HBN : Hid (bdN s = bd) := Lib.hid (by unfold bdN; rw [HKD.out, ← HBD.out, if_pos rfl, if_pos h0])
        have HNF : Hid (nF s.held = k) := Lib.hid (by rw [← HK.out, if_pos h0])
        obtain ⟨q1, q2⟩ := run_cut A n c k hkn
        have q1' := fun W => q1 W k rfl
        have q2' := fun W => q2 W k rfl
        obtain ⟨W4, hW4⟩ : ∃ W4, wc.setCell ⟨g, 1, none⟩ (.slice (cutA A c k) (n - k) (c - k)) = W4 := ⟨_, rfl⟩
        have hof4 : Off (fun i => i = g) wc W4 := hW4 ▸ Off.snoc (X := fun i => i = g) (Off.refl _ _) rfl
        obtain ⟨v0, v1, vf, _⟩ := (BxF.off HRS.out.res hof4 (fun e => hgz e.symm)).all
        obtain ⟨u0, u1, uf, _⟩ := (BxF.off HRS.out.box hof4 (fun e => hgz2 e.symm)).all
        have HW4 := Lib.hid hW4
        clear h7 h0 q1 q2 hof4
        go_wp2_with fail
        go_region_with (fail)
        all_goals
          go_wp2
          refine bodyPost_ret (v := .tuple #[.int .u8 2, .agg #[.int .u16 (ch : Int), .slice B bl cb]]) (by simp [results, Try.results18, go_sem, v0, v1]) rfl ?_
          have hfin := RS.fin HI.out HRS.out hb hw hwz hgz (by rw [HN.out]; exact hkn) HKD.out HCN.out HBN.out HBL.out HNF.out
          rw [HN.out, HW4.out] at hfin
          exact hfin
      · have t0 : ((er : Int) != 0) = true := by simp; omega
        have HKD := Lib.hid (next_x hb hw (by rw [HER.out]; exact h0) (by rw [HER.out]; exact h7))
        clear h7 h0
        go_wp2_with fail
        (with_reducible refine (xspoil_any g c A s wc HRS.out.inn hb).mono ?_)
        rintro e w2 ⟨rfl, hi2, hf2⟩
        have hx3 : BxF w2 z 0 none 0 0 := BxF.off HRS.out.res hf2 (fun e => e.elim (fun e => hzg e) fun e => by have := HI.out.blk z e; omega)
        obtain ⟨t0', t1', tf', _⟩ := hx3.all
        have HI3 := Lib.hid hi2
        have HF3 := Lib.hid ((HRS.out.off.mono (Y := Xx g A) fun _ _ h => h.elim).trans hf2)
        clear hi2 hf2 hx3 c0' c1' c2' c3' cf' x0 x1 xf y0 y1 yf
        go_wp2
        refine bodyPost_ret (v := .tuple #[.int .u8 3, .agg #[.int .u16 0, .slice none 0 0]]) (by simp [results, Try.results18, go_sem, t0', t1']) rfl ?_
        rw [show chN s = 0 by unfold chN; rw [HKD.out]; rfl, show bdN s = [] by unfold bdN; rw [HKD.out]; rfl, HKD.out, next_bad HKD.out]
        exact GivesXN.mk0 (k := 3) (HI3.out.off (X := fun i => i = z) (Off.snoc (Off.snoc (Off.refl _ _) rfl) rfl) hgz (fun b ⟨o, e⟩ => (by cases e))) (fun i ⟨o, e⟩ => (by cases e)) ((HF3.out.fresh hwz).fresh hwz)
/-- What comes next. -/
theorem xnext_any (g c : Nat) (A : Option Addr) (s : St) (w : World) (i : XIn w g A c s) : Calls Try.prog 18 #[.pointer (some ⟨g, 0, none⟩)] w (GivesXN (kind s) (chN s) (bdN s) g A (next s) w) := by
  rcases hb : s.bad with _ | _
  · rcases hw : s.went with _ | _
    · have h2 : kind s ≠ 2 := fun h => by have := (kind_frame h).2.1; rw [hw] at this; cases this
      have := xnext_head g c A s w i hb hw
      rwa [show chN s = 0 by unfold chN; rw [if_neg h2], bdN0 h2]
    · exact xnext_frame g c A s w i hb hw
  · have hk := kind_bad hb
    have hn : next s = s := by
      rw [next_bad hk]
      have hh := i.ok.bad hb
      rcases s with ⟨m, h, b, t⟩
      have h1 : h = [] := hh
      have h2 : b = true := hb
      subst h1
      subst h2
      rfl
    have := xnext_bad g c A s w i hb
    rw [hk, hn, show chN s = 0 by unfold chN; rw [if_neg (by omega)], bdN0 (by omega)]
    exact this
end Go.Proofs.Ytdjncacknmejoaa.It
