/-
  The document's intake (layer 12): Next. Memory that was there stays, but for its own blocks; a frame's body lies in new memory. No condition.
-/
import Derived.Test.YtdjncacknmejoaaIxa
import Derived.Test.YtdjncacknmejoaaFrl
namespace Go.Proofs.Ytdjncacknmejoaa.It
set_option maxRecDepth 100000
open Go.RowKit Go.Proofs.Ytdjncacknmejoaa.Utf Go.Proofs.Ytdjncacknmejoaa.Enc Go.Proofs.Ytdjncacknmejoaa.Fr

def cutA (A : Option Addr) (c k : Nat) : Option Addr := if c = k then A else A.map (·.add k)
theorem addr_add (h o k : Nat) : Option.map (fun x : Addr => x.add k) (some (⟨h, o, none⟩ : Addr)) = some ⟨h, o + k, none⟩ := by
  simp only [Option.map_some, Addr.add]
  split
  · rename_i h0; simp [h0]
  · rfl
theorem cutA_bof {w : World} {A : Option Addr} {n c k i : Nat} {l : List Nat} (r : Row w A n c l) (hk : k ≤ n) (h : Bof (cutA A c k) i) : Bof A i := by
  have hle := r.le
  obtain ⟨o, e⟩ := h
  unfold cutA at e
  by_cases hck : c = k
  · rw [if_pos hck] at e
    exact ⟨o, e⟩
  · rw [if_neg hck] at e
    rcases r.blk with h0 | ⟨h, o2, R, rfl, hB, ho⟩
    · omega
    · rw [addr_add] at e
      injection e with e
      injection e with e1 _ _
      exact ⟨o2, by rw [e1]⟩
theorem Row.cut {w : World} {A : Option Addr} {n c k : Nat} {l : List Nat} (r : Row w A n c l) (hk : k ≤ n) : Row w (cutA A c k) (n - k) (c - k) (l.drop k) := by
  have hle := r.le
  refine ⟨r.rd.drop hk hle, by omega, ?_⟩
  by_cases hck : c = k
  · exact .inl (by omega)
  · rcases r.blk with h0 | ⟨h, o, R, rfl, hB, ho⟩
    · exact .inl (by omega)
    · refine .inr ⟨h, o + k, R, ?_, hB, by omega⟩
      unfold cutA
      rw [if_neg hck, addr_add]
theorem run_cut (A : Option Addr) (n c k : Nat) (hk : k ≤ n) : (∀ (W : World) (i : Int), i = k → (Instr.slice 24 (.slice A n c) (some (.int .i64 i)) none none).run Try.prog W = .ok (.slice (cutA A c k) (n - k) (c - k)) W) ∧ ∀ (W : World) (i : Int), i = k → (Instr.sliceAt 24 (.slice A n c) (some (.int .i64 i)) none none).run Try.prog W = .ok (.slice (cutA A c k) (n - k) (c - k)) W := by
  have h1 : ∀ (W : World) (i : Int), i = k → (Instr.slice 24 (.slice A n c) (some (.int .i64 i)) none none).run Try.prog W = .ok (.slice (cutA A c k) (n - k) (c - k)) W := fun W i hi => by
    subst hi
    rw [run_slice_l (P := Try.prog) (w := W) 24 A n c under22 .i64 (k : Int) (by omega) (by omega), elem22, size5]
    simp only [Result.andThen, sliced, Int.toNat_natCast, Nat.mul_one, cutA]
  refine ⟨h1, fun W i hi => ?_⟩
  rw [run_sliceAt_slice (P := Try.prog) (w := W) 24 _ _ _ _ under22]
  exact h1 W i hi
/-- The intake behind the store of what is left. -/
theorem XIn.cutOff {w W : World} {g c k : Nat} {A : Option Addr} {s : St} (i : XIn w g A c s) (hb : s.bad = false) (hk : k ≤ s.held.length) (t : Bool) (ho : Off (fun i => i = g) w W)
    (hobj : W.heap[g]? = some (.cells #[.int .u32 (s.most : Int), .slice (cutA A c k) (s.held.length - k) (c - k), .bool t, .bool false] 45 (0, 0))) : XIn W g (cutA A c k) (c - k) { s with held := s.held.drop k, went := t } := by
  have hlen := i.ok.len
  refine ⟨⟨i.ok.lo, i.ok.hi, ?_, fun x hx => i.ok.byte x (List.mem_of_mem_drop hx), fun h => ?_⟩, ?_, ?_, fun h => i.ne (cutA_bof i.row hk h), fun b h => Nat.lt_of_lt_of_le (i.blk b (cutA_bof i.row hk h)) ho.size⟩
  · show (s.held.drop k).length ≤ s.most + 8
    rw [List.length_drop]; omega
  · have : s.bad = true := h
    rw [hb] at this
    cases this
  · show _ = some (Obj.cells #[.int .u32 (s.most : Int), .slice (cutA A c k) (s.held.drop k).length (c - k), .bool t, .bool s.bad] 45 (0, 0))
    rw [List.length_drop, hb]
    exact hobj
  · show Row W (cutA A c k) (s.held.drop k).length (c - k) (s.held.drop k)
    rw [List.length_drop]
    exact (i.row.cut hk).off ho fun b h => ⟨i.blk b (cutA_bof i.row hk h), fun e => i.ne (e ▸ cutA_bof i.row hk h)⟩
/-- Next's answer. -/
def GivesXN (k ch : Nat) (bd : List Nat) (g : Nat) (A : Option Addr) (s : St) (w : World) (e : Ending) (w' : World) : Prop :=
  ∃ B cb A2 c2, e = .returned (.tuple #[.int .u8 (k : Int), .agg #[.int .u16 (ch : Int), .slice B bd.length cb]]) ∧ Own .u8 256 5 w' w.heap.size B bd.length cb bd ∧ XIn w' g A2 c2 s ∧ (∀ i, Bof A2 i → Bof A i) ∧ Off (Xx g A) w w'
theorem GivesXN.mk0 {k g c2 : Nat} {A A2 : Option Addr} {s : St} {w w' : World} (hi : XIn w' g A2 c2 s) (ha : ∀ i, Bof A2 i → Bof A i) (ho : Off (Xx g A) w w') : GivesXN k 0 [] g A s w (.returned (.tuple #[.int .u8 (k : Int), .agg #[.int .u16 0, .slice none 0 0]])) w' :=
  ⟨none, 0, A2, c2, rfl, Own.nil _ _ _ _ _, hi, ha, ho⟩
theorem xnext_bad (g c : Nat) (A : Option Addr) (s : St) (w : World) (i : XIn w g A c s) (hb : s.bad = true) : Calls Try.prog 18 #[.pointer (some ⟨g, 0, none⟩)] w (GivesXN 3 0 [] g A s w) := by
  have hb0 : Below w.heap.size w (w.alloc (.cells #[.int .u16 0, .slice none 0 0] 39)) := ba (Below.refl _ _) _
  have hx0 : BxF (w.alloc (.cells #[.int .u16 0, .slice none 0 0] 39)) w.heap.size 0 none 0 0 := heap_alloc_new w _
  have i0 := i.call hb0
  obtain ⟨_, _, _, c3, _⟩ := i0.cells
  rw [hb] at c3
  obtain ⟨z, hz⟩ : ∃ z, w.heap.size = z := ⟨_, rfl⟩
  obtain ⟨W0, hW0⟩ : ∃ W0, w.alloc (.cells #[.int .u16 0, .slice none 0 0] 39) = W0 := ⟨_, rfl⟩
  rw [hW0] at c3 hx0 hb0
  rw [hz] at hx0
  obtain ⟨x0, x1, xf, _⟩ := hx0.all
  have HF : Hid (Off (fun _ => False) w ((W0.setCell ⟨z, 0, none⟩ (.int .u16 0)).setCell ⟨z, 1, none⟩ (.slice none 0 0))) := Lib.hid (((Off.of _ hb0).fresh (by omega)).fresh (by omega))
  have HI := Lib.hid i
  clear i0 i hx0 hb0
  go_enter Try.func18, Try.ntmps18
  go_wp2
  refine bodyPost_ret (v := .tuple #[.int .u8 3, .agg #[.int .u16 0, .slice none 0 0]]) (by simp [results, Try.results18, go_sem, x0, x1]) rfl ?_
  exact GivesXN.mk0 (k := 3) (HI.out.off HF.out (fun h => h) (fun _ _ h => h)) (fun _ h => h) (HF.out.mono fun _ _ h => h.elim)
theorem take_next {l : List Nat} {j x : Nat} (h : l.take j = hdr.take j) (hl : l[j]? = some x) (hx : hdr[j]? = some x) : l.take (j + 1) = hdr.take (j + 1) := by
  rw [List.take_add_one, List.take_add_one, hl, hx, h]
theorem took_eq {l : List Nat} (h : l.take l.length = hdr.take l.length) (hl : l.length ≤ 8) : l.take 8 = hdr.take l.length := by
  rw [List.take_of_length_le hl, ← h, List.take_length]
theorem kind_short {s : St} (hb : s.bad = false) (hw : s.went = false) (h : s.held.take s.held.length = hdr.take s.held.length) (hl : s.held.length < 8) : kind s = 0 := by
  unfold kind
  rw [hb, hw]
  simp only [Bool.false_eq_true, if_false]
  rw [if_pos (took_eq h (by omega)), if_pos hl]
theorem kind_head {s : St} (hb : s.bad = false) (hw : s.went = false) (h : s.held.take 8 = hdr.take 8) (hl : 8 ≤ s.held.length) : kind s = 1 := by
  unfold kind
  rw [hb, hw]
  simp only [Bool.false_eq_true, if_false]
  rw [if_pos (by rw [h, List.take_of_length_le (show hdr.length ≤ s.held.length from hl), List.take_of_length_le (show hdr.length ≤ 8 from by decide)]), if_neg (by omega)]
theorem kind_wrong {s : St} {j x y : Nat} (hb : s.bad = false) (hw : s.went = false) (hj : j < 8) (hx : s.held[j]? = some x) (hy : hdr[j]? = some y) (hne : x ≠ y) : kind s = 3 := by
  unfold kind
  rw [hb, hw]
  simp only [Bool.false_eq_true, if_false]
  rw [if_neg]
  intro e
  have h1 : (s.held.take 8)[j]? = some x := by rw [List.getElem?_take_of_lt hj]; exact hx
  have hjl : j < s.held.length := (List.getElem?_eq_some_iff.1 hx).1
  rw [e, List.getElem?_take_of_lt hjl, hy] at h1
  injection h1 with h1
  exact hne h1.symm
set_option maxHeartbeats 2000000 in
theorem xnext_head (g c : Nat) (A : Option Addr) (s : St) (w : World) (i : XIn w g A c s) (hb : s.bad = false) (hw : s.went = false) : Calls Try.prog 18 #[.pointer (some ⟨g, 0, none⟩)] w (GivesXN (kind s) 0 [] g A (next s) w) := by
  have hb0 : Below w.heap.size w (w.alloc (.cells #[.int .u16 0, .slice none 0 0] 39)) := ba (Below.refl _ _) _
  have hx0 : BxF (w.alloc (.cells #[.int .u16 0, .slice none 0 0] 39)) w.heap.size 0 none 0 0 := heap_alloc_new w _
  obtain ⟨z, hz⟩ : ∃ z, w.heap.size = z := ⟨_, rfl⟩
  obtain ⟨W0, hW0⟩ : ∃ W0, w.alloc (.cells #[.int .u16 0, .slice none 0 0] 39) = W0 := ⟨_, rfl⟩
  rw [hW0] at hx0 hb0
  rw [hz] at hx0
  have hgl := i.glt
  have hgz : g ≠ z := by omega
  have hzg : z ≠ g := by omega
  have hz0 : z < W0.heap.size := hx0.all.2.2.2
  obtain ⟨n, hn⟩ : ∃ n, s.held.length = n := ⟨_, rfl⟩
  have hnm : n ≤ 4104 := by have := i.ok.len; have := i.ok.hi; omega
  have hnc : n ≤ c := hn ▸ i.row.le
  obtain ⟨m, hm⟩ : ∃ m, s.most = m := ⟨_, rfl⟩
  -- what holds in every world of the walk
  have HW : Hid (∀ wx : World, Below W0.heap.size W0 wx → wx.cell? ⟨g, 0, none⟩ = some (.int .u32 (m : Int)) ∧ wx.cell? ⟨g, 1, none⟩ = some (.slice A n c) ∧ wx.cell? ⟨g, 2, none⟩ = some (.bool false) ∧ wx.cell? ⟨g, 3, none⟩ = some (.bool false) ∧ (∀ j, wx.frozen? ⟨g, j, none⟩ = false) ∧ Rd .u8 256 wx wx.heap.size A n s.held ∧ wx.cell? ⟨z, 0, none⟩ = some (.int .u16 0) ∧ wx.cell? ⟨z, 1, none⟩ = some (.slice none 0 0) ∧ (∀ j, wx.frozen? ⟨z, j, none⟩ = false)) := Lib.hid fun wx hbx => by
    have i2 := (i.call hb0).call hbx
    have hx2 := hx0.call hbx
    obtain ⟨c0, c1, c2, c3, cf⟩ := i2.cells
    obtain ⟨x0, x1, xf, _⟩ := hx2.all
    have hr := i2.row.rd
    rw [hn] at c1 hr
    rw [hb] at c3
    rw [hw] at c2
    rw [hm] at c0
    exact ⟨c0, c1, c2, c3, cf, hr, x0, x1, xf⟩
  obtain ⟨c0, c1, c2, c3, cf, hr0, x0, x1, xf⟩ := HW.out W0 (Below.refl _ _)
  have HI := Lib.hid i
  have HB0 := Lib.hid hb0
  have HBX := Lib.hid hx0
  have HN := Lib.hid hn
  have HM := Lib.hid hm
  clear i hx0 hb0 hr0 hn hm
  go_enter Try.func18, Try.ntmps18
  go_wp2_with (first
    | (go_at_call 31; (with_reducible refine (xstart_any _).mono ?_); rintro e w1 ⟨SA, sn, sc, rfl, hso, hb1⟩)
    | fail)
  have hs := hso.rd
  have hsn : sn = 8 := by have := hso.rd.len; simpa [hdr] using this.symm
  subst hsn
  clear hso c0 c1 c2 c3 cf x0 x1 xf
  go_loopw [5] (fun q wx => ∃ j : Nat, j ≤ 8 ∧ j ≤ n ∧ q = .int .i64 (j : Int) ∧ s.held.take j = hdr.take j ∧ Below w1.heap.size w1 wx) (fun q _ => 8 - (intOf q).toNat)
  case atStart => exact ⟨0, by omega, by omega, rfl, rfl, Below.refl _ _⟩
  case round =>
    obtain ⟨j, hj8, hjn, rfl, htk, hbx⟩ := hrel
    obtain ⟨c0, c1, c2, c3, cf, hr, x0, x1, xf⟩ := HW.out _ (hb1.trans (hbx.mono hb1.size))
    have hOff : Off (fun _ => False) w wr := (Off.of _ HB0.out).trans (Off.of _ (hb1.trans (hbx.mono hb1.size)))
    have HI2 := Lib.hid (HI.out.off hOff (fun h => h) (fun _ _ h => h))
    have hwz : w.heap.size ≤ z := by omega
    clear hz hW0 hz0
    by_cases hj : j = 8
    · subst hj
      obtain ⟨q1, q2⟩ := run_cut A n c 8 hjn
      have q1' := fun W => q1 W 8 rfl
      have q2' := fun W => q2 W 8 rfl
      have HK := Lib.hid (kind_head hb hw htk (by rw [HN.out]; exact hjn))
      have hFin : Off (fun i => i = g) w ((((wr.setCell ⟨g, 2, none⟩ (.bool true)).setCell ⟨g, 1, none⟩ (.slice (cutA A c 8) (n - 8) (c - 8))).setCell ⟨z, 0, none⟩ (.int .u16 0)).setCell ⟨z, 1, none⟩ (.slice none 0 0)) := (((Off.snoc (X := fun i => i = g) (g := g) (Off.snoc (X := fun i => i = g) (g := g) (hOff.mono fun _ _ h => h.elim) rfl) rfl).fresh hwz).fresh hwz)
      have HFin := Lib.hid hFin
      clear q1 q2 hOff hFin htk hr hs hbx hb1
      go_wp2
      refine bodyPost_ret (v := .tuple #[.int .u8 1, .agg #[.int .u16 0, .slice none 0 0]]) (by simp [results, Try.results18, go_sem, x0, x1]) rfl ?_
      rw [HK.out, next_1 HK.out]
      have hi := HI.out.cutOff (k := 8) hb (by rw [HN.out]; exact hjn) true HFin.out (by
        rw [Below.heap_setCell _ _ _ _ (by show g ≠ z; exact hgz), Below.heap_setCell _ _ _ _ (by show g ≠ z; exact hgz), HN.out]
        have hob := HI2.out.obj
        simp [World.setCell, Array.getElem?_modify, hob, hb])
      exact GivesXN.mk0 (k := 1) hi (fun _ h => cutA_bof HI.out.row (by rw [HN.out]; exact hjn) h) (HFin.out.mono fun _ _ e => Or.inl e)
    · have hj7 : j < 8 := by omega
      have hjI : (j : Int) < 8 := by omega
      by_cases hje : j = n
      · subst hje
        have HK := Lib.hid (kind_short hb hw (by rw [HN.out]; exact htk) (by rw [HN.out]; exact hj7))
        have hFin : Off (fun _ => False) w ((wr.setCell ⟨z, 0, none⟩ (.int .u16 0)).setCell ⟨z, 1, none⟩ (.slice none 0 0)) := (hOff.fresh hwz).fresh hwz
        have HFin := Lib.hid hFin
        clear hOff hFin htk hr hs hbx hb1
        go_wp2
        refine bodyPost_ret (v := .tuple #[.int .u8 0, .agg #[.int .u16 0, .slice none 0 0]]) (by simp [results, Try.results18, go_sem, x0, x1]) rfl ?_
        rw [HK.out, next_none HK.out]
        exact GivesXN.mk0 (k := 0) (HI.out.off HFin.out (fun h => h) (fun _ _ h => h)) (fun _ h => h) (HFin.out.mono fun _ _ h => h.elim)
      · have hjn' : j < n := by omega
        have hjnI : (j : Int) < (n : Int) := by omega
        have hje' : ((j : Int) == (n : Int)) = false := by simp; omega
        obtain ⟨b1, o1, x, rfl, hbb1, hx, hx2, hc1⟩ := hr.at_ hjn'
        obtain ⟨b2, o2, y, rfl, hbb2, hy, hy2, hc2⟩ := (hs.call hbx).at_ (show j < 8 by omega)
        have hxl : x < 256 := hx2
        have hyl : y < 256 := hy2
        by_cases hxy : x = y
        · subst hxy
          have htk' := Lib.hid (take_next htk hx hy)
          clear hOff htk hr hs
          go_wp2_with fail
          go_quiet (fail)
          go_wp2
          exact ⟨⟨j + 1, by omega, by omega, by go_num, htk'.out, ⟨hbx.os, hbx.tape, hbx.output, hbx.size, hbx.block⟩⟩, by simp [intOf]; omega⟩
        · have hxyI : ((x : Int) == (y : Int)) = false := by simp; omega
          have HK := Lib.hid (kind_wrong hb hw hj7 hx hy hxy)
          have HOff := Lib.hid hOff
          have hxb := HBX.out.call (hb1.trans (hbx.mono hb1.size))
          have HXB := Lib.hid hxb
          clear htk hr hs hOff hxb
          go_wp2_with fail
          go_quiet (fail)
          go_wp2_with fail
          have i3 : XIn (wr.drewN nq) g (some ⟨b1, o1, none⟩) c s := HI.out.off (HOff.out.drewN nq) (fun h => h) (fun _ _ h => h)
          (with_reducible refine (xspoil_any g c (some ⟨b1, o1, none⟩) s (wr.drewN nq) i3 hb).mono ?_)
          rintro e w2 ⟨rfl, hi2, hf2⟩
          have hx3 : BxF w2 z 0 none 0 0 := BxF.off (w := wr.drewN nq) HXB.out hf2 (fun e => e.elim (fun e => hzg e) fun e => by have := HI.out.blk z e; omega)
          obtain ⟨y0, y1, yf, _⟩ := hx3.all
          have HI3 := Lib.hid hi2
          have HF3 := Lib.hid ((((HOff.out.drewN nq).mono (Y := Xx g (some ⟨b1, o1, none⟩)) fun _ _ h => h.elim).trans hf2))
          clear i3 hi2 hf2 hx3 c0 c1 c2 c3 cf x0 x1 xf
          go_wp2
          refine bodyPost_ret (v := .tuple #[.int .u8 3, .agg #[.int .u16 0, .slice none 0 0]]) (by simp [results, Try.results18, go_sem, y0, y1]) rfl ?_
          rw [HK.out, next_bad HK.out]
          exact GivesXN.mk0 (k := 3) (HI3.out.off (X := fun i => i = z) (Off.snoc (Off.snoc (Off.refl _ _) rfl) rfl) hgz (fun b ⟨o, e⟩ => (by cases e))) (fun i ⟨o, e⟩ => (by cases e)) ((HF3.out.fresh hwz).fresh hwz)
end Go.Proofs.Ytdjncacknmejoaa.It
