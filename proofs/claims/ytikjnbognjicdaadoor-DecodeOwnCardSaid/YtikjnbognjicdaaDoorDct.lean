/-
  Contract of the reader's told: what a constructor and data tell, so deep at most; by induction on that. Condition: at most 2^40 bytes.
-/
import Derived.Test.YtikjnbognjicdaaDoorDca
namespace Go.Proofs.YtikjnbognjicdaaDoor.Dec
set_option maxRecDepth 100000
open Go.RowKit Go.Proofs.YtikjnbognjicdaaDoor.Utf Go.Proofs.YtikjnbognjicdaaDoor.Val V

theorem called_snoc : ∀ (l : List V) (x v : V), calledV (l ++ [x]) v = calledV l (.mk 25 0 ⟨#[]⟩ [x, v])
  | [], _, _ => rfl
  | y :: l, x, v => by simp only [List.cons_append, calledV, called_snoc l x v]
theorem Rdr.items {w w' : World} {rb ib B n c sh it it' : Nat} {A : Option Addr} {L : List Nat} (h : Rdr w rb ib B A n c L sh it) (hu : Up ib ib w w') (hi : w'.cell? ⟨ib, 0, none⟩ = some (.int .i64 (it' : Int))) (hf : ∀ j, w'.frozen? ⟨ib, j, none⟩ = false) : Rdr w' rb ib B A n c L sh it' := by
  have hlr := h.lr
  have hli := h.li
  have hne := h.ne
  have hib := h.hi
  have c1 : ∀ j, w'.cell? ⟨rb, j, none⟩ = w.cell? ⟨rb, j, none⟩ := fun j => hu.cell hlr hne hne j
  exact ⟨(c1 0).trans h.left, (c1 1).trans h.short, (c1 2).trans h.ptr, hi, fun j => (World.frozen?_of_block (w := w) (hu.block rb hlr hne hne)).trans (h.fr j), hf,
    h.rd.keep fun p hp => World.cell?_of_block (w := w) (hu.block p.block (by have := h.low; omega) (by omega) (by omega)), h.cap, h.lim, h.hr, h.hi, h.ne, Nat.lt_of_lt_of_le h.lr hu.size, Nat.lt_of_lt_of_le h.li hu.size⟩
/-- A new pair. -/
theorem pair_new {w w' : World} {P Q : Nat → Prop} {k n k' n' : Nat} {t t' : ByteArray} {ks ks' : List V} {A A' : Option Addr} {l c l' c' g : Nat} (hk : k < 256) (hn : n < 18446744073709551616) (hk' : k' < 256) (hn' : n' < 18446744073709551616)
    (hK : Val.Kids true w P ks A l c) (hK' : Val.Kids true w P ks' A' l' c') (hkeep : ∀ i, P i → w'.heap[i]? = w.heap[i]?) (hPQ : ∀ i, P i → Q i) (hg : Q g)
    (hnew : w'.heap[g]? = some (.cells #[.int .u8 k, .int .u64 n, .string t, .slice A l c, .int .u8 k', .int .u64 n', .string t', .slice A' l' c'] 25 (0, 0))) :
    Val.Kids true w' Q [.mk k n t ks, .mk k' n' t' ks'] (some ⟨g, 0, none⟩) 2 2 := by
  have hc : ∀ j, w'.cell? ⟨g, j, none⟩ = (#[.int .u8 k, .int .u64 n, .string t, .slice A l c, .int .u8 k', .int .u64 n', .string t', .slice A' l' c'] : Array Value)[j]? := fun j => by simp [World.cell?, hnew]
  refine ⟨rfl, Nat.le_refl _, fun _ => ⟨g, 0, rfl, hg, fun _ => ⟨_, hnew⟩, ?_⟩⟩
  exact ⟨repV_iff.2 ⟨A, l, c, by rw [hc]; rfl, by rw [hc]; rfl, by rw [hc]; rfl, by rw [hc]; rfl, hk, hn, (hK.keep hkeep).mono hPQ⟩, repV_iff.2 ⟨A', l', c', by rw [hc]; rfl, by rw [hc]; rfl, by rw [hc]; rfl, by rw [hc]; rfl, hk', hn', (hK'.keep hkeep).mono hPQ⟩, trivial⟩

/-- At the head of a round: the value v, in the box G. -/
structure TS (w wr : World) (ib it G : Nat) (ns : List V) (An : Option Addr) (nn cn code : Nat) (v : V) (Av : Option Addr) (lv cv : Nat) : Prop where
  hd : HBox wr w.heap.size (.slice An nn cn) (.int .u8 (code : Int))
  res : Box wr (w.heap.size + 1) (.int .u8 0) (.int .u64 0) (.string ⟨#[]⟩) (.slice none 0 0)
  box : Box wr G (.int .u8 (v.kind : Int)) (.int .u64 (v.num : Int)) (.string v.text) (.slice Av lv cv)
  far : w.heap.size + 1 < G
  kd : v.kind < 256
  nm : v.num < 18446744073709551616
  kids : Val.Kids true wr (fun i => w.heap.size + 2 ≤ i ∧ i < wr.heap.size ∧ i ≠ G) v.kids Av lv cv
  item : wr.cell? ⟨ib, 0, none⟩ = some (.int .i64 (it : Int))
  fi : ∀ j, wr.frozen? ⟨ib, j, none⟩ = false
  up : Up ib ib w wr
  low : ib < w.heap.size
/-- One name more. -/
theorem TS.more {w wr : World} {ib it G : Nat} {ns : List V} {An : Option Addr} {nn cn code : Nat} {v : V} {Av : Option Addr} {lv cv : Nat} (h : TS w wr ib it G ns An nn cn code v Av lv cv) {k n : Nat} {t : ByteArray} {A' : Option Addr} {c' : Nat} (hk : k < 256) (hn : n < 18446744073709551616) :
    TS w (((((wr.setCell ⟨G, 0, none⟩ (.int .u8 25)).setCell ⟨G, 1, none⟩ (.int .u64 0)).setCell ⟨G, 2, none⟩ (.string ⟨#[]⟩)).setCell ⟨G, 3, none⟩ (.slice (some ⟨wr.heap.size, 0, none⟩) 2 2)).alloc (.cells #[.int .u8 k, .int .u64 n, .string t, .slice A' 0 c', .int .u8 (v.kind : Int), .int .u64 (v.num : Int), .string v.text, .slice Av lv cv] 25)).drew ib it G ns An nn cn code (.mk 25 0 ⟨#[]⟩ [.mk k n t [], v]) (some ⟨wr.heap.size, 0, none⟩) 2 2 := by
  have hf := h.far
  have hl := h.low
  have hg := h.box.lt
  have hs := h.up.size
  obtain ⟨w1, hw1⟩ : ∃ w1, (((wr.setCell ⟨G, 0, none⟩ (.int .u8 25)).setCell ⟨G, 1, none⟩ (.int .u64 0)).setCell ⟨G, 2, none⟩ (.string ⟨#[]⟩)).setCell ⟨G, 3, none⟩ (.slice (some ⟨wr.heap.size, 0, none⟩) 2 2) = w1 := ⟨_, rfl⟩
  have hs1 : w1.heap.size = wr.heap.size := by rw [← hw1]; exact size_four _ _ _ _ _ _
  have h1 : ∀ i, i ≠ G → w1.heap[i]? = wr.heap[i]? := fun i hi => by rw [← hw1]; exact heap_four _ _ _ _ _ _ i hi
  have hbx : Box w1 G (.int .u8 25) (.int .u64 0) (.string ⟨#[]⟩) (.slice (some ⟨wr.heap.size, 0, none⟩) 2 2) := by rw [← hw1]; exact Box.set4 h.box _ _ _ _
  have hup : Up ib ib w w1 := by rw [← hw1]; exact up_set4 h.up (by omega) _ _ _ _
  rw [hw1]
  obtain ⟨w2, hw2⟩ : ∃ w2, (w1.alloc (.cells #[.int .u8 k, .int .u64 n, .string t, .slice A' 0 c', .int .u8 (v.kind : Int), .int .u64 (v.num : Int), .string v.text, .slice Av lv cv] 25)).drew = w2 := ⟨_, rfl⟩
  have hb2 : Below w1.heap.size w1 w2 := by subst hw2; exact ((Below.refl _ _).alloc (Nat.le_refl _) _).drew
  have hs2 : w2.heap.size = wr.heap.size + 1 := by subst hw2; show (w1.alloc _).heap.size = _; simp [hs1]
  have hold : ∀ i, i < wr.heap.size → i ≠ G → w2.heap[i]? = wr.heap[i]? := fun i hi hG => (hb2.block i (by omega)).trans (h1 i hG)
  have hnew : w2.heap[wr.heap.size]? = some (.cells #[.int .u8 k, .int .u64 n, .string t, .slice A' 0 c', .int .u8 (v.kind : Int), .int .u64 (v.num : Int), .string v.text, .slice Av lv cv] 25 (0, 0)) := by subst hw2; rw [← hs1]; exact heap_alloc_new w1 _
  rw [hw2]
  obtain ⟨vk, vn, vt, vks⟩ := v
  refine ⟨h.hd.keep (hold _ h.hd.lt (by omega)), (hold _ h.res.lt (by omega)).trans h.res, (hb2.block _ (by omega)).trans hbx, hf, (by show 25 < 256; omega), (by show 0 < 18446744073709551616; omega), ?_, ?_, ?_, hup.call hb2, hl⟩
  · exact pair_new (w := wr) hk hn h.kd h.nm (Val.Kids.none_ _ _ _ _ _) h.kids (fun i hi => hold i hi.2.1 hi.2.2) (fun i hi => ⟨hi.1, by omega, hi.2.2⟩) ⟨by omega, by omega, by omega⟩ hnew
  · exact (World.cell?_of_block (w := wr) (hold ib (by omega) (by omega))).trans h.item
  · exact fun j => (World.frozen?_of_block (w := wr) (hold ib (by omega) (by omega))).trans (h.fi j)

section
variable {w : World} {rb ib B n c sh it : Nat} {A : Option Addr} {L : List Nat} {ns : List V} {An : Option Addr} {nn cn code : Nat} {d : List Nat} {Ad : Option Addr} {nd cd : Nat}
/-- The world behind the count. -/
def cntW (w : World) (ib T : Nat) (An : Option Addr) (nn cn code : Nat) : World :=
  (((w.alloc (.cells #[.slice An nn cn, .int .u8 (code : Int)] 92)).alloc (.cells #[.int .u8 0, .int .u64 0, .string ⟨#[]⟩, .slice none 0 0] 25)).setCell ⟨ib, 0, none⟩ (.int .i64 (T : Int))).drew
theorem cnt_size (w : World) (ib T : Nat) (An : Option Addr) (nn cn code : Nat) : (cntW w ib T An nn cn code).heap.size = w.heap.size + 2 := by simp [cntW]
theorem cnt_below (w : World) (An : Option Addr) (nn cn code : Nat) : Below w.heap.size w ((w.alloc (.cells #[.slice An nn cn, .int .u8 (code : Int)] 92)).alloc (.cells #[.int .u8 0, .int .u64 0, .string ⟨#[]⟩, .slice none 0 0] 25)) :=
  ((Below.refl _ w).alloc (Nat.le_refl _) _).alloc (by simp) _
theorem cnt_rdr (h : Rdr w rb ib B A n c L sh it) (T : Nat) : Rdr (cntW w ib T An nn cn code) rb ib B A n c L sh T := ((h.call (cnt_below w An nn cn code)).setItem T).call (Below.refl _ _).drew
theorem cnt_up (T : Nat) : Up ib ib w (cntW w ib T An nn cn code) := ((Up.of (cnt_below w An nn cn code)).setA 0 _).call (Below.refl _ _).drew
theorem cnt_hd (h : ib < w.heap.size) (T : Nat) : HBox (cntW w ib T An nn cn code) w.heap.size (.slice An nn cn) (.int .u8 (code : Int)) :=
  ((HBox.new w (.slice An nn cn) (.int .u8 (code : Int))).keep (w' := (w.alloc (.cells #[.slice An nn cn, .int .u8 (code : Int)] 92)).alloc (.cells #[.int .u8 0, .int .u64 0, .string ⟨#[]⟩, .slice none 0 0] 25)) (Below.heap_alloc _ _ _ (by simp))).keep (Below.heap_setCell _ ⟨ib, 0, none⟩ (.int .i64 (T : Int)) _ (by simp; omega))
theorem cnt_res (h : ib < w.heap.size) (T : Nat) : Box (cntW w ib T An nn cn code) (w.heap.size + 1) (.int .u8 0) (.int .u64 0) (.string ⟨#[]⟩) (.slice none 0 0) :=
  (Below.heap_setCell ((w.alloc (.cells #[.slice An nn cn, .int .u8 (code : Int)] 92)).alloc (.cells #[.int .u8 0, .int .u64 0, .string ⟨#[]⟩, .slice none 0 0] 25)) ⟨ib, 0, none⟩ (.int .i64 (T : Int)) _ (by simp; omega)).trans (Box.new2 w _ _ _ _ _)

set_option maxHeartbeats 2000000 in
theorem told_many (h : Rdr w rb ib B A n c L sh it) (hit : it ≤ 1024) (hn16 : nn ≤ 16) (hm : 1024 < it + 1 + 2 * nn) :
    Calls Tryd.prog 63 #[.pointer (some ⟨rb, 0, none⟩), .agg #[.slice An nn cn, .int .u8 (code : Int)], .slice Ad nd cd] w (Fails 6 ib ib w) := by
  obtain ⟨T, hT⟩ : ∃ T : Nat, it + 1 + 2 * nn = T := ⟨_, rfl⟩
  obtain ⟨W3, hW3⟩ : ∃ W3, (((w.alloc (.cells #[.slice An nn cn, .int .u8 (code : Int)] 92)).alloc (.cells #[.int .u8 0, .int .u64 0, .string ⟨#[]⟩, .slice none 0 0] 25)).setCell ⟨ib, 0, none⟩ (.int .i64 (T : Int))).drew = W3 := ⟨_, rfl⟩
  have hR : Rdr W3 rb ib B A n c L sh T := hW3 ▸ cnt_rdr h T
  have hU : Up ib ib w W3 := hW3 ▸ cnt_up T
  have hH := h.call (cnt_below w An nn cn code).drew
  have e1 : IntKind.i64.wrap (2 * (nn : Int)) = 2 * (nn : Int) := by rw [IntKind.wrap_i64]; omega
  have e2 : IntKind.i64.wrap (1 + 2 * (nn : Int)) = 1 + 2 * (nn : Int) := by rw [IntKind.wrap_i64]; omega
  have e3 : IntKind.i64.wrap ((it : Int) + (1 + 2 * (nn : Int))) = (T : Int) := by rw [IntKind.wrap_i64]; omega
  have hgt : (T : Int) > 1024 := by omega
  have x0 := hH.ptr
  have x1 := hH.item
  have x2 := hH.fi 0
  have y0 := hR.ptr
  have y1 := hR.item
  have HW := Lib.hid hW3
  clear hT hm hH hit hn16 hW3
  go_enter Tryd.func63, Tryd.ntmps63
  go_wp2
  go_region
  rw [HW.out]
  go_wp2
  exact ⟨rfl, rfl, hU⟩
set_option maxHeartbeats 4000000 in
theorem told_ok {F : Nat} (hT : Told F) (h : Rdr w rb ib B A n c L sh it) (hN : Nms w rb ib ns An nn cn) (hr : Rd .u8 256 w B Ad nd d) (hc : nd ≤ cd) (hl : nd ≤ 1099511627776) (hF : d.length ≤ F) {T : Nat} (hTn : it + 1 + 2 * ns.length = T) (hT1024 : T ≤ 1024) :
    Calls Tryd.prog 63 #[.pointer (some ⟨rb, 0, none⟩), .agg #[.slice An nn cn, .int .u8 (code : Int)], .slice Ad nd cd] w (ToldR rb ib B A n c L sh (match aloneD (toldN F) T code d with | none => none | some (v, it') => some (calledV ns v, it')) w) := by
  obtain ⟨W3, hW3⟩ : ∃ W3, (((w.alloc (.cells #[.slice An nn cn, .int .u8 (code : Int)] 92)).alloc (.cells #[.int .u8 0, .int .u64 0, .string ⟨#[]⟩, .slice none 0 0] 25)).setCell ⟨ib, 0, none⟩ (.int .i64 (T : Int))).drew = W3 := ⟨_, rfl⟩
  have hnl : nn = ns.length := hN.kids.len
  have hn16 := hN.few
  have hli := h.li
  have hlr := h.lr
  have hlow := h.low
  have hR : Rdr W3 rb ib B A n c L sh T := hW3 ▸ cnt_rdr h T
  have hU : Up ib ib w W3 := hW3 ▸ cnt_up T
  have hbh : HBox W3 w.heap.size (.slice An nn cn) (.int .u8 (code : Int)) := hW3 ▸ cnt_hd hli T
  have hbz : Box W3 (w.heap.size + 1) (.int .u8 0) (.int .u64 0) (.string ⟨#[]⟩) (.slice none 0 0) := hW3 ▸ cnt_res hli T
  have hs3 : W3.heap.size = w.heap.size + 2 := hW3 ▸ cnt_size w ib T An nn cn code
  have hr3 : Rd .u8 256 W3 B Ad nd d := hr.below (hU.below h.hi h.hi hlow)
  have hH := h.call (cnt_below w An nn cn code).drew
  have e1 : IntKind.i64.wrap (2 * (nn : Int)) = 2 * (nn : Int) := by rw [IntKind.wrap_i64]; omega
  have e2 : IntKind.i64.wrap (1 + 2 * (nn : Int)) = 1 + 2 * (nn : Int) := by rw [IntKind.wrap_i64]; omega
  have e3 : IntKind.i64.wrap ((it : Int) + (1 + 2 * (nn : Int))) = (T : Int) := by rw [IntKind.wrap_i64]; omega
  have hgt : ¬ (T : Int) > 1024 := by omega
  have x0 := hH.ptr
  have x1 := hH.item
  have x2 := hH.fi 0
  have y0 := hR.ptr
  have y1 := hR.item
  obtain ⟨y3, y4, _⟩ := hbh.all
  have hA := alone_any hT hR hT1024 (code := code) hr3 hc hl hF
  have HW := Lib.hid hW3
  have HS3 := Lib.hid hs3
  have HNL := Lib.hid hnl
  clear hTn hT1024 hH hW3 hs3 hnl hli hlr hlow
  cases hal : aloneD (toldN F) T code d with
  | none =>
    rw [hal] at hA
    go_enter Tryd.func63, Tryd.ntmps63
    go_wp2
    go_region
    rw [HW.out]
    go_wp2_with ((go_at_call 86; refine hA.mono ?_; rintro e w4 ⟨rfl, hu4⟩))
    exact ⟨rfl, rfl, hU.trans hu4⟩
  | some p =>
    obtain ⟨v0, it'⟩ := p
    rw [hal] at hA
    obtain ⟨VV, hVV⟩ : ∃ VV, calledV ns v0 = VV := ⟨_, rfl⟩
    show Calls _ _ _ _ (ToldR rb ib B A n c L sh (some (calledV ns v0, it')) w)
    rw [hVV]
    have HVV : Hid (calledV (ns.take nn) v0 = VV) := Lib.hid (by rw [List.take_of_length_le (by have := HNL.out; omega)]; exact hVV)
    clear hVV
    have hw0 : IntKind.i64.wrap ((nn : Int) - 1) = (nn : Int) - 1 := by rw [IntKind.wrap_i64]; omega
    go_enter Tryd.func63, Tryd.ntmps63
    go_wp2
    go_region
    rw [HW.out]
    go_wp2_with ((go_at_call 86; refine hA.mono ?_; rintro e w4 ⟨⟨Av, lv, cv, rfl, hvk, hvn, hnv⟩, hit4, hi4, hf4, hu4⟩; have hb4 := (HBox.up hbh hu4 (Nat.ne_of_gt h.li) (Nat.ne_of_gt h.li)).keep (w' := w4.alloc (.cells #[.int .u8 (v0.kind : Int), .int .u64 (v0.num : Int), .string v0.text, .slice Av lv cv] 25)) (Below.heap_alloc _ _ _ (by have := hbh.lt; have := hu4.size; omega)); obtain ⟨y5, y6, _⟩ := hb4.all))
    have hs4 := hu4.size
    have hs3 := HS3.out
    have hli := h.li
    have hlr := h.lr
    have hlow := h.low
    obtain ⟨W5, hW5⟩ : ∃ W5, w4.alloc (.cells #[.int .u8 (v0.kind : Int), .int .u64 (v0.num : Int), .string v0.text, .slice Av lv cv] 25) = W5 := ⟨_, rfl⟩
    obtain ⟨G, hG⟩ : ∃ G, w4.heap.size = G := ⟨_, rfl⟩
    have hB5 : Below w4.heap.size w4 W5 := by rw [← hW5]; exact (Below.refl _ _).alloc (Nat.le_refl _) _
    have hs5 : W5.heap.size = G + 1 := by rw [← hW5, ← hG]; simp
    have hTS : TS w W5 ib it' G ns An nn cn code v0 Av lv cv :=
      ⟨by rw [← hW5]; exact hb4, (hB5.block _ (by omega)).trans (Box.up hbz hu4 (by omega) (by omega)), by rw [← hW5, ← hG]; exact Box.new _ _ _ _ _, by omega, hvk, hvn, (hnv.keep fun i hi => hB5.block i hi.2).mono fun i hi => ⟨by omega, by omega, by omega⟩, (hB5.cell (p := ⟨ib, 0, none⟩) (by show ib < _; omega)).trans hi4, fun j => (hB5.frozen (p := ⟨ib, j, none⟩) (by show ib < _; omega)).trans (hf4 j), (hU.trans hu4).call hB5, hli⟩
    rw [hW5, hG]
    clear hW5 hG hb4 y5 y6 hs3 hs4 hB5 hnv hi4 hf4 hvk hvn hli hlr hlow
    go_loopg [8] nn (fun g s8 wr => ∃ (v : V) (Av : Option Addr) (lv cv : Nat), g ≤ nn ∧ s8 = .int .i64 ((g : Int) - 1) ∧ TS w wr ib it' G ns An nn cn code v Av lv cv ∧ calledV (ns.take g) v = VV)
    case atStart => exact ⟨v0, Av, lv, cv, Nat.le_refl _, rfl, hTS, HVV.out⟩
    case round =>
      obtain ⟨v, Av, lv, cv, hgn, rfl, hS, hV⟩ := hrel
      have hlow := hS.low
      have HLOW := Lib.hid hlow
      clear hlow
      clear hTS
      obtain ⟨z0, z1, _⟩ := hS.hd.all
      obtain ⟨b0, b1, b2, b3, bf⟩ := hS.box.all
      obtain ⟨q0, q1, q2, q3, qf⟩ := hS.res.all
      have hGl := hS.box.lt
      have hfar := hS.far
      cases gk with
      | zero =>
        rw [List.take_zero] at hV
        have hV : v = VV := hV
        subst hV
        have hfar' : G ≠ w.heap.size + 1 := by omega
        go_wp2
        refine bodyPost_ret (v := .agg #[.int .u8 (v.kind : Int), .int .u64 (v.num : Int), .string v.text, .slice Av lv cv]) (by simp [results, Tryd.results63, go_sem, q0, q1, q2, q3]) rfl ?_
        have hlow := HLOW.out
        have hup := up_set4 (hS.up) (g := w.heap.size + 1) (by omega) (.int .u8 (v.kind : Int)) (.int .u64 (v.num : Int)) (.string v.text) (.slice Av lv cv)
        refine ⟨⟨Av, lv, cv, rfl, hS.kd, hS.nm, ?_⟩, hit4, h.items hup ((cell_far4 (by omega) _ _ _ _ _).trans hS.item) fun j => (frozen_far4 (by omega) _ _ _ _ _).trans (hS.fi j), hup⟩
        exact (hS.kids.keep fun i hi => heap_four _ _ _ _ _ _ i (by omega)).mono fun i hi => ⟨by omega, by rw [size_four]; exact hi.2.1⟩
      | succ m =>
        have hmn : m < nn := by omega
        have em : (((m + 1 : Nat) : Int)) - 1 = (m : Int) := by omega
        rw [em]
        have hm0 : (m : Int) ≥ 0 := by omega
        have hN' : Val.Kids true wr (fun i => i < w.heap.size ∧ i ≠ rb ∧ i ≠ ib) ns An nn cn := hN.kids.keep fun i hi => hS.up.block i hi.1 hi.2.2 hi.2.2
        obtain ⟨b, o, k, n', t, ks', A', l', c', hAn, hP, hx, h0, h1, h2, h3, hk', hn', hK'⟩ := hN'.at_ hmn
        subst hAn
        have hks : ks' = [] := (hN.fl _ (List.mem_of_getElem? hx)).kids
        subst hks
        have hl0 : l' = 0 := hK'.len
        subst hl0
        have hxm : calledV (ns.take m) (.mk 25 0 ⟨#[]⟩ [.mk k n' t [], v]) = VV := by rw [← called_snoc, ← hV]; congr 1; rw [List.take_add_one, hx]; rfl
        have HX := Lib.hid hxm
        have hw1 : IntKind.i64.wrap ((m : Int) - 1) = (m : Int) - 1 := by rw [IntKind.wrap_i64]; omega
        have hmi : (m : Int) < (nn : Int) := by omega
        clear hxm hV em hx
        go_wp2
        go_region
        go_wp2
        go_roundg m
        case measure => omega
        case rel => exact ⟨_, _, _, _, by omega, rfl, hS.more hk' hn', HX.out⟩
theorem told_step {F : Nat} (hT : Told F) : Told (F + 1) := ⟨fun w rb ib B n c sh it A L ns An nn cn code d Ad nd cd h hit hN _ hr hc hl hF => by
  rw [told_succ]
  have hnl : nn = ns.length := hN.kids.len
  by_cases hm : 1024 < it + 1 + 2 * ns.length
  · rw [if_pos hm]
    exact told_many h hit hN.few (by omega)
  · rw [if_neg hm]
    exact told_ok hT h hN hr hc hl (by omega) rfl (by omega)⟩
end
theorem told_any : ∀ F : Nat, Told F
  | 0 => ⟨fun _ _ _ _ _ _ _ _ _ _ _ _ _ _ _ _ _ _ _ _ _ _ _ _ _ _ hF => absurd hF (Nat.not_lt_zero _)⟩
  | F + 1 => told_step (told_any F)
end Go.Proofs.YtikjnbognjicdaaDoor.Dec
