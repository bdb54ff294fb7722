/-
  Contract of value.Same. Memory that was there stays. Condition: a value of bulk at most 2^30.
-/
import Derived.Test.YtohmnbefokhjpaaDoorStack
import Derived.Deep.LoopGhost
import Derived.Deep.RegionHeld3
import Derived.BigRegion
import Derived.Deep.DeepCutAuto
import Derived.Deep.CutRange
namespace Go.Proofs.YtohmnbefokhjpaaDoor.Val
open Go.RowKit Go.Proofs.YtohmnbefokhjpaaDoor.Utf V

theorem infoPair : (Tryd.prog.info? 76).map (fun i => (i.zero, i.size, i.bytes)) = some (some (.agg #[.slice none 0 0, .slice none 0 0]), 2, 48) := by kernel_rfl

/-- A slice of values, with what it reads as. -/
structure SE where
  A : Option Addr
  l : Nat
  c : Nat
  ks : List V
def SE.val (s : SE) : Value := .slice s.A s.l s.c

def pflat (st : List (SE × SE)) : List Value := st.flatMap fun p => [p.1.val, p.2.val]
theorem pflat_len (st : List (SE × SE)) : (pflat st).length = st.length * 2 := by
  induction st with
  | nil => rfl
  | cons p st ih => simp only [pflat, List.flatMap_cons, List.length_append, List.length_cons, List.length_nil] at ih ⊢; omega
theorem pflat_append (a b : List (SE × SE)) : pflat (a ++ b) = pflat a ++ pflat b := by simp [pflat]
theorem pflat_one (x y : SE) : pflat [(x, y)] = [x.val, y.val] := rfl

def pweight (st : List (SE × SE)) : Nat := (st.map fun p => 2 * itemsL p.1.ks + 1).sum
theorem pweight_snoc (st : List (SE × SE)) (x y : SE) : pweight (st ++ [(x, y)]) = pweight st + 2 * itemsL x.ks + 1 := by simp [pweight]; omega

def psame (st : List (SE × SE)) : Bool := st.all fun p => sameL p.1.ks p.2.ks
theorem psame_snoc (st : List (SE × SE)) (x y : SE) : psame (st ++ [(x, y)]) = (psame st && sameL x.ks y.ks) := by simp [psame]

/-- What holds at the head of a round: the stack st lies in memory, and the answer is what is left to ask. -/
structure PS (w wr : World) (A : Option Addr) (n c : Nat) (st : List (SE × SE)) (q : Bool) (g : Nat) : Prop where
  len : st.length = n
  own : wr.ownsRow w.heap.size 76 2 (.slice A n c) n (pflat st)
  ok : ∀ p ∈ st, Kids false wr (fun i => i < w.heap.size) p.1.ks p.1.A p.1.l p.1.c ∧ Kids false wr (fun i => i < w.heap.size) p.2.ks p.2.A p.2.l p.2.c ∧ p.1.l = p.2.l
  hq : q = psame st
  hg : pweight st ≤ g
  below : Below w.heap.size w wr
  small : n ≤ g + 1 ∧ g ≤ 4294967296

theorem Box.drew {w : World} {g : Nat} {x0 x1 x2 x3 : Value} (h : Box w g x0 x1 x2 x3) : Box w.drew g x0 x1 x2 x3 := h
theorem Box.new2 (w : World) (o : Obj) (x0 x1 x2 x3 : Value) : Box ((w.alloc o).alloc (.cells #[x0, x1, x2, x3] 27)) (w.heap.size + 1) x0 x1 x2 x3 := by
  have := Box.new (w.alloc o) x0 x1 x2 x3
  rwa [World.size_alloc] at this
theorem grown_of_below {w w' : World} (h : Below w.heap.size w w') : w.grownBy w' none := ⟨h.os, h.tape, h.output, h.size, fun k hk _ => h.block k hk⟩
theorem PS.call {w wr w' : World} {A : Option Addr} {n c : Nat} {st : List (SE × SE)} {q : Bool} {g : Nat} (h : PS w wr A n c st q g) (hb : Below wr.heap.size wr w') : PS w w' A n c st q g :=
  ⟨h.len, h.own.kept (grown_of_below hb) (by cases hv : (Value.slice A n c).ownBlock <;> simp), fun p hp => by
    obtain ⟨h1, h2, h3⟩ := h.ok p hp
    exact ⟨h1.keep fun i hi => hb.block i (Nat.lt_of_lt_of_le hi h.below.size), h2.keep fun i hi => hb.block i (Nat.lt_of_lt_of_le hi h.below.size), h3⟩, h.hq, h.hg, below_next h.below hb, h.small⟩
/-- Both slices of the top are cut from the front. -/
theorem PS.next {w wr : World} {G m c : Nat} {rest : List (SE × SE)} {x y x' y' : SE} {q : Bool} {g : Nat} (h : PS w wr (some ⟨G, 0, none⟩) (m + 1) c (rest ++ [(x, y)]) q g) (hl : rest.length = m) (hG : w.heap.size ≤ G)
    (hx : Kids false wr (fun i => i < w.heap.size) x'.ks x'.A x'.l x'.c) (hy : Kids false wr (fun i => i < w.heap.size) y'.ks y'.A y'.l y'.c) (hxy : x'.l = y'.l) {k : Nat} (hk : itemsL x'.ks + k ≤ itemsL x.ks) :
    PS w ((wr.setCell ⟨G, m * 2, none⟩ x'.val).setCell ⟨G, m * 2 + 1, none⟩ y'.val) (some ⟨G, 0, none⟩) (m + 1) c (rest ++ [(x', y')]) (psame (rest ++ [(x', y')])) (g - 2 * k) := by
  have hown := h.own
  rw [pflat_append, pflat_one] at hown
  have hfl : (pflat rest).length = m * 2 := by rw [pflat_len, hl]
  have h1 := (hown.stored (m * 2) x'.val).1
  have h2 := (h1.stored (m * 2 + 1) y'.val).1
  have e : ((pflat rest ++ [x.val, y.val]).set (m * 2) x'.val).set (m * 2 + 1) y'.val = pflat (rest ++ [(x', y')]) := by
    rw [pflat_append, pflat_one, List.set_append_right _ _ (by omega), hfl, List.set_append_right _ _ (by omega), hfl, Nat.sub_self, show m * 2 + 1 - m * 2 = 1 by omega]
    rfl
  rw [e] at h2
  have hg := h.hg
  rw [pweight_snoc] at hg
  have hs := h.small
  have hk2 : ∀ i, i < w.heap.size → ((wr.setCell ⟨G, m * 2, none⟩ x'.val).setCell ⟨G, m * 2 + 1, none⟩ y'.val).heap[i]? = wr.heap[i]? := fun i hi =>
    (Below.heap_setCell _ _ _ _ (show i ≠ G by omega)).trans (Below.heap_setCell _ _ _ _ (show i ≠ G by omega))
  refine ⟨by simp [hl], h2, fun p hp => ?_, rfl, by rw [pweight_snoc]; omega, (h.below.setCell (p := ⟨G, m * 2, none⟩) hG _).setCell (p := ⟨G, m * 2 + 1, none⟩) hG _, ?_⟩
  · rcases List.mem_append.1 hp with hp | hp
    · obtain ⟨a1, a2, a3⟩ := h.ok p (by simp [hp])
      exact ⟨a1.keep hk2, a2.keep hk2, a3⟩
    · simp at hp
      subst hp
      exact ⟨hx.keep hk2, hy.keep hk2, hxy⟩
  · have : m ≤ pweight rest := by
      rw [← hl]
      clear hg hs hk2 e h2 h1 hfl hown hxy hx hy hG hl h hk
      induction rest with
      | nil => simp
      | cons p r ih => simp [pweight] at ih ⊢; omega
    omega
theorem PS.push {w w5 w6 : World} {A5 : Option Addr} {n c : Nat} {st : List (SE × SE)} {q : Bool} {g : Nat} (h : PS w w5 A5 n c st q g) (x y : SE)
    (hx : Kids false w5 (fun i => i < w.heap.size) x.ks x.A x.l x.c) (hy : Kids false w5 (fun i => i < w.heap.size) y.ks y.A y.l y.c) (hxy : x.l = y.l) {g' cap : Nat}
    (hown : w6.ownsRow w.heap.size 76 2 (.slice (some ⟨g', 0, none⟩) (n + 1) cap) (n + 1) (pflat st ++ [x.val, y.val])) (o : Obj) (hg : (w5.alloc o).grownBy w6 (Value.slice A5 n c).ownBlock) {gn : Nat} (hw : g + 2 * itemsL x.ks + 1 ≤ gn) (hgn : gn ≤ 4294967296) :
    PS w w6 (some ⟨g', 0, none⟩) (n + 1) cap (st ++ [(x, y)]) (psame (st ++ [(x, y)])) gn := by
  have hbl := h.own.lt
  have hs5 := h.below.size
  have hk : ∀ i, i < w.heap.size → w6.heap[i]? = w5.heap[i]? := fun i hi =>
    (hg.block i (by simp; omega) (fun e => by have := (hbl i e.symm).1; omega)).trans (Below.heap_alloc _ _ _ (by omega))
  refine ⟨by simp [h.len], by rw [pflat_append]; exact hown, fun p hp => ?_, rfl, by rw [pweight_snoc]; have := h.hg; omega, (h.below.alloc hs5 o).grown hg (by simp; omega) (fun k hk => (hbl k hk).1), ?_⟩
  · rcases List.mem_append.1 hp with hp | hp
    · obtain ⟨a1, a2, a3⟩ := h.ok p hp
      exact ⟨a1.keep hk, a2.keep hk, a3⟩
    · simp at hp
      subst hp
      exact ⟨hx.keep hk, hy.keep hk, hxy⟩
  · have := h.small
    omega
theorem news2 (w : World) (x y : Value) (e : TypeId) : ∀ j u, [x, y][j]? = some u → (w.alloc (.cells #[x, y] e)).cell? ((⟨w.heap.size, 0, none⟩ : Addr).add j) = some u := by
  intro j u hu
  have hj : j < 2 := (List.getElem?_eq_some_iff.1 hu).1
  obtain rfl | rfl : j = 0 ∨ j = 1 := by omega
  · rw [← hu]; simp [Addr.add]
  · rw [← hu]; simp [Addr.add]
theorem same_alone (k n : Nat) (t : ByteArray) (ks : List V) (k' n' : Nat) (t' : ByteArray) (ks' : List V) : same (.mk k n t ks) (.mk k' n' t' ks') = (aloneB k k' n n' t t' ks.length ks'.length && sameL ks ks') := by
  rw [Bool.eq_iff_iff]
  simp only [same, aloneB, Bool.and_eq_true, beq_iff_eq, sameL_iff]
  refine ⟨fun h => ⟨⟨h.1, by rw [h.2]⟩, h.2⟩, fun h => ⟨h.1.1, h.2⟩⟩
theorem PS.pop {w wr : World} {A : Option Addr} {m c : Nat} {rest : List (SE × SE)} {x y : SE} {q : Bool} {g : Nat} (h : PS w wr A (m + 1) c (rest ++ [(x, y)]) q g) (hl : rest.length = m) (hx : x.l = 0) : PS w wr A m c rest q (g - 1) := by
  obtain ⟨h1, h2, h3⟩ := h.ok (x, y) (by simp)
  have e1 : x.ks = [] := List.eq_nil_of_length_eq_zero (by rw [← h1.len]; exact hx)
  have e2 : y.ks = [] := List.eq_nil_of_length_eq_zero (by rw [← h2.len, ← h3]; exact hx)
  have hown := h.own
  rw [pflat_append] at hown
  have hg := h.hg
  rw [pweight_snoc] at hg
  have hs := h.small
  refine ⟨hl, own_pop hown (by rw [pflat_len, hl]) (by omega), fun p hp => h.ok p (by simp [hp]), ?_, by omega, h.below, by omega⟩
  rw [h.hq, psame_snoc, e1, e2]
  simp [sameL]

set_option maxRecDepth 100000 in
set_option maxHeartbeats 1000000 in
theorem vsame_loop (k n : Nat) (t : ByteArray) (ks : List V) (A : Option Addr) (l c : Nat) (k' n' : Nat) (t' : ByteArray) (ks' : List V) (A' : Option Addr) (l' c' : Nat) (w : World) (hN : bulkL ks ≤ 1073741824) (hK : Kd w ks A l c) (hK' : Kd w ks' A' l' c') :
    Calls Tryd.prog 33 #[.agg #[.int .u8 k, .int .u64 n, .string t, .slice A l c], .agg #[.int .u8 k', .int .u64 n', .string t', .slice A' l' c']] w (GivesB (aloneB k k' n n' t t' l l' && sameL ks ks') w) := by
  have hx0 := two_boxes w (.cells #[.int .u8 k, .int .u64 n, .string t, .slice A l c] 27) (.cells #[.int .u8 k', .int .u64 n', .string t', .slice A' l' c'] 27)
  have hB1 := (Box.new w (.int .u8 k) (.int .u64 n) (.string t) (.slice A l c)).alloc (.cells #[.int .u8 k', .int .u64 n', .string t', .slice A' l' c'] 27)
  have hB2 := Box.new (w.alloc (.cells #[.int .u8 k, .int .u64 n, .string t, .slice A l c] 27)) (.int .u8 k') (.int .u64 n') (.string t') (.slice A' l' c')
  go_enter Tryd.func33, Tryd.ntmps33
  go_wp2_with fail
  refine (sameAlone_any k n t A l c k' n' t' A' l' c' _).mono ?_
  rintro e w1 ⟨rfl, hb1⟩
  have hb2 := below_next hx0 hb1
  obtain ⟨_, _, _, c13, _⟩ := (hB1.call hb1).all
  obtain ⟨_, _, _, c23, _⟩ := (hB2.call hb1).all
  cases hq : aloneB k k' n n' t t' l l' with
  | false =>
    go_wp2
    go_ret
    exact ⟨by rw [hq]; rfl, hb2⟩
  | true =>
    have HQ := Lib.hid (aloneB_iff hq)
    have HA := Lib.hid hq
    have hs1 := hb1.size
    simp only [World.size_alloc] at hs1 c23
    clear hq
    go_wp2
    have hil := itemsL_le ks
    have hPS : PS w (w1.alloc (.cells #[.slice A l c, .slice A' l' c'] 76)) (some ⟨w1.heap.size, 0, none⟩) 1 1 [(⟨A, l, c, ks⟩, ⟨A', l', c', ks'⟩)] (sameL ks ks') (2 * itemsL ks + 1) :=
      ⟨rfl, by have := World.ownsRow_lit (e := 76) (size := 2) (base := w.heap.size) w1 #[.slice A l c, .slice A' l' c'] 1 (by omega) (by unfold maxLen; omega) rfl; simpa [pflat, SE.val] using this,
        fun p hp => by
          simp at hp
          subst hp
          exact ⟨Kids.keep hK (fun i hi => (hb2.alloc (by omega) _).block i hi), Kids.keep hK' (fun i hi => (hb2.alloc (by omega) _).block i hi), HQ.out.2.2.2⟩,
        by simp [psame], by simp [pweight], hb2.alloc (by omega) _, by omega⟩
    go_loopg [5] (2 * itemsL ks + 1) (fun g s wr => ∃ A1 n1 c1 st, s = .slice A1 n1 c1 ∧ PS w wr A1 n1 c1 st (sameL ks ks') g)
    case atStart => exact ⟨_, _, _, _, rfl, hPS⟩
    case round =>
      obtain ⟨A1, n1, c1, st, rfl, hS⟩ := hrel
      clear hPS hB1 hB2 hx0 hb1 hb2 hs1 c13 c23
      rcases Nat.eq_zero_or_pos n1 with rfl | hn1
      · have hst : st = [] := List.eq_nil_of_length_eq_zero hS.len
        subst hst
        have HR := Lib.hid hS.hq
        have hb := hS.below
        clear hS
        go_wp2
        go_ret
        exact ⟨by rw [HA.out, HR.out]; rfl, hb⟩
      · obtain ⟨m, rfl⟩ : ∃ m, n1 = m + 1 := ⟨n1 - 1, by omega⟩
        obtain ⟨rest, x, y, rfl⟩ : ∃ rest x y, st = rest ++ [(x, y)] := by
          have hne : st ≠ [] := fun e => by have := hS.len; rw [e] at this; simp at this
          exact ⟨st.dropLast, (st.getLast hne).1, (st.getLast hne).2, by have := List.dropLast_concat_getLast hne; exact this.symm⟩
        have hlen : rest.length = m := by have := hS.len; simp at this; omega
        obtain ⟨G, rfl, hG1, hG2⟩ := own_form hS.own (by omega)
        have hsm := hS.small
        have hgk : 1 ≤ gk := by have := hS.hg; rw [pweight_snoc] at this; omega
        have own := hS.own
        rw [pflat_append, pflat_one] at own
        have hfl : (pflat rest).length = m * 2 := by rw [pflat_len, hlen]
        have ct0 : wr.cell? ⟨G, m * 2, none⟩ = some x.val := by rw [own.cellAt (m * 2) (by omega), List.getElem?_append_right (by omega), hfl]; simp
        have ct1 : wr.cell? ⟨G, m * 2 + 1, none⟩ = some y.val := by rw [own.cellAt (m * 2 + 1) (by omega), List.getElem?_append_right (by omega), hfl]; simp
        have fz : ∀ j, wr.frozen? ⟨G, j, none⟩ = false := own.frozenAt
        have hcap := own_cap own
        obtain ⟨hx, hy, hxy⟩ := hS.ok (x, y) (by simp)
        obtain ⟨xA, xl, xc, xk⟩ := x
        obtain ⟨yA, yl, yc, yk⟩ := y
        simp only [SE.val] at ct0 ct1 hx hy hxy own
        subst hxy
        have HL := Lib.hid hlen
        have HF := Lib.hid hfl
        clear hlen hfl
        rcases Nat.eq_zero_or_pos xl with rfl | hxl
        · obtain ⟨hs1, hs2⟩ := cut_top Tryd.underlying77 (show Tryd.prog.elem 77 = 76 by kernel_rfl) (show (Tryd.prog.info? 76).map (·.size) = some 2 by kernel_rfl) (some ⟨G, 0, none⟩) (m + 1) c1 m (by omega) hcap
          have hs1' := hs1 wr (m : Int) rfl
          have hs2' := hs2 wr (m : Int) rfl
          clear hs1 hs2
          go_wp2
          go_roundg (gk - 1)
          case measure => omega
          case rel => exact ⟨_, _, _, _, rfl, hS.pop HL.out rfl⟩
        · obtain ⟨b, o, k1, n1, t1, ks1, B1, l1, d1, rfl, hb1, hx1, h0, h1, h2, h3, hk1, hn1, hK1⟩ := Kids.at_ hx hxl
          obtain ⟨b', o', k2, n2, t2, ks2, B2, l2, d2, rfl, hb2, hx2, h0', h1', h2', h3', hk2, hn2, hK2⟩ := Kids.at_ hy hxl
          simp only [Nat.zero_mul, Nat.add_zero] at h0 h1 h2 h3 h0' h1' h2' h3'
          have hsz := hS.below.size
          have hbw : b < wr.heap.size := Nat.lt_of_lt_of_le hb1 hsz
          have hbw' : b' < wr.heap.size := Nat.lt_of_lt_of_le hb2 hsz
          have hxI : (0 : Int) < (xl : Int) := by omega
          have HX1 := Lib.hid hx1
          have HX2 := Lib.hid hx2
          clear hx1 hx2 hN
          obtain ⟨C1, e1, he1, hsx1, hsx2, hsx3⟩ := cut_vals (some ⟨b, o, none⟩) xl xc 1 (by omega) hx.cap
          obtain ⟨C2, e2, he2, hsy1, hsy2, hsy3⟩ := cut_vals (some ⟨b', o', none⟩) xl yc 1 (by omega) hy.cap
          have sx1 := fun W => hsx1 W 1 rfl
          have sx2 := fun W => hsx2 W 1 rfl
          have sy1 := fun W => hsy1 W 1 rfl
          have sy2 := fun W => hsy2 W 1 rfl
          clear hsx1 hsx2 hsy1 hsy2
          go_upto_region 8 with fail
          go_cut [7, 8] (fun s7 s8 wx => ∃ gx gy, s7 = .pointer (some ⟨gx, 0, none⟩) ∧ s8 = .pointer (some ⟨gy, 0, none⟩) ∧ Box wx gx (.int .u8 k1) (.int .u64 n1) (.string t1) (.slice B1 l1 d1) ∧ Box wx gy (.int .u8 k2) (.int .u64 n2) (.string t2) (.slice B2 l2 d2) ∧ wr.heap.size ≤ gx ∧ wr.heap.size ≤ gy ∧ Below wr.heap.size wr wx)
          case first =>
            go_region
            · go_wp2_with fail
              go_meet
              exact ⟨_, _, rfl, rfl, ((Box.new wr _ _ _ _).alloc _).drew, (Box.new2 wr _ _ _ _ _).drew, by omega, by omega, (two_boxes _ _ _).drew⟩
            · go_wp2_with fail
              go_meet
              exact ⟨_, _, rfl, rfl, (Box.new2 wr _ _ _ _ _).drew, ((Box.new wr _ _ _ _).alloc _).drew, by omega, by omega, (two_boxes _ _ _).drew⟩
          case rest =>
            obtain ⟨gx, gy, rfl, rfl, hbx, hby, hgx, hgy, hbc⟩ := hcut
            have hS2 := hS.call hbc
            have cw0 := (hbc.cell (p := ⟨G, m * 2, none⟩) hG2).trans ct0
            have cw1 := (hbc.cell (p := ⟨G, m * 2 + 1, none⟩) hG2).trans ct1
            have fw : ∀ j, wc.frozen? ⟨G, j, none⟩ = false := fun j => (hbc.frozen (p := ⟨G, j, none⟩) hG2).trans (fz j)
            have hsc := hbc.size
            have hgGx : gx ≠ G := by omega
            have hgGy : gy ≠ G := by omega
            obtain ⟨wz, hwz⟩ : ∃ wz, wz = (wc.setCell ⟨G, m * 2, none⟩ (.slice C1 (xl - 1) e1)).setCell ⟨G, m * 2 + 1, none⟩ (.slice C2 (xl - 1) e2) := ⟨_, rfl⟩
            obtain ⟨xt, hxt⟩ : ∃ xt, xk.drop 1 = xt := ⟨_, rfl⟩
            obtain ⟨yt, hyt⟩ : ∃ yt, yk.drop 1 = yt := ⟨_, rfl⟩
            have HXT := Lib.hid hxt
            have HYT := Lib.hid hyt
            clear hxt hyt
            have hS3 := hS2.next (x' := ⟨C1, xl - 1, e1, xt⟩) (y' := ⟨C2, xl - 1, e2, yt⟩) HL.out hG1
              (HXT.out ▸ hsx3 _ _ _ _ (hx.keep fun i hi => hbc.block i (Nat.lt_of_lt_of_le hi hsz))) (HYT.out ▸ hsy3 _ _ _ _ (hy.keep fun i hi => hbc.block i (Nat.lt_of_lt_of_le hi hsz))) rfl
              (k := itemsL ks1 + 1) (by have := drop_at HX1.out; rw [List.drop_zero, HXT.out] at this; rw [this]; simp only [itemsL, items]; omega)
            have hbx3 := (hbx.far (p := ⟨G, m * 2, none⟩) hgGx (.slice C1 (xl - 1) e1)).far (p := ⟨G, m * 2 + 1, none⟩) hgGx (.slice C2 (xl - 1) e2)
            have hby3 := (hby.far (p := ⟨G, m * 2, none⟩) hgGy (.slice C1 (xl - 1) e1)).far (p := ⟨G, m * 2 + 1, none⟩) hgGy (.slice C2 (xl - 1) e2)
            have hw3 : wz.heap.size = wc.heap.size := by rw [hwz]; simp
            simp only [SE.val] at hS3
            rw [← hwz] at hS3 hbx3 hby3
            obtain ⟨x30, x31, x32, x33, _⟩ := hbx3.all
            obtain ⟨y30, y31, y32, y33, _⟩ := hby3.all
            have HW3 := Lib.hid hw3
            clear hw3
            go_wp2_with fail
            go_region
            rw [← hwz]
            have HWZ := Lib.hid hwz
            clear hwz
            go_wp2_with fail
            refine (sameAlone_any k1 n1 t1 B1 l1 d1 k2 n2 t2 B2 l2 d2 wz.drew).mono ?_
            rintro e w5 ⟨rfl, hb5⟩
            have hS5 := (hS3.call (Below.refl _ _).drew).call hb5
            obtain ⟨_, _, _, x53, _⟩ := (hbx3.drew.call hb5).all
            obtain ⟨_, _, _, y53, _⟩ := (hby3.drew.call hb5).all
            have HQ5 : Hid (sameL ks ks' = ((aloneB k1 k2 n1 n2 t1 t2 l1 l2 && sameL ks1 ks2) && psame (rest ++ [(⟨C1, xl - 1, e1, xt⟩, ⟨C2, xl - 1, e2, yt⟩)]))) := Lib.hid (by
              have a1 := drop_at HX1.out
              have a2 := drop_at HX2.out
              rw [List.drop_zero, HXT.out] at a1
              rw [List.drop_zero, HYT.out] at a2
              rw [hS.hq, psame_snoc, psame_snoc, show sameL xk yk = (same (.mk k1 n1 t1 ks1) (.mk k2 n2 t2 ks2) && sameL xt yt) by conv => lhs; rw [a1, a2, sameL]]
              rw [same_alone, hK1.len, hK2.len]
              cases psame rest <;> cases aloneB k1 k2 n1 n2 t1 t2 ks1.length ks2.length <;> simp)
            have hgg : pweight rest + 2 * itemsL xk + 1 ≤ gk := by have := hS.hg; rwa [pweight_snoc] at this
            have hit : itemsL ks1 + 1 ≤ itemsL xk := by
              have a1 := drop_at HX1.out
              rw [List.drop_zero] at a1
              rw [a1]; simp only [itemsL, items]; omega
            have hbz : Below w.heap.size wr wz := by
              rw [HWZ.out]
              exact ((hbc.mono hsz).setCell (p := ⟨G, m * 2, none⟩) hG1 _).setCell (p := ⟨G, m * 2 + 1, none⟩) hG1 _
            have hb35 : Below w.heap.size wr w5 := hbz.drew.trans (hb5.mono (by have := hbz.size; simp; omega))
            have hK15 : Kids false w5 (fun i => i < w.heap.size) ks1 B1 l1 d1 := hK1.keep fun i hi => hb35.block i hi
            have hK25 : Kids false w5 (fun i => i < w.heap.size) ks2 B2 l2 d2 := hK2.keep fun i hi => hb35.block i hi
            clear x30 x31 x32 x33 y30 y31 y32 y33 hbx3 hby3 hbx hby
            cases hq : aloneB k1 k2 n1 n2 t1 t2 l1 l2 with
            | false =>
              rw [hq, Bool.false_and, Bool.false_and] at HQ5
              have hb := hS5.below
              clear hq hS5 hS3 hS2 hS hbz hb35 hK15 hK25 hbc hb5
              go_wp2
              go_ret
              exact ⟨by rw [HQ5.out, Bool.and_false]; rfl, hb⟩
            | true =>
              rw [hq, Bool.true_and] at HQ5
              obtain ⟨_, _, _, hll⟩ := aloneB_iff hq
              subst hll
              clear hq
              rcases Nat.eq_zero_or_pos l1 with h0l | hl1
              · subst h0l
                have e1k : ks1 = [] := List.eq_nil_of_length_eq_zero hK1.len.symm
                have e2k : ks2 = [] := List.eq_nil_of_length_eq_zero hK2.len.symm
                subst e1k
                subst e2k
                have hq5 := HQ5.out
                simp only [sameL, Bool.true_and] at hq5
                have HS := Lib.hid (show PS w w5 _ _ _ _ (sameL ks ks') _ from hq5 ▸ hS5)
                clear HQ5 hq5 hS5 hS3 hS2 hS hbz hb35 hK15 hK25 hbc hb5 own
                go_wp2
                go_roundg (gk - 2 * (itemsL [] + 1))
                case measure => omega
                case rel => exact ⟨_, _, _, _, rfl, HS.out⟩
              · have hl1I : decide ((0 : Int) < (l1 : Int)) = true := by simp; omega
                have HS := Lib.hid hS5
                have hown5 := hS5.own
                have hs5 := hS5.below.size
                have hm4 : m + 1 ≤ 4294967297 := by omega
                clear hS5 hS3 hS2 hS hbz hb35 hbc hb5 own
                obtain ⟨i0, hi, hz0, hz1, hz2⟩ := info_parts infoPair
                go_wp2_with (at_builtin; refine wpList_append_lies _ rfl _ _ 77 rfl w.heap.size 76 i0 _ 2 48 Tryd.underlying77 hi hz0 hz1 hz2 rfl (by omega) _ _ _ rfl (hown5.alloc _) ⟨w5.heap.size, 0, none⟩ 1 1 [.slice B1 l1 d1, .slice B2 l1 d2] rfl rfl (news2 w5 _ _ _) (fun u hu => (by simp at hu; rcases hu with rfl | rfl <;> rfl)) (by omega) (by unfold maxLen; omega) (by omega) (by simp; omega) _ rfl ?_; intro g9 cap9 w9 hown9 hgrow9 _ _)
                go_roundg (gk - 1)
                case measure => omega
                case rel =>
                  have h9 := HS.out.push ⟨B1, l1, d1, ks1⟩ ⟨B2, l1, d2, ks2⟩ hK15 hK25 rfl hown9 _ hgrow9 (gn := gk - 1) (by simp only; omega) (by omega)
                  rw [psame_snoc, Bool.and_comm, ← HQ5.out] at h9
                  exact ⟨_, _, _, _, rfl, h9⟩
end Go.Proofs.YtohmnbefokhjpaaDoor.Val
