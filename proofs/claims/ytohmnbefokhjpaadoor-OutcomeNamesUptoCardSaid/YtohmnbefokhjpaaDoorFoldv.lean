/-
  Contract of fold at values, as value.Copy calls it: a value in new memory. Memory that was there stays. Condition: a value of bulk at most 2^30.
-/
import Derived.Test.YtohmnbefokhjpaaDoorFoldx
import Derived.Test.YtohmnbefokhjpaaDoorFoldm
namespace Go.Proofs.YtohmnbefokhjpaaDoor.Val
set_option maxRecDepth 100000
open Go.RowKit Go.Proofs.YtohmnbefokhjpaaDoor.Utf V

theorem news5 (w : World) (x y z u v : Value) (e : TypeId) (H : Nat) (hH : w.heap.size = H) : ∀ j a, [x, y, z, u, v][j]? = some a → (w.alloc (.cells #[x, y, z, u, v] e)).cell? ((⟨H, 0, none⟩ : Addr).add j) = some a := by
  subst hH
  intro j a hv
  have hj : j < 5 := (List.getElem?_eq_some_iff.1 hv).1
  obtain rfl | rfl | rfl | rfl | rfl : j = 0 ∨ j = 1 ∨ j = 2 ∨ j = 3 ∨ j = 4 := by omega
  all_goals rw [← hv]; simp [Addr.add]

theorem VS.start {T : Nat} {W0 w1 : World} {A A1 : Option Addr} {l c k n c1 : Nat} {t : ByteArray} {ks : List V} (hb : Below W0.heap.size W0 w1) (hown : w1.ownsRow W0.heap.size 27 4 (.slice A1 0 c1) 0 []) (hK : Kids false W0 (fun i => i < W0.heap.size) ks A l c) (hk : k < 256) (hn : n < 18446744073709551616)
    (hT : itemsL ks ≤ T) (hT2 : itemsL ks ≤ 1073741824) : VS T W0 (w1.alloc (.cells #[.slice A l c, .int .u8 k, .int .u64 n, .string t, .slice A1 0 c1] 58)) w1.heap.size 1 1 [] ⟨⟨A, l, c, ks⟩, k, n, t, ⟨A1, 0, c1, []⟩⟩ (.mk k n t ks) (2 * itemsL ks + 1) := by
  have hs := hb.size
  have hlt := hown.lt
  refine ⟨rfl, ?_, ⟨fun r hr => ?_, List.pairwise_singleton _ _⟩, fun p hp => ?_, fun p hp => (by cases hp), (by simp [goV]), (by simp [vweight]), hb.alloc hs _, by omega⟩
  · have := World.ownsRow_lit (e := 58) (size := 5) (base := W0.heap.size) w1 #[.slice A l c, .int .u8 k, .int .u64 n, .string t, .slice A1 0 c1] 1 hs (by unfold maxLen; omega) rfl
    simpa [vflat, SE.val] using this
  · simp at hr
    subst hr
    exact ⟨[], hown.alloc _, rfl, fun e => by have := (hlt _ e).2; omega⟩
  · simp at hp
    subst hp
    exact ⟨hK.keep fun i hi => (hb.alloc hs _).block i hi, hk, hn, by simpa using hT⟩

theorem grown_drew {w w' : World} {r : Option Nat} (h : w.drew.grownBy w' r) : w.grownBy w' r := ⟨h.os, h.tape, h.output, h.size, h.block⟩

theorem own_less {w : World} {base base' : Nat} {e : TypeId} {size n : Nat} {v : Value} {xs : List Value} (h : w.ownsRow base e size v n xs) (hb : base' ≤ base) : w.ownsRow base' e size v n xs := by
  refine ⟨h.1, ?_⟩
  rcases h.2 with hn | ⟨g, cap, cur, hv, hg, hrest⟩
  · exact .inl hn
  · exact .inr ⟨g, cap, cur, hv, Nat.le_trans hb hg, hrest⟩
/-- What has become of memory behind a kid's beginning and the append of it to the stack. -/
theorem push_lands {B : Nat} {wr wy w1 w9 : World} {G m c1 g9 c9 : Nat} {o o' : Obj} {A1 : Option Addr} (hB : B ≤ wr.heap.size) (hG : G < wr.heap.size) (hGB : B ≤ G) (hsw : wr.heap.size = wy.heap.size) (hby : Below B wr wy) (hky : ∀ i, i ≠ G → wy.heap[i]? = wr.heap[i]?)
    (hb1 : Below (wy.alloc o).drew.heap.size (wy.alloc o).drew w1) (hown1 : w1.ownsRow (wy.alloc o).drew.heap.size 27 4 (.slice A1 0 c9) 0 [])
    (hg : (w1.alloc o').grownBy w9 (Value.slice (some ⟨G, 0, none⟩) m c1).ownBlock) (hat : (Value.slice (some ⟨G, 0, none⟩) m c1).ownBlock = some g9 ∨ w1.heap.size ≤ g9) :
    Below B wr w9 ∧ (∀ i, B ≤ i → i < wr.heap.size → i ≠ G → w9.heap[i]? = wr.heap[i]?) ∧ (g9 = G ∨ wr.heap.size ≤ g9) ∧ w9.ownsRow B 27 4 (.slice A1 0 c9) 0 [] ∧ (∀ b, (Value.slice A1 0 c9).ownBlock = some b → wr.heap.size ≤ b) ∧ (Value.slice A1 0 c9).ownBlock ≠ some g9 := by
  have hX : (wy.alloc o).drew.heap.size = wy.heap.size + 1 := by simp
  rw [hX] at hb1 hown1
  have hs1 := hb1.size
  rw [hX] at hs1
  have hlt := hown1.lt
  have hold : ∀ i, i < wr.heap.size → i ≠ G → w9.heap[i]? = wr.heap[i]? := fun i hi hne => by
    rw [hg.block i (by simp; omega) (fun e => hne (by simpa [Value.ownBlock] using e)), Below.heap_alloc _ _ _ (by omega), hb1.block i (by omega)]
    exact (Below.heap_alloc wy o i (by omega)).trans (hky i hne)
  have h9 := hg.size
  simp at h9
  have hob : (Value.slice (some ⟨G, 0, none⟩) m c1).ownBlock = some G := rfl
  refine ⟨⟨?_, ?_, ?_, by omega, fun i hi => hold i (by omega) (by omega)⟩, fun i _ hi hne => hold i hi hne, ?_, own_less ((hown1.alloc _).kept hg ?_) (by omega), fun b hb => ?_, fun e => ?_⟩
  · exact hg.os.trans (hb1.os.trans hby.os)
  · exact hg.tape.trans (hb1.tape.trans hby.tape)
  · exact hg.output.trans (hb1.output.trans hby.output)
  · rcases hat with h | h
    · left; rw [hob] at h; injection h with h; exact h.symm
    · right; omega
  · cases hq : (Value.slice A1 0 c9).ownBlock with
    | none => exact .inl rfl
    | some b =>
      refine .inr ?_
      rw [hob]
      intro e
      have := (hlt b hq).1
      injection e with e
      omega
  · have := (hlt b hb).1
    omega
  · have h1 := hlt g9 e
    rcases hat with h | h
    · rw [hob] at h; injection h with h; omega
    · omega

def Q0 (k n : Nat) (t : ByteArray) (ks : List V) : V := .mk k n t ks

set_option maxRecDepth 100000 in
set_option maxHeartbeats 2000000 in
theorem foldV_any (k n : Nat) (t : ByteArray) (ks : List V) (A : Option Addr) (l c : Nat) (w : World) (hN : bulkL ks ≤ 1073741824) (hk : k < 256) (hn : n < 18446744073709551616) (hK : Kd w ks A l c) :
    Calls Tryd.prog 15 #[.agg #[.int .u8 k, .int .u64 n, .string t, .slice A l c], .func (.func 14) #[] #[], .func (.func 16) #[] #[]] w (GivesN k n t ks w) := by
  have hil := itemsL_le ks
  have hlb := length_bulk ks
  have hl1 : l ≤ ks.length := Nat.le_of_eq hK.len
  obtain ⟨W0, hW0⟩ : ∃ W0, W0 = (w.alloc (.cells #[.int .u8 k, .int .u64 n, .string t, .slice A l c] 27)).alloc (.cells #[.int .u8 0, .int .u64 0, .string ⟨#[]⟩, .slice none 0 0] 27) := ⟨_, rfl⟩
  have hb0 : Box W0 w.heap.size (.int .u8 k) (.int .u64 n) (.string t) (.slice A l c) := by rw [hW0]; exact (Box.new w _ _ _ _).alloc _
  have hb1 : Box W0 (w.heap.size + 1) (.int .u8 0) (.int .u64 0) (.string ⟨#[]⟩) (.slice none 0 0) := by rw [hW0]; exact Box.new2 w _ _ _ _ _
  have hB0 : Below w.heap.size w W0 := by rw [hW0]; exact two_boxes w _ _
  have hS0 : W0.heap.size = w.heap.size + 2 := by rw [hW0]; simp
  have hS0a : w.heap.size + 2 ≤ W0.heap.size := Nat.le_of_eq hS0.symm
  have HS0 := Lib.hid hS0
  clear hS0
  obtain ⟨x0, x1, x2, x3, _⟩ := hb0.all
  have hKW : Kids false W0 (fun i => i < W0.heap.size) ks A l c := (hK.call hB0)
  go_enter Tryd.func15, Tryd.ntmps15
  go_upto_region 1 with fail
  rw [← hW0]
  have HW0 := Lib.hid hW0
  clear hW0
  go_cut [7] (fun s7 wx => ∃ G A1 c1, s7 = .slice (some ⟨G, 0, none⟩) 1 1 ∧ VS (itemsL ks) W0 wx G 1 1 [] ⟨⟨A, l, c, ks⟩, k, n, t, ⟨A1, 0, c1, []⟩⟩ (Q0 k n t ks) (2 * itemsL ks + 1))
  case first =>
    go_region_with ((go_at_call 14; refine (copyA_any k n t A l c _ (by omega)).mono ?_; rintro e w1 ⟨A1, c1, rfl, hown1, hb1w⟩; have y3 := box_kept (wr := W0.drew) x3 hb1w (by simp; omega)))
    all_goals
      have hv : VS (itemsL ks) W0 (w1.alloc (.cells #[.slice A l c, .int .u8 k, .int .u64 n, .string t, .slice A1 0 c1] 58)) w1.heap.size 1 1 [] ⟨⟨A, l, c, ks⟩, k, n, t, ⟨A1, 0, c1, []⟩⟩ (Q0 k n t ks) (2 * itemsL ks + 1) :=
        VS.start ((Below.refl _ _).drew.trans hb1w) hown1 hKW hk hn (Nat.le_refl _) (by omega)
      go_wp2_with fail
      go_meet
      exact ⟨_, A1, c1, rfl, by first | exact hv | exact hv.drew⟩
  case rest =>
    obtain ⟨G0, A0, c0, rfl, hI0⟩ := hcut
    clear x0 x1 x2 x3 hb0
    go_wp2
    go_loopg [7] (2 * itemsL ks + 1) (fun g s wr => ∃ G1 n1 c1 rest z, s = .slice (some ⟨G1, 0, none⟩) n1 c1 ∧ VS (itemsL ks) W0 wr G1 n1 c1 rest z (Q0 k n t ks) g)
    case atStart => exact ⟨_, _, _, _, _, rfl, hI0⟩
    case round =>
      obtain ⟨G, n1, c1, rest, z, rfl, hS⟩ := hrel
      clear hI0
      obtain ⟨m, rfl⟩ : ∃ m, n1 = m + 1 := ⟨n1 - 1, by have := hS.len; omega⟩
      have hlen : rest.length = m := by have := hS.len; omega
      obtain ⟨hG1, hG2⟩ := hS.own.lt G (by simp [Value.ownBlock])
      have hsm := hS.small
      have hgk : 1 ≤ gk := by omega
      have own := hS.own
      have hfl : (vflat rest).length = m * 5 := by rw [vflat_len, hlen]
      rw [vflat_append, vflat_one] at own
      have ct0 : wr.cell? ⟨G, m * 5, none⟩ = some z.x.val := by rw [own.cellAt (m * 5) (by omega), List.getElem?_append_right (by omega), hfl]; simp
      have ct1 : wr.cell? ⟨G, m * 5 + 1, none⟩ = some (.int .u8 (z.k : Int)) := by rw [own.cellAt (m * 5 + 1) (by omega), List.getElem?_append_right (by omega), hfl, show m * 5 + 1 - m * 5 = 1 by omega]; rfl
      have ct2 : wr.cell? ⟨G, m * 5 + 1 + 1, none⟩ = some (.int .u64 (z.n : Int)) := by rw [own.cellAt (m * 5 + 1 + 1) (by omega), List.getElem?_append_right (by omega), hfl, show m * 5 + 1 + 1 - m * 5 = 2 by omega]; rfl
      have ct3 : wr.cell? ⟨G, m * 5 + 1 + 2, none⟩ = some (.string z.t) := by rw [own.cellAt (m * 5 + 1 + 2) (by omega), List.getElem?_append_right (by omega), hfl, show m * 5 + 1 + 2 - m * 5 = 3 by omega]; rfl
      have ct4 : wr.cell? ⟨G, m * 5 + 1 + 3, none⟩ = some (.slice z.r.A z.r.m z.r.c) := by rw [own.cellAt (m * 5 + 1 + 3) (by omega), List.getElem?_append_right (by omega), hfl, show m * 5 + 1 + 3 - m * 5 = 4 by omega]; rfl
      have fz : ∀ j, wr.frozen? ⟨G, j, none⟩ = false := own.frozenAt
      have hcap := own_cap own
      obtain ⟨hx, hzk, hzn, hzm⟩ := hS.ok z (by simp)
      obtain ⟨⟨xA, xl, xc, xk⟩, zk, zn, zt, ⟨zA, zm, zc, zd⟩⟩ := z
      simp only [SE.val] at ct0 ct1 ct2 ct3 ct4 hx hzk hzn hzm own
      have HL := Lib.hid hlen
      have HF := Lib.hid hfl
      clear hlen hfl
      rcases Nat.eq_zero_or_pos xl with rfl | hxl
      · rcases Nat.eq_zero_or_pos m with rfl | hm
        · have hr : rest = [] := List.eq_nil_of_length_eq_zero HL.out
          subst hr
          have hxk : xk = [] := List.eq_nil_of_length_eq_zero hx.len.symm
          subst hxk
          have hq := hS.hq
          simp only [goV, List.foldr_nil, List.append_nil, Q0, V.mk.injEq] at hq
          obtain ⟨xs, hro, hrc, hrg⟩ := hS.rows.row ⟨zA, zm, zc, zd⟩ (by simp)
          have hCS : CS W0.heap.size wr zA zm zc zd xs := ⟨hro, hrc.mono fun i hi => ⟨hi.1, hi.2.1, hi.2.2.2 ⟨zA, zm, zc, zd⟩ (by simp)⟩⟩
          have HN := Lib.hid hCS.nw
          have hb := hS.below
          have hbB := hB0.trans (hb.mono (by omega))
          obtain ⟨y0, y1, y2, y3, yf⟩ := (hb1.below hb (by omega)).all
          have HQ := Lib.hid hq
          have HB := Lib.hid hbB
          clear hq hS own hro hrc hCS hb hbB
          simp only [Nat.zero_mul, Nat.zero_add] at ct0 ct1 ct2 ct3 ct4
          go_wp2
          refine bodyPost_ret (v := .agg #[.int .u8 zk, .int .u64 zn, .string zt, .slice zA zm zc]) (by simp [results, Tryd.results15, go_sem, y0, y1, y2, y3]) rfl ?_
          obtain ⟨rfl, rfl, rfl, rfl⟩ := HQ.out
          exact ⟨zA, zm, zc, rfl, (HN.out.far4 (g := w.heap.size + 1) (by omega) _ _ _ _).less (by omega), below_set4 HB.out (by omega) _ _ _ _⟩
        · obtain ⟨m', rfl⟩ : ∃ m', m = m' + 1 := ⟨m - 1, by omega⟩
          obtain ⟨rest0, a, rfl⟩ : ∃ rest0 a, rest = rest0 ++ [a] := by
            have hne : rest ≠ [] := fun e => by have := HL.out; rw [e] at this; simp at this
            exact ⟨rest.dropLast, rest.getLast hne, by have := List.dropLast_concat_getLast hne; exact this.symm⟩
          have hl0 : rest0.length = m' := by have := HL.out; simp at this; omega
          have hfl0 : (vflat rest0).length = m' * 5 := by rw [vflat_len, hl0]
          have hac := hS.cnt a (by simp)
          obtain ⟨xs, hro, hrc, hrg⟩ := hS.rows.row a.r (by simp)
          obtain ⟨ax, ak, an, at_, ⟨aA, am, ac, ad⟩⟩ := a
          have hat : ∀ j, wr.cell? ⟨G, m' * 5 + j, none⟩ = (vflat rest0 ++ [ax.val, .int .u8 (ak : Int), .int .u64 (an : Int), .string at_, .slice aA am ac] ++ [.slice xA 0 xc, .int .u8 (zk : Int), .int .u64 (zn : Int), .string zt, .slice zA zm zc])[m' * 5 + j]? ∨ 10 ≤ j := fun j => by
            rcases Nat.lt_or_ge j 10 with hj | hj
            · left; rw [own.cellAt (m' * 5 + j) (by omega), vflat_append, vflat_one]
            · exact .inr hj
          have hidx : ∀ j, j < 5 → wr.cell? ⟨G, m' * 5 + j, none⟩ = [ax.val, .int .u8 (ak : Int), .int .u64 (an : Int), .string at_, .slice aA am ac][j]? := fun j hj => by
            rcases hat j with h | h
            · rw [h, List.append_assoc, List.getElem?_append_right (by omega), hfl0, show m' * 5 + j - m' * 5 = j by omega, List.getElem?_append_left (by simpa using hj)]
            · omega
          have ca1 : wr.cell? ⟨G, m' * 5 + 1, none⟩ = some (.int .u8 (ak : Int)) := hidx 1 (by omega)
          have ca2 : wr.cell? ⟨G, m' * 5 + 1 + 1, none⟩ = some (.int .u64 (an : Int)) := hidx 2 (by omega)
          have ca3 : wr.cell? ⟨G, m' * 5 + 1 + 2, none⟩ = some (.string at_) := hidx 3 (by omega)
          have ca4 : wr.cell? ⟨G, m' * 5 + 1 + 3, none⟩ = some (.slice aA am ac) := hidx 4 (by omega)
          obtain ⟨hq1, hq2⟩ := cut_top Tryd.underlying59 (show Tryd.prog.elem 59 = 58 by kernel_rfl) (show (Tryd.prog.info? 58).map (·.size) = some 5 by kernel_rfl) (some ⟨G, 0, none⟩) (m' + 1 + 1) c1 (m' + 1) (by omega) hcap
          have hs1' := fun W => hq1 W ((m' : Int) + 1) (by simp)
          have hs2' := fun W => hq2 W ((m' : Int) + 1) (by simp)
          have hwz := hS.below.size
          have ham : am ≤ 1073741824 := by simp only at hac; omega
          have HRG := Lib.hid hrg
          have HS := Lib.hid hS
          have HRC := Lib.hid hrc
          have HL0 := Lib.hid hl0
          have HRO := Lib.hid hro
          clear hq1 hq2 hl0 hfl0 hS own hat hidx hrc hrg hro
          go_wp2_with fail
          go_region_with ((go_at_call 16; refine (copyP_any ak an at_ aA am ac W0.heap.size xs zk zn zt zA zm zc wr.drew ham (by exact hwz) (by exact HRO.out)).mono ?_; rintro e w5 ⟨g9, cap9, rfl, hown9, hg9, hat9⟩; have hcG : ∀ j, w5.cell? ⟨G, j, none⟩ = wr.cell? ⟨G, j, none⟩ := (fun j => hg9.cell_far ⟨G, j, none⟩ hG2 (fun e => HRG.out e.symm)); have hfG : ∀ j, w5.frozen? ⟨G, j, none⟩ = false := (fun j => (hg9.frozen_far ⟨G, j, none⟩ hG2 (fun e => HRG.out e.symm)).trans (fz j))))
          all_goals
            go_wp2
            go_roundg (gk - 1)
            case measure => omega
            case rel => exact ⟨_, _, _, _, _, rfl, HS.out.pop HL0.out rfl HRC.out hown9 (grown_drew hg9) hat9⟩
      · obtain ⟨b, o, k1, n1, t1, ks1, B1, l1, d1, rfl, hb1x, hx1, h0, h1, h2, h3, hk1, hn1, hK1⟩ := Kids.at_ hx hxl
        simp only [Nat.zero_mul, Nat.add_zero] at h0 h1 h2 h3
        have hsz := hS.below.size
        have hbw : b < wr.heap.size := Nat.lt_of_lt_of_le hb1x hsz
        have hxI : (0 : Int) < (xl : Int) := by omega
        have HX1 := Lib.hid hx1
        have hks : itemsL ks1 + 1 ≤ itemsL xk := by
          have := drop_at hx1
          rw [List.drop_zero] at this
          rw [this]; simp only [itemsL, items]; omega
        have hl1b : l1 ≤ 1073741824 := by have := hK1.len; have := length_le ks1; omega
        obtain ⟨C1, e1, he1, hsx1, hsx2, hsx3⟩ := cut_vals (some ⟨b, o, none⟩) xl xc 1 (by omega) hx.cap
        have sx1 := fun W => hsx1 W 1 rfl
        have sx2 := fun W => hsx2 W 1 rfl
        clear hsx1 hsx2 hx1 hN ct1 ct2 ct3 ct4
        obtain ⟨xt, hxt⟩ : ∃ xt, xk.drop 1 = xt := ⟨_, rfl⟩
        have HXT := Lib.hid hxt
        clear hxt
        obtain ⟨wy, hwy⟩ : ∃ wy, wy = wr.setCell ⟨G, m * 5, none⟩ (.slice C1 (xl - 1) e1) := ⟨_, rfl⟩
        have hby : Below W0.heap.size wr wy := by rw [hwy]; exact (Below.refl _ _).setCell (p := ⟨G, m * 5, none⟩) hG1 _
        have hky : ∀ i, i ≠ G → wy.heap[i]? = wr.heap[i]? := fun i hi => by rw [hwy]; exact Below.heap_setCell _ _ _ _ hi
        have hown5 : wy.ownsRow W0.heap.size 58 5 (.slice (some ⟨G, 0, none⟩) (m + 1) c1) (m + 1) (vflat rest ++ [.slice C1 (xl - 1) e1, .int .u8 (zk : Int), .int .u64 (zn : Int), .string zt, .slice zA zm zc]) := by
          have := (hS.own.stored (m * 5) (.slice C1 (xl - 1) e1)).1
          rw [vset0 rest _ m HL.out] at this
          rw [hwy]
          exact this
        have hsw : wr.heap.size = wy.heap.size := by rw [hwy]; simp
        have hszy : W0.heap.size ≤ wy.heap.size := by omega
        have hGy : G < wy.heap.size := by omega
        have hm4 : m + 1 ≤ 4294967296 := by omega
        obtain ⟨i0, hi, hz0, hz1, hz2⟩ := info_parts infoStepV
        have HKY := Lib.hid hky
        have hkb := Box.new wy (.int .u8 k1) (.int .u64 n1) (.string t1) (.slice B1 l1 d1)
        obtain ⟨q0, q1, q2, q3, _⟩ := hkb.all
        have hby2 := hby.alloc hszy (.cells #[.int .u8 k1, .int .u64 n1, .string t1, .slice B1 l1 d1] 27)
        have hown6 := hown5.alloc (.cells #[.int .u8 k1, .int .u64 n1, .string t1, .slice B1 l1 d1] 27)
        have HSW := Lib.hid hsw
        clear hky own hkb hsw
        go_upto_region 7 with fail
        rw [← hwy, HSW.out]
        have HWY := Lib.hid hwy
        clear hwy
        go_cut [7] (fun s7 wx => ∃ g9 cap9 A9 c9, s7 = .slice (some ⟨g9, 0, none⟩) (m + 1 + 1) cap9 ∧ wx.ownsRow W0.heap.size 58 5 (.slice (some ⟨g9, 0, none⟩) (m + 1 + 1) cap9) (m + 1 + 1) (vflat rest ++ [.slice C1 (xl - 1) e1, .int .u8 (zk : Int), .int .u64 (zn : Int), .string zt, .slice zA zm zc] ++ [.slice B1 l1 d1, .int .u8 (k1 : Int), .int .u64 (n1 : Int), .string t1, .slice A9 0 c9]) ∧ Below W0.heap.size wr wx ∧ (∀ i, W0.heap.size ≤ i → i < wr.heap.size → i ≠ G → wx.heap[i]? = wr.heap[i]?) ∧ (g9 = G ∨ wr.heap.size ≤ g9) ∧ wx.ownsRow W0.heap.size 27 4 (.slice A9 0 c9) 0 [] ∧ (∀ b, (Value.slice A9 0 c9).ownBlock = some b → wr.heap.size ≤ b) ∧ (Value.slice A9 0 c9).ownBlock ≠ some g9)
        case first =>
          go_region_law (first
            | (refine step_append_lies _ rfl _ _ 59 rfl W0.heap.size 58 i0 _ 5 80 Tryd.underlying59 hi hz0 hz1 hz2 rfl (by omega) _ _ _ rfl (by exact (hown7.alloc _)) ⟨w1.heap.size, 0, none⟩ 1 1 [.slice B1 l1 d1, .int .u8 k1, .int .u64 n1, .string t1, .slice A1 0 c9] rfl rfl (by exact news5 _ _ _ _ _ _ _ _ (by simp)) (fun u hu => (by simp at hu; rcases hu with rfl | rfl | rfl | rfl | rfl <;> rfl)) (by omega) (by unfold maxLen; omega) (by omega) (by simp; omega) _ rfl ?_; intro g9 cap9 w9 hown9 hgrow9 hat9 _)
            | (go_simp; go_at_call 14; refine (copyA_any k1 n1 t1 B1 l1 d1 (wy.alloc (.cells #[.int .u8 k1, .int .u64 n1, .string t1, .slice B1 l1 d1] 27)).drew hl1b).mono ?_; rintro e w1 ⟨A1, c9, rfl, hown1, hb1w⟩; have y3 := box_kept (wr := (wy.alloc (.cells #[.int .u8 k1, .int .u64 n1, .string t1, .slice B1 l1 d1] 27)).drew) q3 hb1w (by simp); have hown7 := ((show (wy.alloc (.cells #[.int .u8 k1, .int .u64 n1, .string t1, .slice B1 l1 d1] 27)).drew.ownsRow W0.heap.size 58 5 (.slice (some ⟨G, 0, none⟩) (m + 1) c1) (m + 1) (vflat rest ++ [.slice C1 (xl - 1) e1, .int .u8 (zk : Int), .int .u64 (zn : Int), .string zt, .slice zA zm zc]) from hown6)).kept (grown_of_below hb1w) (.inr (by simp [Value.ownBlock])); have hs1w := hb1w.size; simp at hs1w))
          all_goals
            have hat8 : (Value.slice (some ⟨G, 0, none⟩) (m + 1) c1).ownBlock = some g9 ∨ w1.heap.size ≤ g9 := by
              rcases hat9 with h | h
              · exact .inl h
              · right; simp at h; omega
            have hl := push_lands hsz hG2 hG1 HSW.out hby HKY.out hb1w hown1 (by first | exact hgrow9 | exact grown_drew hgrow9) hat8
            go_wp2_with fail
            go_meet
            exact ⟨g9, cap9, A1, c9, rfl, hown9, hl⟩
        case rest =>
          obtain ⟨g9, cap9, A9, c9, rfl, hown9, hb9, hk9, hG9, hrow9, hnew9, hne9⟩ := hcut
          have hpush := hS.push (x2 := ⟨C1, xl - 1, e1, xt⟩) (y := ⟨B1, l1, d1, ks1⟩) hk1 hn1 ((HXT.out ▸ hsx3 _ _ _ _ hx : Kids false wr (fun i => i < W0.heap.size) xt C1 (xl - 1) e1).keep fun i hi => hb9.block i hi) (hK1.keep fun i hi => hb9.block i hi) (by have := drop_at HX1.out; rw [List.drop_zero, HXT.out] at this; exact this) hown9 hb9 hk9 hG9 hrow9 hnew9 hne9
          clear hS hown5 hown6 hown9 hb9 hby hby2 hk9 hrow9 hnew9 hne9 hG9
          go_wp2
          go_roundg (gk - 1)
          case measure => omega
          case rel => exact ⟨_, _, _, _, _, rfl, hpush⟩
end Go.Proofs.YtohmnbefokhjpaaDoor.Val
