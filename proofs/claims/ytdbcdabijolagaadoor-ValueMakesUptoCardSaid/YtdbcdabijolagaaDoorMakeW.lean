/-
  The walk of the statement ValueMakes: what is made of any kinds, numbers, texts and kids, in new memory. Conditions: the table utf.shapes lies as the program's text lays it; values of bulk at most 2^20.
-/
import Derived.Test.YtdbcdabijolagaaDoorElem
import Derived.Test.YtdbcdabijolagaaDoorLarge
import Derived.Test.YtdbcdabijolagaaDoorXdesc
import Derived.Test.YtdbcdabijolagaaDoorTurnp
import Derived.Deep.RegionHeld3
namespace Go.Proofs.YtdbcdabijolagaaDoor.valueMakes
open Go.RowKit Go.Proofs.YtdbcdabijolagaaDoor.Tn Go.Proofs.YtdbcdabijolagaaDoor.Utf Go.Proofs.YtdbcdabijolagaaDoor.Val V

theorem le30 {n : Nat} (h : n ≤ 1048576) : n ≤ 1073741824 := by omega
theorem le40 {n : Nat} (h : n ≤ 1048576) : n ≤ 1099511627776 := by omega
theorem box_keep {P : Nat → Prop} {w w' : World} {g : Nat} {x0 x1 x2 x3 : Value} (h : Box w g x0 x1 x2 x3) (hk : Keep P w w') (hg : ¬ P g) : Box w' g x0 x1 x2 x3 := (hk.2.2.2.2 g hg).trans h
theorem tab_call {w w' : World} (h : Tab w) (hb : Below w.heap.size w w') : Tab w' := h.call hb
theorem kd_two {w : World} {ks : List V} {A : Option Addr} {l c : Nat} (h : Kd w ks A l c) (hl : 1 < l) : ∃ x y r, ks = x :: y :: r ∧ Kd w [x, y] A 2 c := by
  match ks, h.len with
  | [], e => simp at e; omega
  | [_], e => simp at e; omega
  | x :: y :: r, e =>
    obtain ⟨b', o', e1, h1, h2, h3⟩ := h.2.2 (by omega)
    have hc := h.cap
    exact ⟨x, y, r, rfl, rfl, by omega, fun _ => ⟨b', o', e1, h1, h2, h3.1, h3.2.1, trivial⟩⟩
theorem held3b {w w' : World} {g1 g2 g3 : Nat} {x0 x1 x2 x3 y0 y1 y2 y3 z0 z1 z2 z3 : Value} (h1 : Box w g1 x0 x1 x2 x3) (h2 : Box w g2 y0 y1 y2 y3) (h3 : Box w g3 z0 z1 z2 z3) (hb : Below w.heap.size w w') :
    w'.cell? ⟨g1, 0, none⟩ = some (x0) ∧ w'.cell? ⟨g1, 1, none⟩ = some (x1) ∧ w'.cell? ⟨g1, 2, none⟩ = some (x2) ∧ w'.cell? ⟨g1, 3, none⟩ = some (x3) ∧ w'.cell? ⟨g2, 0, none⟩ = some (y0) ∧ w'.cell? ⟨g2, 1, none⟩ = some (y1) ∧ w'.cell? ⟨g2, 2, none⟩ = some (y2) ∧ w'.cell? ⟨g2, 3, none⟩ = some (y3) ∧ w'.cell? ⟨g3, 0, none⟩ = some (z0) ∧ w'.cell? ⟨g3, 1, none⟩ = some (z1) ∧ w'.cell? ⟨g3, 2, none⟩ = some (z2) ∧ w'.cell? ⟨g3, 3, none⟩ = some (z3) ∧ Below w.heap.size w w' := by
  obtain ⟨a0, a1, a2, a3, _⟩ := (h1.call hb).all
  obtain ⟨b0, b1, b2, b3, _⟩ := (h2.call hb).all
  obtain ⟨c0, c1, c2, c3, _⟩ := (h3.call hb).all
  exact ⟨a0, a1, a2, a3, b0, b1, b2, b3, c0, c1, c2, c3, hb⟩
theorem held1 {w w' : World} {g1 : Nat} {x0 x1 x2 x3 : Value} (h1 : Box w g1 x0 x1 x2 x3) (hb : Below w.heap.size w w') :
    w'.cell? ⟨g1, 0, none⟩ = some x0 ∧ w'.cell? ⟨g1, 1, none⟩ = some x1 ∧ w'.cell? ⟨g1, 2, none⟩ = some x2 ∧ w'.cell? ⟨g1, 3, none⟩ = some x3 ∧ Below w.heap.size w w' := by
  obtain ⟨a0, a1, a2, a3, _⟩ := (h1.call hb).all
  exact ⟨a0, a1, a2, a3, hb⟩
theorem text_int (k : Int) (t : ByteArray) (w : World) : Calls Tryd.prog 20 #[.int .u8 k, .string t] w fun e w' => e = .returned (.agg #[.int .u8 k, .int .u64 0, .string t, .slice none 0 0]) ∧ Below w.heap.size w w' := by
  go_enter Tryd.func20, Tryd.ntmps20
  go_wp2
  exact bodyPost_ret (v := .agg #[.int .u8 k, .int .u64 0, .string t, .slice none 0 0]) (by simp [results, Tryd.results20, go_sem]) rfl ⟨rfl, (Below.refl _ _).alloc (Nat.le_refl _) _⟩
theorem same_num (k n : Nat) (w : World) : Calls Tryd.prog 18 #[.agg #[.int .u8 k, .int .u64 n, .string ⟨#[]⟩, .slice none 0 0], .agg #[.int .u8 k, .int .u64 n, .string ⟨#[]⟩, .slice none 0 0]] w (GivesB true w) :=
  same_self (.mk k n ⟨#[]⟩ []) ▸ vsame_any k n ⟨#[]⟩ [] none 0 0 k n ⟨#[]⟩ [] none 0 0 w (by decide) (Kd.none_ _ _ _) (Kd.none_ _ _ _)
theorem same_text (k : Nat) (t : ByteArray) (w : World) : Calls Tryd.prog 18 #[.agg #[.int .u8 k, .int .u64 0, .string t, .slice none 0 0], .agg #[.int .u8 k, .int .u64 0, .string t, .slice none 0 0]] w (GivesB true w) :=
  same_self (.mk k 0 t []) ▸ vsame_any k 0 t [] none 0 0 k 0 t [] none 0 0 w (by decide) (Kd.none_ _ _ _) (Kd.none_ _ _ _)
theorem same_many {k : Nat} {ks : List V} {A A' : Option Addr} {l c l' c' : Nat} {w : World} (hk : k < 256) (hN : bulkL ks ≤ 1048576) (hK : Kd w ks A l c) (hK' : Kd w ks A' l' c') :
    Calls Tryd.prog 15 #[.agg #[.int .u8 k, .int .u64 0, .string ⟨#[]⟩, .slice A l c], .agg #[.int .u8 k, .int .u64 0, .string ⟨#[]⟩, .slice A' l' c']] w (GivesB true w) :=
  same_self (.mk k 0 ⟨#[]⟩ ks) ▸ xsame_any (bulkL ks) k 0 ⟨#[]⟩ ks A l c k 0 ⟨#[]⟩ ks A' l' c' w (Nat.le_refl _) (by omega) hk hk (by omega) (by omega) hK hK'
theorem same_desc {ks : List V} {A A' : Option Addr} {l c l' c' : Nat} {w : World} (hN : bulkL ks ≤ 1048576) (hK : Kd w ks A l c) (hK' : Kd w ks A' l' c') :
    Calls Tryd.prog 15 #[.agg #[.int .u8 25, .int .u64 0, .string ⟨#[]⟩, .slice A l c], .agg #[.int .u8 25, .int .u64 0, .string ⟨#[]⟩, .slice A' l' c']] w (GivesB true w) := same_many (k := 25) (by decide) hN hK hK'
section
variable {w w' : World} {b o kx nx ky ny : Nat} {tx ty : ByteArray} {ksx ksy : List V} {Ax Ay : Option Addr} {lx cx ly cy : Nat}
theorem held8 (h : El w b o kx nx tx ksx Ax lx cx) (h2 : El w b (o + 4) ky ny ty ksy Ay ly cy) (hb : Below w.heap.size w w') : w'.cell? ⟨b, o, none⟩ = some (.int .u8 kx) ∧ w'.cell? ⟨b, o + 1, none⟩ = some (.int .u64 nx) ∧ w'.cell? ⟨b, o + 2, none⟩ = some (.string tx) ∧ w'.cell? ⟨b, o + 3, none⟩ = some (.slice Ax lx cx) ∧ w'.cell? ⟨b, o + 4, none⟩ = some (.int .u8 ky) ∧ w'.cell? ⟨b, o + 5, none⟩ = some (.int .u64 ny) ∧ w'.cell? ⟨b, o + 6, none⟩ = some (.string ty) ∧ w'.cell? ⟨b, o + 7, none⟩ = some (.slice Ay ly cy) ∧ Below w.heap.size w w' := by
  obtain ⟨a0, a1, a2, a3⟩ := (h.call hb).cells
  exact ⟨a0, a1, a2, a3, h2.held hb⟩
theorem vdesc_q (fx : kx < 256 ∧ nx < 18446744073709551616) (fy : ky < 256 ∧ ny < 18446744073709551616) (hb : bulkL [.mk kx nx tx ksx, .mk ky ny ty ksy] ≤ 1048576) (hK : Kd w ksx Ax lx cx) (hK' : Kd w ksy Ay ly cy) :
    Calls Tryd.prog 24 #[.agg #[.int .u8 kx, .int .u64 nx, .string tx, .slice Ax lx cx], .agg #[.int .u8 ky, .int .u64 ny, .string ty, .slice Ay ly cy]] w (GivesQ 25 [.mk kx nx tx ksx, .mk ky ny ty ksy] w) :=
  vdesc_any kx nx tx ksx Ax lx cx ky ny ty ksy Ay ly cy w (le30 hb) fx.1 fx.2 fy.1 fy.2 hK hK'
theorem xdesc_q (fx : kx < 256 ∧ nx < 18446744073709551616) (fy : ky < 256 ∧ ny < 18446744073709551616) (hb : bulkL [.mk kx nx tx ksx, .mk ky ny ty ksy] ≤ 1048576) (hK : Kd w ksx Ax lx cx) (hK' : Kd w ksy Ay ly cy) :
    Calls Tryd.prog 25 #[.agg #[.int .u8 kx, .int .u64 nx, .string tx, .slice Ax lx cx], .agg #[.int .u8 ky, .int .u64 ny, .string ty, .slice Ay ly cy]] w (GivesQ 25 [.mk kx nx tx ksx, .mk ky ny ty ksy] w) :=
  xdesc_any kx nx tx ksx Ax lx cx ky ny ty ksy Ay ly cy w (by simp only [bulkL, bulk] at hb; omega) (by simp only [bulkL, bulk] at hb; omega) fx.1 fx.2 fy.1 fy.2 hK hK'
theorem box_newd (w : World) (x0 x1 x2 x3 : Value) : Box (w.alloc (.cells #[x0, x1, x2, x3] 25)).drew w.heap.size x0 x1 x2 x3 := Box.new w _ _ _ _
theorem box_call_lt {X w3 : World} {g : Nat} {x0 x1 x2 x3 : Value} (h : Box X g x0 x1 x2 x3) (_ : Below X.heap.size X w3) : g < X.heap.size := h.lt
end
theorem fal_new (w : World) : Calls Tryd.prog 23 #[.bool false] w fun e w' => e = .returned (.agg #[.int .u8 2, .int .u64 0, .string ⟨#[]⟩, .slice none 0 0]) ∧ Below w.heap.size w w' := bool_any false w
theorem same_fal (w : World) : Calls Tryd.prog 18 #[.agg #[.int .u8 2, .int .u64 0, .string ⟨#[]⟩, .slice none 0 0], .agg #[.int .u8 2, .int .u64 0, .string ⟨#[]⟩, .slice none 0 0]] w (GivesB true w) := same_num 2 0 w

set_option maxRecDepth 100000 in
set_option maxHeartbeats 4000000 in
theorem walk (k n : Nat) (s : ByteArray) (ks : List V) (A : Option Addr) (l c : Nat) (w : World) (ht : Tab w) (hk : k < 256) (hn : n < 18446744073709551616) (hs : s.size ≤ 1048576) (hN : bulkL ks ≤ 1048576) (hK : Kd w ks A l c) :
    Calls Tryd.prog 4 #[.int .u8 k, .int .u64 n, .string s, .slice A l c] w (GivesB true w) := by
  have HB := Lib.hid hN
  have HHk := Lib.hid hk
  have HHn := Lib.hid hn
  have hl9 : l ≤ 1048576 := by have := hK.len; have := length_bulk ks; omega
  obtain ⟨p, hp⟩ : ∃ p, decide (8192 < bigL ks) = p := ⟨_, rfl⟩
  have HL := large_any ks A l c w (by omega) hK
  rw [hp] at HL
  clear hp hn hN
  go_enter Tryd.func4, Tryd.ntmps4
  go_wp2_with fail
  refine HL.mono ?_
  rintro e w1 ⟨rfl, hb1⟩
  have hT1 := ht.call hb1
  clear HL
  cases p with
  | true =>
    go_wp2_with (go_at_call 11; (with_reducible refine (works_any _ hT1).mono ?_); rintro e w3 ⟨rfl, hb3⟩)
    go_ret
    exact ⟨rfl, below_next hb1 hb3⟩
  | false =>
    by_cases hs4 : 4096 < s.size
    · go_wp2_with (go_at_call 11; (with_reducible refine (works_any _ hT1).mono ?_); rintro e w3 ⟨rfl, hb3⟩)
      go_ret
      exact ⟨rfl, below_next hb1 hb3⟩
    · have hK1 := hK.call hb1
      go_wp2_with fail
      refine (xcopyAll_any (bulkL ks) ks A l c w1 (Nat.le_refl _) (le30 HB.out) hK1).mono ?_
      rintro e w2 ⟨A2, l2, c2, rfl, hN2, hb2⟩
      have hK2 := hN2.kd
      go_wp2_with fail
      refine (vmany_any k ks A2 l2 c2 w2 (le30 HB.out) hk hK2).mono ?_
      rintro e w3 ⟨A3, l3, c3, rfl, hN3, hb3⟩
      have hs1 := hb1.size
      have hs2 := hb2.size
      have hs3 := hb3.size
      have hz3 := (below_next (below_next hb1 hb2) hb3).alloc (below_next (below_next hb1 hb2) hb3).size (.cells #[.int .u8 k, .int .u64 0, .string ⟨#[]⟩, .slice A3 l3 c3] 25)
      have hab : Below w3.heap.size w3 (w3.alloc (.cells #[.int .u8 k, .int .u64 0, .string ⟨#[]⟩, .slice A3 l3 c3] 25)) := (Below.refl _ _).alloc (Nat.le_refl _) _
      have B10 := Box.new w3 (.int .u8 k) (.int .u64 0) (.string ⟨#[]⟩) (.slice A3 l3 c3)
      have hI2 : Go.Proofs.YtdbcdabijolagaaDoor.Val.Kids true (w3.alloc (.cells #[.int .u8 k, .int .u64 0, .string ⟨#[]⟩, .slice A3 l3 c3] 25)) (fun i => w1.heap.size ≤ i ∧ i < w2.heap.size) ks A2 l2 c2 := (hN2.keep fun i hi => hb3.block i hi.2).keep fun i hi => hab.block i (by omega)
      have hM3 : Go.Proofs.YtdbcdabijolagaaDoor.Val.Kids true (w3.alloc (.cells #[.int .u8 k, .int .u64 0, .string ⟨#[]⟩, .slice A3 l3 c3] 25)) (fun i => w2.heap.size ≤ i ∧ i < w3.heap.size) ks A3 l3 c3 := hN3.keep fun i hi => hab.block i hi.2
      have hL3 : Go.Proofs.YtdbcdabijolagaaDoor.Val.Kids false (w3.alloc (.cells #[.int .u8 k, .int .u64 0, .string ⟨#[]⟩, .slice A3 l3 c3] 25)) (fun i => i < w1.heap.size) ks A l c := ((hK1.keep fun i hi => hb2.block i hi).keep fun i hi => hb3.block i (by omega)).keep fun i hi => hab.block i (by omega)
      have b10l := B10.lt
      clear hN2 hN3 hb1 hb2 hb3 hab hK1 hK2 hT1
      go_wp2_with fail
      obtain ⟨g10, hg10⟩ : ∃ g, w3.heap.size = g := ⟨_, rfl⟩
      obtain ⟨W3, hW3⟩ : ∃ W, w3.alloc (.cells #[.int .u8 k, .int .u64 0, .string ⟨#[]⟩, .slice A3 l3 c3] 25) = W := ⟨_, rfl⟩
      rw [hW3] at b10l
      rw [hg10] at B10 hM3 hs3 b10l ⊢
      rw [hW3] at hz3 B10 hI2 hM3 hL3 ⊢
      clear hg10 hW3
      have hKM : Kd W3 ks A3 l3 c3 := hM3.weak.mono fun i hi => by omega
      have hKL : Kd W3 ks A l c := hL3.mono fun i hi => by omega
      have hH0 : Below W3.heap.size W3 W3.drew := (Below.refl _ _).drew
      have hc0 := hH0
      go_cut [52] (fun s wx => s = .bool false ∧ Below W3.heap.size W3 wx)
      case first =>
        go_region_held3 (fun wx => wx.cell? ⟨g10, 0, none⟩ = some (.int .u8 (k : Int)) ∧ wx.cell? ⟨g10, 1, none⟩ = some (.int .u64 0) ∧ wx.cell? ⟨g10, 2, none⟩ = some (.string ⟨#[]⟩) ∧ wx.cell? ⟨g10, 3, none⟩ = some (.slice A3 l3 c3) ∧ Below W3.heap.size W3 wx) (with_reducible first | assumption | exact held1 B10 hH0 | exact held1 B10 hc6 | exact held1 B10 hc5 | exact held1 B10 hc4 | exact held1 B10 hc3 | exact held1 B10 hc2 | exact held1 B10 hc1 | fail)
          (first
          | (go_at_call 19; (with_reducible refine (num_any _ _ _).mono ?_); rintro e w1 ⟨rfl, hb1⟩; have hc1 := below_next hc0 hb1)
          | (go_at_call 18; (with_reducible refine (same_num k n _).mono ?_); rintro e w2 ⟨rfl, hb2⟩; have hc2 := below_next hc1 hb2)
          | (go_at_call 20; (with_reducible refine (text_int _ _ _).mono ?_); rintro e w3 ⟨rfl, hb3⟩; have hc3 := below_next hc2 hb3)
          | (go_at_call 18; (with_reducible refine (same_text k s _).mono ?_); rintro e w4 ⟨rfl, hb4⟩; have hc4 := below_next hc3 hb4)
          | (go_at_call 21; (with_reducible refine (xmany_any k ks A l c _ (le30 HB.out) (hKL.call hc4)).mono ?_); rintro e w5 ⟨A5, l5, c5, rfl, hN5, hb5⟩; have hc5 := below_next hc4 hb5; have hK5 := hN5.kd)
          | (go_at_call 15; (with_reducible refine (same_many HHk.out HB.out (hKM.call hc5) hK5).mono ?_); rintro e w6 ⟨rfl, hb6⟩; have hc6 := below_next hc5 hb6)
          | fail)
        all_goals
          go_wp2_with fail
          go_meet
          exact ⟨rfl, hc6⟩
      case rest =>
        obtain ⟨rfl, hq⟩ := hcut
        have hqs := hq.size
        have hzc := below_next hz3 hq
        replace B10 := B10.call hq
        replace hI2 := hI2.keep fun i hi => hq.block i (by omega)
        replace hM3 := hM3.keep fun i hi => hq.block i (by omega)
        replace hL3 := hL3.keep fun i hi => hq.block i (by omega)
        have b10c := B10.lt
        clear hH0 hc0 hq hz3 hKM hKL
        go_wp2_with fail
        refine (nul_new _).mono ?_
        rintro e w4 ⟨rfl, hb4⟩
        go_wp2_with fail
        refine (tru_new _).mono ?_
        rintro e w5 ⟨rfl, hb5⟩
        have hq4 := below_next hb4 hb5
        have hq5 := hq4.alloc hq4.size (.cells #[.int .u8 1, .int .u64 0, .string ⟨#[]⟩, .slice none 0 0, .int .u8 2, .int .u64 1, .string ⟨#[]⟩, .slice none 0 0] 25)
        have hqs5 := hq5.size
        have hz5 := below_next hzc hq5
        have hK8 : Kd (w5.alloc (.cells #[.int .u8 1, .int .u64 0, .string ⟨#[]⟩, .slice none 0 0, .int .u8 2, .int .u64 1, .string ⟨#[]⟩, .slice none 0 0] 25)) [.mk 1 0 ⟨#[]⟩ [], .mk 2 1 ⟨#[]⟩ []] (some ⟨w5.heap.size, 0, none⟩) 2 2 := kids_two (k := 1) (n := 0) (k' := 2) (n' := 1) (by omega) (by omega) (by omega) (by omega) (Kd.none_ _ _ _) (Kd.none_ _ _ _)
        replace B10 := B10.call hq5
        replace hI2 := hI2.keep fun i hi => hq5.block i (by omega)
        replace hM3 := hM3.keep fun i hi => hq5.block i (by omega)
        replace hL3 := hL3.keep fun i hi => hq5.block i (by omega)
        have hKI : Kd (w5.alloc (.cells #[.int .u8 1, .int .u64 0, .string ⟨#[]⟩, .slice none 0 0, .int .u8 2, .int .u64 1, .string ⟨#[]⟩, .slice none 0 0] 25)) ks A2 l2 c2 := hI2.weak.mono fun i hi => by omega
        clear hb4 hb5 hq4 hzc
        go_upto_if 58 with (fail)
        go_cut [11] (fun s11 wx => ∃ b o c11 x y, s11 = .slice (some ⟨b, o, none⟩) 2 c11 ∧ Kd wx [x, y] (some ⟨b, o, none⟩) 2 c11 ∧ bulkL [x, y] ≤ 1048576 ∧ wx = w5.alloc (.cells #[.int .u8 1, .int .u64 0, .string ⟨#[]⟩, .slice none 0 0, .int .u8 2, .int .u64 1, .string ⟨#[]⟩, .slice none 0 0] 25))
        case first =>
          by_cases hl1 : 1 < l
          · have hl2 : l2 = l := hKI.len.trans hK.len.symm
            obtain ⟨x, y, r, hxy, hK2⟩ := kd_two hKI (by omega)
            obtain ⟨b, o, rfl, _⟩ := hK2.2.2 (by omega)
            have hcap := hK2.cap
            have hbl : bulkL [x, y] ≤ 1048576 := by have := HB.out; rw [hxy] at this; simp only [bulkL] at this ⊢; omega
            have HK2 := Lib.hid hK2
            have HBL := Lib.hid hbl
            have HXY := Lib.hid hxy
            have h2c : (2 : Int) ≤ (c2 : Int) := by omega
            clear hK2 hbl hxy hl2 hK8
            go_wp2_with fail
            go_meet
            exact ⟨b, o, c2, x, y, rfl, HK2.out, HBL.out, rfl⟩
          · go_wp2_with fail
            go_meet
            exact ⟨_, _, _, _, _, rfl, hK8, by decide, rfl⟩
        case rest =>
          obtain ⟨b, o, c11, x, y, rfl, hKT, hBT, rfl⟩ := hcut
          obtain ⟨W5, hW5⟩ : ∃ W, w5.alloc (.cells #[.int .u8 1, .int .u64 0, .string ⟨#[]⟩, .slice none 0 0, .int .u8 2, .int .u64 1, .string ⟨#[]⟩, .slice none 0 0] 25) = W := ⟨_, rfl⟩
          rw [hW5] at hq5 hqs5 hz5 B10 hI2 hM3 hL3 hKT ⊢
          clear hW5 hKI hK8 hq5
          obtain ⟨b0, o0, kx, nx, tx, ksx, Ax, lx, cx, he0, hx0, hkx, hnx, _, E0⟩ := hKT.el (i := 0) (by omega)
          obtain ⟨b1, o1, ky, ny, ty, ksy, Ay, ly, cy, he1, hx1, hky, hny, _, E1⟩ := hKT.el (i := 1) (by omega)
          simp only [Option.some.injEq, Addr.mk.injEq, and_true] at he0 he1
          obtain ⟨rfl, rfl⟩ := he0
          obtain ⟨rfl, rfl⟩ := he1
          simp only [List.getElem?_cons_zero, List.getElem?_cons_succ, Option.some.injEq] at hx0 hx1
          subst hx0 hx1
          rw [Nat.zero_mul, Nat.add_zero] at E0
          rw [Nat.one_mul] at E1
          have FX := Lib.hid (show kx < 256 ∧ nx < 18446744073709551616 from ⟨hkx, hnx⟩)
          have FY := Lib.hid (show ky < 256 ∧ ny < 18446744073709551616 from ⟨hky, hny⟩)
          have BT := Lib.hid hBT
          have hbl := E0.lt
          have ce := E0.cells
          obtain ⟨h0, h1, h2, h3⟩ := ce
          have cf := E1.cells
          obtain ⟨i0, i1, i2, i3⟩ := cf
          clear hkx hnx hky hny hBT hKT
          have hH0 : Below W5.heap.size W5 W5.drew := (Below.refl _ _).drew
          go_wp2_with fail
          go_cut [12] (fun s12 wx => ∃ g Ad ld cd, s12 = .pointer (some ⟨g, 0, none⟩) ∧ W5.heap.size ≤ g ∧ Box wx g (.int .u8 25) (.int .u64 0) (.string ⟨#[]⟩) (.slice Ad ld cd) ∧ Nw W5.heap.size wx [.mk kx nx tx ksx, .mk ky ny ty ksy] Ad ld cd ∧ Below W5.heap.size W5 wx)
          case first =>
            go_region_held3 (fun wx => wx.cell? ⟨b, o, none⟩ = some (.int .u8 (kx : Int)) ∧ wx.cell? ⟨b, o + 1, none⟩ = some (.int .u64 (nx : Int)) ∧ wx.cell? ⟨b, o + 2, none⟩ = some (.string tx) ∧ wx.cell? ⟨b, o + 3, none⟩ = some (.slice Ax lx cx) ∧ wx.cell? ⟨b, o + 4, none⟩ = some (.int .u8 (ky : Int)) ∧ wx.cell? ⟨b, o + 5, none⟩ = some (.int .u64 (ny : Int)) ∧ wx.cell? ⟨b, o + 6, none⟩ = some (.string ty) ∧ wx.cell? ⟨b, o + 7, none⟩ = some (.slice Ay ly cy) ∧ Below W5.heap.size W5 wx) (with_reducible first | assumption | exact held8 E0 E1 hH0 | exact held8 E0 E1 (Below.drew (Below.alloc (Below.refl _ _) (Nat.le_refl _) _)) | exact held8 E0 E1 (below_set4 hq3 hgz _ _ _ _) | exact held8 E0 E1 (Below.alloc hq3 hq3.size _) | exact held8 E0 E1 hq3 | fail)
              (first
              | (go_at_call 24; (with_reducible refine (vdesc_q FX.out FY.out BT.out (by first | exact E0.kd.call hH0 | exact E0.kd.call (Below.drew (Below.alloc (Below.refl _ _) (Nat.le_refl _) _))) (by first | exact E1.kd.call hH0 | exact E1.kd.call (Below.drew (Below.alloc (Below.refl _ _) (Nat.le_refl _) _)))).mono ?_); rintro e w3 ⟨A3', l3', c3', rfl, hN3', hb3⟩; have hq3 : Below W5.heap.size W5 w3 := (by with_reducible first | exact below_next hH0 hb3 | exact below_next (Below.drew (Below.alloc (Below.refl _ _) (Nat.le_refl _) _)) hb3 | fail); (first
                  | (have Z : Box w3 W5.heap.size (.int .u8 0) (.int .u64 0) (.string ⟨#[]⟩) (.slice none 0 0) := (by with_reducible exact (box_newd W5 _ _ _ _).call hb3); have hgN := (by with_reducible exact box_call_lt (box_newd W5 _ _ _ _) hb3); have hgz : W5.heap.size ≤ W5.heap.size := Nat.le_refl _; obtain ⟨z0, z1, z2, z3, zf⟩ := Z.all)
                  | have Z := True.intro); have hbs := hb3.size)
              | fail)
            all_goals
              go_wp2_with fail
              go_meet
              first | exact ⟨_, A3', l3', c3', rfl, Nat.le_refl _, Z.set4 _ _ _ _, (hN3'.far4 hgN _ _ _ _).less (by simp), below_set4 hq3 hgz _ _ _ _⟩ | exact ⟨_, A3', l3', c3', rfl, hq3.size, Box.new w3 _ _ _ _, (hN3'.call ((Below.refl _ _).alloc (Nat.le_refl _) _)).less (by simp), hq3.alloc hq3.size _⟩
          case rest =>
            obtain ⟨g12, Ad, ld, cd, rfl, hg12, B12, hN12, hq⟩ := hcut
            have hqs := hq.size
            rename World => W7
            have hz7 := below_next hz5 hq
            replace B10 := B10.call hq
            replace hI2 := hI2.keep fun i hi => hq.block i (by omega)
            replace hM3 := hM3.keep fun i hi => hq.block i (by omega)
            replace hL3 := hL3.keep fun i hi => hq.block i (by omega)
            replace E0 := E0.call hq
            replace E1 := E1.call hq
            have b12l := B12.lt
            have hbl := E0.lt
            have ce := E0.cells
            obtain ⟨h0, h1, h2, h3⟩ := ce
            have cf := E1.cells
            obtain ⟨i0, i1, i2, i3⟩ := cf
            clear hH0 hq hz5
            have hH0 : Below W7.heap.size W7 W7.drew := (Below.refl _ _).drew
            go_wp2_with fail
            go_cut [13] (fun s13 wx => ∃ g Ad ld cd, s13 = .pointer (some ⟨g, 0, none⟩) ∧ W7.heap.size ≤ g ∧ Box wx g (.int .u8 25) (.int .u64 0) (.string ⟨#[]⟩) (.slice Ad ld cd) ∧ Nw W7.heap.size wx [.mk kx nx tx ksx, .mk ky ny ty ksy] Ad ld cd ∧ Below W7.heap.size W7 wx)
            case first =>
              go_region_held3 (fun wx => wx.cell? ⟨b, o, none⟩ = some (.int .u8 (kx : Int)) ∧ wx.cell? ⟨b, o + 1, none⟩ = some (.int .u64 (nx : Int)) ∧ wx.cell? ⟨b, o + 2, none⟩ = some (.string tx) ∧ wx.cell? ⟨b, o + 3, none⟩ = some (.slice Ax lx cx) ∧ wx.cell? ⟨b, o + 4, none⟩ = some (.int .u8 (ky : Int)) ∧ wx.cell? ⟨b, o + 5, none⟩ = some (.int .u64 (ny : Int)) ∧ wx.cell? ⟨b, o + 6, none⟩ = some (.string ty) ∧ wx.cell? ⟨b, o + 7, none⟩ = some (.slice Ay ly cy) ∧ Below W7.heap.size W7 wx) (with_reducible first | assumption | exact held8 E0 E1 hH0 | exact held8 E0 E1 (Below.drew (Below.alloc (Below.refl _ _) (Nat.le_refl _) _)) | exact held8 E0 E1 (below_set4 hq3 hgz _ _ _ _) | exact held8 E0 E1 (Below.alloc hq3 hq3.size _) | exact held8 E0 E1 hq3 | fail)
                (first
                | (go_at_call 25; (with_reducible refine (xdesc_q FX.out FY.out BT.out (by first | exact E0.kd.call hH0 | exact E0.kd.call (Below.drew (Below.alloc (Below.refl _ _) (Nat.le_refl _) _))) (by first | exact E1.kd.call hH0 | exact E1.kd.call (Below.drew (Below.alloc (Below.refl _ _) (Nat.le_refl _) _)))).mono ?_); rintro e w3 ⟨A3', l3', c3', rfl, hN3', hb3⟩; have hq3 : Below W7.heap.size W7 w3 := (by with_reducible first | exact below_next hH0 hb3 | exact below_next (Below.drew (Below.alloc (Below.refl _ _) (Nat.le_refl _) _)) hb3 | fail); (first
                    | (have Z : Box w3 W7.heap.size (.int .u8 0) (.int .u64 0) (.string ⟨#[]⟩) (.slice none 0 0) := (by with_reducible exact (box_newd W7 _ _ _ _).call hb3); have hgN := (by with_reducible exact box_call_lt (box_newd W7 _ _ _ _) hb3); have hgz : W7.heap.size ≤ W7.heap.size := Nat.le_refl _; obtain ⟨z0, z1, z2, z3, zf⟩ := Z.all)
                    | have Z := True.intro); have hbs := hb3.size)
                | fail)
              all_goals
                go_wp2_with fail
                go_meet
                first | exact ⟨_, A3', l3', c3', rfl, Nat.le_refl _, Z.set4 _ _ _ _, (hN3'.far4 hgN _ _ _ _).less (by simp), below_set4 hq3 hgz _ _ _ _⟩ | exact ⟨_, A3', l3', c3', rfl, hq3.size, Box.new w3 _ _ _ _, (hN3'.call ((Below.refl _ _).alloc (Nat.le_refl _) _)).less (by simp), hq3.alloc hq3.size _⟩
            case rest =>
              obtain ⟨g13, Ae, le, ce, rfl, hg13, B13, hN13, hq⟩ := hcut
              have hqs2 := hq.size
              rename World => W8
              have hz8 := below_next hz7 hq
              replace B10 := B10.call hq
              replace B12 := B12.call hq
              replace hI2 := hI2.keep fun i hi => hq.block i (by omega)
              replace hM3 := hM3.keep fun i hi => hq.block i (by omega)
              replace hL3 := hL3.keep fun i hi => hq.block i (by omega)
              have hN12' := hN12.call hq
              have b13l := B13.lt
              have b12w := B12.lt
              have cg := B12.all
              obtain ⟨p0, p1, p2, p3, pf⟩ := cg
              have ch := B13.all
              obtain ⟨q0, q1, q2, q3, qf⟩ := ch
              clear hH0 hq hz7 h0 h1 h2 h3 i0 i1 i2 i3 hbl E0 E1 hN12
              go_wp2_with fail
              refine (same_desc BT.out hN12'.kd hN13.kd).mono ?_
              rintro e w9 ⟨rfl, hq⟩
              have hqs3 := hq.size
              have hz9 := below_next hz8 hq
              replace B10 := B10.call hq
              replace B12 := B12.call hq
              replace B13 := B13.call hq
              replace hI2 := hI2.keep fun i hi => hq.block i (by omega)
              replace hM3 := hM3.keep fun i hi => hq.block i (by omega)
              replace hL3 := hL3.keep fun i hi => hq.block i (by omega)
              have hN12'' := hN12'.call hq
              have hN13' := hN13.call hq
              have HSH := Lib.hid (shr_kids hI2 (le30 HB.out))
              clear p0 p1 p2 p3 pf q0 q1 q2 q3 qf hq hz8 hI2 hN12' hN13
              go_wp2_with fail
              refine (turn_any (fun i => w1.heap.size ≤ i ∧ i < w2.heap.size) (depthL ks) A2 l2 c2 _ HSH.out).mono ?_
              rintro e w10 ⟨⟨v7, rfl⟩, hy⟩
              have hkp := hy.1
              have hks := hkp.2.2.2.1
              have hz10 : Below w.heap.size w w10 := hz9.trans (hkp.below fun i hi => by omega)
              have hT10 := ht.call hz10
              have C10 := box_keep B10 hkp (by omega)
              have C12 := box_keep B12 hkp (by omega)
              have C13 := box_keep B13 hkp (by omega)
              have b10z := B10.lt
              have hKL : Kd w10 ks A l c := (hL3.keep fun i hi => hkp.2.2.2.2 i (by omega)).mono fun i hi => by omega
              have hKM : Kd w10 ks A3 l3 c3 := (hM3.keep fun i hi => hkp.2.2.2.2 i (by omega)).weak.mono fun i hi => by omega
              have hKd : Kd w10 [.mk kx nx tx ksx, .mk ky ny ty ksy] Ad ld cd := (hN12''.keep fun i hi => hkp.2.2.2.2 i (by omega)).weak.mono fun i hi => by omega
              have hKe : Kd w10 [.mk kx nx tx ksx, .mk ky ny ty ksy] Ae le ce := (hN13'.keep fun i hi => hkp.2.2.2.2 i (by omega)).weak.mono fun i hi => by omega
              clear hkp hy HSH B10 B12 B13 hM3 hL3 hN12'' hN13' hz9
              have hH0 : Below w10.heap.size w10 w10.drew := (Below.refl _ _).drew
              have hc0 := hH0
              go_wp2_with fail
              go_region_held3 (fun wx => wx.cell? ⟨g10, 0, none⟩ = some (.int .u8 (k : Int)) ∧ wx.cell? ⟨g10, 1, none⟩ = some (.int .u64 0) ∧ wx.cell? ⟨g10, 2, none⟩ = some (.string ⟨#[]⟩) ∧ wx.cell? ⟨g10, 3, none⟩ = some (.slice A3 l3 c3) ∧ wx.cell? ⟨g12, 0, none⟩ = some (.int .u8 25) ∧ wx.cell? ⟨g12, 1, none⟩ = some (.int .u64 0) ∧ wx.cell? ⟨g12, 2, none⟩ = some (.string ⟨#[]⟩) ∧ wx.cell? ⟨g12, 3, none⟩ = some (.slice Ad ld cd) ∧ wx.cell? ⟨g13, 0, none⟩ = some (.int .u8 25) ∧ wx.cell? ⟨g13, 1, none⟩ = some (.int .u64 0) ∧ wx.cell? ⟨g13, 2, none⟩ = some (.string ⟨#[]⟩) ∧ wx.cell? ⟨g13, 3, none⟩ = some (.slice Ae le ce) ∧ Below w10.heap.size w10 wx) (with_reducible first | assumption | exact held3b C10 C12 C13 hH0 | exact held3b C10 C12 C13 hc6 | exact held3b C10 C12 C13 hc5 | exact held3b C10 C12 C13 hc4 | exact held3b C10 C12 C13 hc3 | exact held3b C10 C12 C13 hc2 | exact held3b C10 C12 C13 hc1 | fail)
                (first
                | (go_at_call 21; (with_reducible refine (xmany_any k ks A l c _ (le30 HB.out) (hKL.call hc0)).mono ?_); rintro e u1 ⟨A5, l5, c5, rfl, hN5, hb1⟩; have hc1 := below_next hc0 hb1; have hK5 := hN5.kd)
                | (go_at_call 15; (with_reducible refine (same_many HHk.out HB.out (hKM.call hc1) hK5).mono ?_); rintro e u2 ⟨rfl, hb2⟩; have hc2 := below_next hc1 hb2)
                | (go_at_call 15; (with_reducible refine (same_desc BT.out (hKd.call hc2) (hKe.call hc2)).mono ?_); rintro e u3 ⟨rfl, hb3⟩; have hc3 := below_next hc2 hb3)
                | (go_at_call 23; (with_reducible refine (fal_new _).mono ?_); rintro e u4 ⟨rfl, hb4⟩; have hc4 := below_next hc3 hb4)
                | (go_at_call 18; (with_reducible refine (same_fal _).mono ?_); rintro e u5 ⟨rfl, hb5⟩; have hc5 := below_next hc4 hb5)
                | (go_at_call 11; (with_reducible refine (works_any _ (tab_call hT10 hc5)).mono ?_); rintro e u6 ⟨rfl, hb6⟩; have hc6 := below_next hc5 hb6)
                | fail)
              all_goals
                go_wp2
                go_ret
                exact ⟨rfl, below_next hz10 hc6⟩
end Go.Proofs.YtdbcdabijolagaaDoor.valueMakes
