/-
  The walk of the statement EncodeDescs. Conditions: the table utf.shapes lies as the program's text lays it; values of bulk at most 2^20.
-/
import Derived.Test.YtophlpkbpjhhjaaDoorBeg
import Derived.Deep.CutRange
import Derived.Deep.RegionLaw
namespace Go.Proofs.YtophlpkbpjhhjaaDoor.encodeDescs
set_option maxRecDepth 100000
open Go.RowKit Go.Proofs.YtophlpkbpjhhjaaDoor.Utf Go.Proofs.YtophlpkbpjhhjaaDoor.Val Go.Proofs.YtophlpkbpjhhjaaDoor.Enc V

theorem kids_1 {w : World} {k n : Nat} {t : ByteArray} {ks : List V} {A : Option Addr} {l c : Nat} (hk : k < 256) (hn : n < 18446744073709551616) (hK : Kd w ks A l c) : Kd (w.alloc (.cells #[.int .u8 k, .int .u64 n, .string t, .slice A l c] 25)) [.mk k n t ks] (some ⟨w.heap.size, 0, none⟩) 1 1 :=
  ⟨rfl, Nat.le_refl _, fun _ => ⟨w.heap.size, 0, rfl, by simp, fun h => (by cases h), repV_iff.2 ⟨A, l, c, by simp, by simp, by simp, by simp, hk, hn, hK.alloc _⟩, trivial⟩⟩

/-- The row of what is to be called. -/
def Nam (w : World) (g name : Nat) (sym : ByteArray) : Prop := w.heap[g]? = some (.cells #[.int .u8 6, .int .u64 (name : Int), .string ⟨#[]⟩, .slice none 0 0, .int .u8 21, .int .u64 0, .string sym, .slice none 0 0] 25 (0, 0))
theorem Nam.call {w w' : World} {g name : Nat} {sym : ByteArray} (h : Nam w g name sym) (hb : Below w.heap.size w w') : Nam w' g name sym := (hb.block g (Array.getElem?_eq_some_iff.1 h).1).trans h
theorem Nam.new (w : World) (name : Nat) (sym : ByteArray) : Nam (w.alloc (.cells #[.int .u8 6, .int .u64 (name : Int), .string ⟨#[]⟩, .slice none 0 0, .int .u8 21, .int .u64 0, .string sym, .slice none 0 0] 25)) w.heap.size name sym := heap_alloc_new w _
/-- What is called at index j. -/
def kx (j : Nat) : Nat := if j = 0 then 6 else 21
def nx (j name : Nat) : Nat := if j = 0 then name else 0
def tx (j : Nat) (sym : ByteArray) : ByteArray := if j = 0 then ⟨#[]⟩ else sym
theorem Nam.at_ {w : World} {g name : Nat} {sym : ByteArray} (h : Nam w g name sym) {j : Nat} (hj : j < 2) : w.cell? ⟨g, j * 4, none⟩ = some (.int .u8 (kx j : Int)) ∧ w.cell? ⟨g, j * 4 + 1, none⟩ = some (.int .u64 (nx j name : Int)) ∧ w.cell? ⟨g, j * 4 + 2, none⟩ = some (.string (tx j sym)) ∧ w.cell? ⟨g, j * 4 + 3, none⟩ = some (.slice none 0 0) := by
  have : j = 0 ∨ j = 1 := by omega
  rcases this with rfl | rfl
  · exact ⟨cell_of_row w g 0 _ _ _ h, cell_of_row w g 1 _ _ _ h, cell_of_row w g 2 _ _ _ h, cell_of_row w g 3 _ _ _ h⟩
  · exact ⟨cell_of_row w g 4 _ _ _ h, cell_of_row w g 5 _ _ _ h, cell_of_row w g 6 _ _ _ h, cell_of_row w g 7 _ _ _ h⟩
theorem kx_lt (j : Nat) : kx j < 256 := by unfold kx; split <;> omega
theorem nx_lt {j name : Nat} (h : name < 18446744073709551616) : nx j name < 18446744073709551616 := by unfold nx; split <;> omega
theorem tx_lt {j : Nat} {sym : ByteArray} (h : sym.size ≤ 1024) : (tx j sym).size ≤ 1024 := by
  unfold tx
  split
  · exact Nat.zero_le _
  · exact h
theorem ok_parts {x y : V} (h : okB (.mk 25 0 ⟨#[]⟩ [x, y]) = true) : okB x = true ∧ okB y = true := by
  have hm := ok_may h
  obtain ⟨x', y', e, _, hx, hy⟩ := may_desc hm
  injection e with e1 e2
  injection e2 with e2 _
  subst e1 e2
  have h1 : items (V.mk 25 0 ⟨#[]⟩ [x, y]) ≤ 1024 ∧ depth (V.mk 25 0 ⟨#[]⟩ [x, y]) ≤ 16 := by
    simp only [okB, Bool.and_eq_true, decide_eq_true_eq] at h
    exact h.1
  simp only [items, itemsL, depth, depthL] at h1
  have h2 : ∀ v : V, items v ≤ 1024 → depth v ≤ 16 → mayB v = true → okB v = true := fun v a b c => by simp only [okB, c, decide_eq_true a, decide_eq_true b]; rfl
  exact ⟨h2 x (by omega) (by omega) hx, h2 y (by omega) (by omega) hy⟩
theorem num6 (n : Nat) (w : World) : Calls Tryd.prog 20 #[.int .u8 6, .int .u64 (n : Int)] w (fun e w' => e = .returned (.agg #[.int .u8 6, .int .u64 (n : Int), .string ⟨#[]⟩, .slice none 0 0]) ∧ Below w.heap.size w w') := number_any 6 n w
theorem tex21 (t : ByteArray) (w : World) : Calls Tryd.prog 21 #[.int .u8 21, .string t] w (fun e w' => e = .returned (.agg #[.int .u8 21, .int .u64 0, .string t, .slice none 0 0]) ∧ Below w.heap.size w w') := text_any' 21 t w
theorem vr25 (ks : List V) (A : Option Addr) (l c : Nat) (w : World) (hN : bulkL ks ≤ 1073741824) (hK : Kd w ks A l c) (ht : Tab w) : Calls Tryd.prog 17 #[.agg #[.int .u8 25, .int .u64 0, .string ⟨#[]⟩, .slice A l c]] w (Val.GivesB (okB (.mk 25 0 ⟨#[]⟩ ks)) w) := vright_any 25 0 ⟨#[]⟩ ks A l c w hN (by decide) (by omega) hK ht
theorem en25 (ks : List V) (A : Option Addr) (l c : Nat) (w : World) (hok : okB (.mk 25 0 ⟨#[]⟩ ks) = true) (hb : bulk (.mk 25 0 ⟨#[]⟩ ks) ≤ 4194304) (hK : Kd w ks A l c) (ht : Tab w) : Calls Tryd.prog 12 #[.agg #[.int .u8 25, .int .u64 0, .string ⟨#[]⟩, .slice A l c]] w (Enc.GivesV (.mk 25 0 ⟨#[]⟩ ks) w) := encv_yes 25 0 ⟨#[]⟩ ks A l c w hok hb (by omega) (by omega) hK ht
theorem en25n (ks : List V) (A : Option Addr) (l c : Nat) (w : World) (hok : okB (.mk 25 0 ⟨#[]⟩ ks) = false) (hb : bulk (.mk 25 0 ⟨#[]⟩ ks) ≤ 4194304) (hK : Kd w ks A l c) (ht : Tab w) : Calls Tryd.prog 12 #[.agg #[.int .u8 25, .int .u64 0, .string ⟨#[]⟩, .slice A l c]] w (GivesNone w) := encv_no 25 0 ⟨#[]⟩ ks A l c w hok hb (by omega) hK ht
theorem rd_0 (w : World) : Rd .u8 256 (w.alloc (.cells #[.int .u8 0] 5)) (w.heap.size + 1) (some ⟨w.heap.size, 0, none⟩) 1 [0] := rd_lit8 w [0] 1 rfl (by decide)

set_option maxHeartbeats 2000000 in
theorem walk (k n : Nat) (t : ByteArray) (ks : List V) (A : Option Addr) (l c name : Nat) (sym : ByteArray) (w : World) (ht : Tab w) (hN : bulk (.mk k n t ks) ≤ 1048576) (hk : k < 256) (hn : n < 18446744073709551616) (hK : Kd w ks A l c) (hnm : name < 18446744073709551616) (_ : sym.size ≤ 1048576) :
    Calls Tryd.prog 8 #[.agg #[.int .u8 k, .int .u64 n, .string t, .slice A l c], .int .u64 name, .string sym] w (Val.GivesB true w) := by
  have hB := (Below.refl w.heap.size w).alloc (Nat.le_refl _) (.cells #[.int .u8 k, .int .u64 n, .string t, .slice A l c] 25)
  have B1 := Box.new w (.int .u8 k) (.int .u64 n) (.string t) (.slice A l c)
  have hKL := kids_1 (t := t) hk hn (hK.call hB)
  obtain ⟨p, hp⟩ : ∃ p, decide (8192 < bigL [V.mk k n t ks]) = p := ⟨_, rfl⟩
  have HL := large_any _ _ 1 1 _ (by simp only [bulkL]; omega) hKL
  rw [hp] at HL
  simp only [World.size_alloc] at HL
  have S0 : St1 w _ w.heap.size k n t ks A l c := (St1.mk B1 (hK.call hB) (ht.call hB) hB).call ((Below.refl _ _).alloc (Nat.le_refl _) (.cells #[.int .u8 k, .int .u64 n, .string t, .slice A l c] 25))
  have HL := Lib.hid HL
  have HS := Lib.hid S0
  have hnl : (V.mk k n t ks).bulk ≤ 4194304 := by omega
  have HN := Lib.hid hN
  clear S0 hp hKL B1 hB hK ht hN
  obtain ⟨d, hd⟩ : ∃ d, decide ((1024 : Int) < (sym.size : Int)) = d := ⟨_, rfl⟩
  go_enter Tryd.func8, Tryd.ntmps8
  go_wp2_with fail
  refine HL.out.mono ?_
  rintro e w1 ⟨rfl, hq1⟩
  have S1 := HS.out.call hq1
  clear HL HS hq1
  obtain ⟨a0, a1, a2, a3, _⟩ := S1.box.all
  have H1 := Lib.hid S1
  clear S1
  cases p with
  | true =>
    clear hd
    go_wp2_with (go_at_call 10; (with_reducible refine (works_any _ H1.out.tab).mono ?_); rintro e w3 ⟨rfl, hb3⟩)
    go_ret
    exact ⟨rfl, below_next H1.out.low hb3⟩
  | false =>
  cases d with
  | true =>
    go_wp2_with (go_at_call 10; (with_reducible refine (works_any _ H1.out.tab).mono ?_); rintro e w3 ⟨rfl, hb3⟩)
    go_ret
    exact ⟨rfl, below_next H1.out.low hb3⟩
  | false =>
    have hsz : sym.size ≤ 1024 := by have := of_decide_eq_false hd; omega
    go_wp2_with (first
      | (go_at_call 20; (with_reducible refine (num6 name w1).mono ?_); rintro e w2 ⟨rfl, hb2⟩; have H2 := Lib.hid (H1.out.call hb2))
      | (go_at_call 21; (with_reducible refine (tex21 sym w2).mono ?_); rintro e w3 ⟨rfl, hb3⟩; have H3 := Lib.hid (H2.out.call hb3); have HM := Lib.hid (Nam.new w3 name sym); have H4 := Lib.hid (H3.out.alloc (.cells #[.int .u8 6, .int .u64 (name : Int), .string ⟨#[]⟩, .slice none 0 0, .int .u8 21, .int .u64 0, .string sym, .slice none 0 0] 25))))
    clear hd
    obtain ⟨gN, hgN⟩ : ∃ g, w3.heap.size = g := ⟨_, rfl⟩
    rw [hgN] at HM ⊢
    clear hgN a0 a1 a2 a3
    go_loopw [8] (fun i wr => ∃ j : Nat, j ≤ 2 ∧ i = .int .i64 (j : Nat) ∧ St1 w wr w.heap.size k n t ks A l c ∧ Nam wr gN name sym) (fun i _ => 2 - (intOf i).toNat)
    case atStart => exact ⟨0, by omega, rfl, H4.out, HM.out⟩
    case round =>
      obtain ⟨j, hj, rfl, hS, hNam⟩ := hrel
      clear H4 HM H3 H2 H1 hb2 hb3
      by_cases hlt : j < 2
      · obtain ⟨n0, n1, n2, n3⟩ := hNam.at_ hlt
        have hkx : kx j < 256 ∧ nx j name < 18446744073709551616 ∧ (tx j sym).size ≤ 1024 := ⟨kx_lt j, nx_lt hnm, tx_lt hsz⟩
        have hat : ∀ wx : World, Below wr.heap.size wr wx → wx.cell? ⟨gN, j * 4, none⟩ = some (.int .u8 (kx j : Int)) ∧ wx.cell? ⟨gN, j * 4 + 1, none⟩ = some (.int .u64 (nx j name : Int)) ∧ wx.cell? ⟨gN, j * 4 + 2, none⟩ = some (.string (tx j sym)) ∧ wx.cell? ⟨gN, j * 4 + 3, none⟩ = some (.slice none 0 0) := fun wx hb => (hNam.call hb).at_ hlt
        generalize kx j = KX at n0 hkx hat
        generalize nx j name = NX at n1 hkx hat
        generalize tx j sym = TX at n2 hkx hat
        have HAT := Lib.hid hat
        clear hat
        obtain ⟨hk1, hk2, hk3⟩ := hkx
        obtain ⟨b0, b1, b2, b3, _⟩ := hS.box.all
        have hbd : bulkL [V.mk KX NX TX [], .mk k n t ks] ≤ 2097152 := by have := HN.out; simp only [bulkL, bulk] at this ⊢; omega
        have hcall : ∀ wx : World, Below wr.heap.size wr wx → Calls Tryd.prog 22 #[.agg #[.int .u8 (KX : Int), .int .u64 (NX : Int), .string TX, .slice none 0 0], .agg #[.int .u8 (k : Int), .int .u64 (n : Int), .string t, .slice A l c]] wx (GivesN 25 0 ⟨#[]⟩ [.mk KX NX TX [], .mk k n t ks] wx) := fun wx hb =>
          vdesc_any KX NX TX [] none 0 0 k n t ks A l c wx (by omega) hk1 hk2 hk hn (Kd.none_ _ _ _) (hS.kd.call hb)
        have HSR := Lib.hid hS
        have HNR := Lib.hid hNam
        have HBD := Lib.hid hbd
        obtain ⟨v0, v1, v2, v3, _⟩ := (hS.box.alloc (.cells #[.int .u8 0, .int .u64 0, .string ⟨#[]⟩, .slice none 0 0] 25)).all
        obtain ⟨m0, m1, m2, m3⟩ : (wr.alloc (.cells #[.int .u8 0, .int .u64 0, .string ⟨#[]⟩, .slice none 0 0] 25)).cell? ⟨gN, j * 4, none⟩ = some (.int .u8 (KX : Int)) ∧ (wr.alloc (.cells #[.int .u8 0, .int .u64 0, .string ⟨#[]⟩, .slice none 0 0] 25)).cell? ⟨gN, j * 4 + 1, none⟩ = some (.int .u64 (NX : Int)) ∧ (wr.alloc (.cells #[.int .u8 0, .int .u64 0, .string ⟨#[]⟩, .slice none 0 0] 25)).cell? ⟨gN, j * 4 + 2, none⟩ = some (.string TX) ∧ (wr.alloc (.cells #[.int .u8 0, .int .u64 0, .string ⟨#[]⟩, .slice none 0 0] 25)).cell? ⟨gN, j * 4 + 3, none⟩ = some (.slice none 0 0) := by
          have hb := (Below.refl wr.heap.size wr).alloc (Nat.le_refl _) (.cells #[.int .u8 0, .int .u64 0, .string ⟨#[]⟩, .slice none 0 0] 25)
          have hg : gN < wr.heap.size := (Array.getElem?_eq_some_iff.1 hNam).1
          exact ⟨(hb.cell (p := ⟨gN, j * 4, none⟩) hg).trans n0, (hb.cell (p := ⟨gN, j * 4 + 1, none⟩) hg).trans n1, (hb.cell (p := ⟨gN, j * 4 + 2, none⟩) hg).trans n2, (hb.cell (p := ⟨gN, j * 4 + 3, none⟩) hg).trans n3⟩
        clear hS hNam hbd
        go_upto_region 7 with fail
        go_cut [9] from 31 to 86 (fun s wx => ∃ g A9 l9 c9, s = .pointer (some ⟨g, 0, none⟩) ∧ Box wx g (.int .u8 25) (.int .u64 0) (.string ⟨#[]⟩) (.slice A9 l9 c9) ∧ Kd wx [.mk KX NX TX [], .mk k n t ks] A9 l9 c9 ∧ Below wr.heap.size wr wx)
        case first =>
          go_region_law (first
            | (go_simp; go_at_call 22; (with_reducible refine (hcall _ ((Below.refl wr.heap.size wr).drew)).mono ?_); rintro e w5 ⟨A9, l9, c9, rfl, hN9, hb5⟩; have hB5 := below_next ((Below.refl wr.heap.size wr).drew) hb5)
            | (go_simp; go_at_call 22; (with_reducible refine (hcall _ (((Below.refl wr.heap.size wr).alloc (Nat.le_refl _) (.cells #[.int .u8 0, .int .u64 0, .string ⟨#[]⟩, .slice none 0 0] 25)).drew)).mono ?_); rintro e w5 ⟨A9, l9, c9, rfl, hN9, hb5⟩; have hB5 := below_next (((Below.refl wr.heap.size wr).alloc (Nat.le_refl _) (.cells #[.int .u8 0, .int .u64 0, .string ⟨#[]⟩, .slice none 0 0] 25)).drew) hb5; have Z9 : Box w5 wr.heap.size (.int .u8 0) (.int .u64 0) (.string ⟨#[]⟩) (.slice none 0 0) := (show Box (wr.alloc (.cells #[.int .u8 0, .int .u64 0, .string ⟨#[]⟩, .slice none 0 0] 25)).drew wr.heap.size _ _ _ _ from Box.new wr _ _ _ _).call hb5; have hgN : wr.heap.size < ((wr.alloc (.cells #[.int .u8 0, .int .u64 0, .string ⟨#[]⟩, .slice none 0 0] 25)).drew).heap.size := Nat.lt_of_lt_of_eq (Nat.lt_succ_self _) (World.size_alloc _ _).symm; obtain ⟨y0, y1, y2, y3, yf⟩ := Z9.all)
            | (go_simp; go_at_call 22; (with_reducible refine (hcall _ (((Below.refl wr.heap.size wr).drew).alloc (Nat.le_refl _) (.cells #[.int .u8 0, .int .u64 0, .string ⟨#[]⟩, .slice none 0 0] 25))).mono ?_); rintro e w5 ⟨A9, l9, c9, rfl, hN9, hb5⟩; have hB5 := below_next (((Below.refl wr.heap.size wr).drew).alloc (Nat.le_refl _) (.cells #[.int .u8 0, .int .u64 0, .string ⟨#[]⟩, .slice none 0 0] 25)) hb5; have Z9 : Box w5 wr.heap.size (.int .u8 0) (.int .u64 0) (.string ⟨#[]⟩) (.slice none 0 0) := (show Box (wr.drew.alloc (.cells #[.int .u8 0, .int .u64 0, .string ⟨#[]⟩, .slice none 0 0] 25)) wr.heap.size _ _ _ _ from Box.new wr.drew _ _ _ _).call hb5; have hgN : wr.heap.size < (wr.drew.alloc (.cells #[.int .u8 0, .int .u64 0, .string ⟨#[]⟩, .slice none 0 0] 25)).heap.size := Nat.lt_of_lt_of_eq (Nat.lt_succ_self _) (World.size_alloc _ _).symm; obtain ⟨y0, y1, y2, y3, yf⟩ := Z9.all))
          all_goals
            go_wp2_with fail
            go_meet
            with_reducible first
              | exact ⟨_, A9, l9, c9, rfl, Z9.set4 _ _ _ _, (hN9.far4 hgN _ _ _ _).kd, below_set4 hB5 (Nat.le_refl _) _ _ _ _⟩
              | exact ⟨_, A9, l9, c9, rfl, Box.new w5 _ _ _ _, hN9.kd.alloc _, hB5.alloc hB5.size _⟩
              | fail
        case rest =>
          obtain ⟨g, A9, l9, c9, rfl, hX, hKd, hBl⟩ := hcut
          rename World => W4
          have HS4 := Lib.hid (HSR.out.call hBl)
          have HN4 := Lib.hid (HNR.out.call hBl)
          have HX4 := Lib.hid hX
          have HK4 := Lib.hid hKd
          have HB4 := Lib.hid hBl
          obtain ⟨x0, x1, x2, x3, _⟩ := hX.all
          have hbk : bulk (V.mk 25 0 ⟨#[]⟩ [V.mk KX NX TX [], .mk k n t ks]) ≤ 4194304 := by have := HBD.out; simp only [bulk, ByteArray.size] at this ⊢; simp; omega
          have hbl : bulkL [V.mk KX NX TX [], .mk k n t ks] ≤ 1073741824 := by have := HBD.out; omega
          have hbx : bulk (V.mk KX NX TX []) ≤ 4194304 := by simp only [bulk, bulkL]; omega
          have HBK := Lib.hid hbk
          have HBL := Lib.hid hbl
          have HBX := Lib.hid hbx
          clear n0 n1 n2 n3 b0 b1 b2 b3 v0 v1 v2 v3 m0 m1 m2 m3 hX hKd hBl hbk hbl hbx hcall
          cases hok : okB (V.mk 25 0 ⟨#[]⟩ [V.mk KX NX TX [], .mk k n t ks]) with
          | false =>
            have HOK := Lib.hid hok
            clear hok
            go_wp2_with (first
              | (go_at_call 12; (with_reducible refine (en25n _ A9 l9 c9 W4 HOK.out HBK.out HK4.out HS4.out.tab).mono ?_); rintro e w5 ⟨rfl, hb5⟩; have HS5 := Lib.hid (HS4.out.call hb5); have HK5 := Lib.hid (HK4.out.call hb5); obtain ⟨y0, y1, y2, y3, _⟩ := (HX4.out.call hb5).all)
              | (go_at_call 17; (with_reducible refine (vr25 _ A9 l9 c9 w5 HBL.out HK5.out HS5.out.tab).mono ?_); rw [HOK.out]; rintro e w6 ⟨rfl, hb6⟩))
            go_roundw
            case rel => exact ⟨j + 1, by omega, by go_num, HS5.out.call hb6, (HN4.out.call hb5).call hb6⟩
            case measure => simp [intOf]; omega
          | true =>
            obtain ⟨hox, hov⟩ := ok_parts hok
            have HOK := Lib.hid hok
            have HOX := Lib.hid hox
            have HOV := Lib.hid hov
            have HLD : Hid (lay (plan (V.mk 25 0 ⟨#[]⟩ [V.mk KX NX TX [], .mk k n t ks])) = [0] ++ lay (plan (V.mk KX NX TX [])) ++ lay (plan (V.mk k n t ks))) := Lib.hid (by rw [lay_desc _ _ _ _ (ok_may hov)]; simp)
            clear hok hox hov
            go_wp2_with (first
              | (go_at_call 12; (with_reducible refine (en25 _ A9 l9 c9 W4 HOK.out HBK.out HK4.out HS4.out.tab).mono ?_); rintro e w5 ⟨Ad, md, cd, rfl, hod, hb5⟩; rw [HLD.out] at hod; have HOD := Lib.hid hod; clear hod; have HS5 := Lib.hid (HS4.out.call hb5); have HK5 := Lib.hid (HK4.out.call hb5); obtain ⟨y0, y1, y2, y3, _⟩ := (HX4.out.call hb5).all)
              | (go_at_call 17; (with_reducible refine (vr25 _ A9 l9 c9 w5 HBL.out HK5.out HS5.out.tab).mono ?_); rw [HOK.out]; rintro e w6 ⟨rfl, hb6⟩; have HS6 := Lib.hid (HS5.out.call hb6); have HB6 := Lib.hid (below_next (below_next HB4.out hb5) hb6); obtain ⟨n0, n1, n2, n3⟩ := HAT.out w6 HB6.out)
              | (go_at_call 12; (with_reducible refine (encv_yes KX NX TX [] none 0 0 w6 HOX.out HBX.out hk1 hk2 (Kd.none_ _ _ _) HS6.out.tab).mono ?_); rintro e w7 ⟨Ax, mx, cx, rfl, hox, hb7⟩; have hmx : mx ≤ 1073741824 := (by have h1 := hox.len; have h2 := lay_bulk _ (ok_may HOX.out); have h3 := HBX.out; omega); have HOXX := Lib.hid hox; clear hox; have HS7 := Lib.hid (HS6.out.call hb7); obtain ⟨b0, b1, b2, b3, _⟩ := HS7.out.box.all)
              | (go_at_call 12; (with_reducible refine (encv_yes k n t ks A l c w7 HOV.out hnl hk hn HS7.out.kd HS7.out.tab).mono ?_); rintro e w8 ⟨Av, mv, cv, rfl, hov, hb8⟩; have hmv : mv ≤ 1073741824 := (by have h1 := hov.len; have h2 := lay_bulk _ (ok_may HOV.out); omega); have HOVV := Lib.hid hov; clear hov; have HS8 := Lib.hid (HS7.out.call hb8))
              | (at_builtin; refine wpList_app8 (l := [0]) (L := []) (base := w8.heap.size) rfl _ _ rfl rfl (Own.nil _ _ _ _ _) rfl (rd_0 w8) (by omega) (by simp) ?_; intro A2 c2 w9 ho9 hg9; have hb9 : Below w8.heap.size w8 w9 := ((Below.refl w8.heap.size w8).alloc (Nat.le_refl _) _).trans (below_grown (Own.nil .u8 256 5 _ w8.heap.size) hg9 (by simp)); simp only [Nat.zero_add, List.nil_append] at ho9; have HO9 := Lib.hid ho9; clear ho9 hg9)
              | (at_builtin; refine wpList_app8 (l := lay (plan (V.mk KX NX TX []))) (L := [0]) (base := w8.heap.size) rfl _ _ rfl rfl HO9.out rfl (((HOXX.out.below hb8).rd).call hb9) (by omega) hb9.size ?_; intro A3 c3 w10 ho10 hg10; have hb10 : Below w8.heap.size w8 w10 := hb9.trans (below_grown HO9.out hg10 hb9.size); have HO10 := Lib.hid ho10; clear ho10 hg10)
              | (at_builtin; refine wpList_app8 (l := lay (plan (V.mk k n t ks))) (L := [0] ++ lay (plan (V.mk KX NX TX []))) (base := w8.heap.size) rfl _ _ rfl rfl HO10.out rfl ((HOVV.out.rd).call hb10) (by omega) hb10.size ?_; intro A4 c4 w11 ho11 hg11; have hb11 : Below w8.heap.size w8 w11 := hb10.trans (below_grown HO10.out hg11 hb10.size); have HO11 := Lib.hid ho11; clear ho11 hg11)
              | (go_at_call 14; have e3 : md = 1 + mx + mv := (by have e1 := HOD.out.len; have e2 := HO11.out.len; omega); subst e3; (with_reducible refine (eqbytes_same _ _ Ad A4 (1 + mx + mv) cd c4 _ w11 (((((HOD.out.below hb6).below hb7).below hb8).rd).call hb11) HO11.out.rd).mono ?_); rintro e w12 ⟨rfl, rfl⟩))
            go_roundw
            case rel => exact ⟨j + 1, by omega, by go_num, HS8.out.call hb11, ((((HN4.out.call hb5).call hb6).call hb7).call hb8).call hb11⟩
            case measure => simp [intOf]; omega
      · go_wp2_with (go_at_call 10; (with_reducible refine (works_any _ hS.tab).mono ?_); rintro e w5 ⟨rfl, hb5⟩)
        go_ret
        exact ⟨rfl, below_next hS.low hb5⟩
end Go.Proofs.YtophlpkbpjhhjaaDoor.encodeDescs
