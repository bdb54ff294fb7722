/-
  The walk of the statement OutcomeNames. Conditions: the table utf.shapes lies as the program's text lays it; a condition of at most 2^20 bytes.
-/
import Derived.Test.YtohmnbefokhjpaaDoorOnz
namespace Go.Proofs.YtohmnbefokhjpaaDoor.outcomeNames
set_option maxRecDepth 100000
open Go.RowKit Go.Proofs.YtohmnbefokhjpaaDoor.Utf Go.Proofs.YtohmnbefokhjpaaDoor.Val Go.Proofs.YtohmnbefokhjpaaDoor.Fl Go.Proofs.YtohmnbefokhjpaaDoor.Oc Go.Proofs.YtohmnbefokhjpaaDoor.Sep V

set_option maxHeartbeats 8000000 in
theorem walk (k a b : Nat) (c : ByteArray) (q : Nat) (w : World) (hTab : Tab w) (hs : c.size ≤ 1048576) (ha : a < 18446744073709551616) (hb : b < 18446744073709551616) (hq : q < 256) :
    Calls Tryd.prog 3 #[.agg #[.int .u8 (k : Int), .int .u64 (a : Int), .int .u64 (b : Int), .string c], .int .u8 (q : Int)] w (GivesB true w) := by
  have hB : Below w.heap.size w (w.alloc (.cells #[.int .u8 (k : Int), .int .u64 (a : Int), .int .u64 (b : Int), .string c] 24)) := (Below.refl _ _).alloc (Nat.le_refl _) _
  have HX := Lib.hid (BxO.new w (.int .u8 (k : Int)) (.int .u64 (a : Int)) (.int .u64 (b : Int)) (.string c))
  have HB := Lib.hid hB
  have HT := Lib.hid hTab
  clear hB hTab
  cases hm : mayO ⟨k, a, b, c⟩ with
  | false =>
    have hp := fun w => oput_any k a b c w (by omega) ha hb
    rw [show putR ⟨k, a, b, c⟩ = (Oc.zeroV, 1) from if_neg (by rw [hm]; exact Bool.false_ne_true)] at hp
    have HP := Lib.hid hp
    clear hp hm
    obtain ⟨x0, x1, x2, x3, xf⟩ := HX.out.all
    go_enter Tryd.func3, Tryd.ntmps3
    go_wp2_with fail
    with_reducible refine (HP.out _).mono ?_
    rintro e w1 ⟨pk, pn, pt, pks, pA, pl, pc, _, _, _, rfl, _, hb1⟩
    have HB1 := Lib.hid ((below_next HB.out hb1).alloc (by have := HB.out.size; have := hb1.size; omega) (.cells #[.int .u8 (pk : Int), .int .u64 (pn : Int), .string pt, .slice pA pl pc] 27))
    clear hb1 x0 x1 x2 x3 xf
    go_wp2_with fail
    with_reducible refine (works8_any _ (HT.out.call HB1.out)).mono ?_
    rintro e w2 ⟨rfl, hb2⟩
    go_wp2_with fail
    go_ret
    exact ⟨rfl, below_next HB1.out hb2⟩
  | true =>
    by_cases h0 : k = 0
    · have hp := fun w => oput_any k a b c w (by omega) ha hb
      rw [show putR ⟨k, a, b, c⟩ = (putO ⟨k, a, b, c⟩, 0) from if_pos hm] at hp
      subst h0
      have HP := Lib.hid (show ∀ w, Calls Tryd.prog 4 #[.agg #[.int .u8 0, .int .u64 (a : Int), .int .u64 (b : Int), .string c]] w _ from hp)
      clear hp hm
      obtain ⟨x0, x1, x2, x3, xf⟩ := HX.out.all
      go_enter Tryd.func3, Tryd.ntmps3
      go_wp2_with fail
      with_reducible refine (HP.out _).mono ?_
      rintro e w1 ⟨pk, pn, pt, pks, pA, pl, pc, _, _, _, rfl, _, hb1⟩
      have hz1 := hb1.size
      simp only [World.size_alloc] at hz1
      have HB1 := Lib.hid ((below_next HB.out hb1).alloc (by omega) (.cells #[.int .u8 (pk : Int), .int .u64 (pn : Int), .string pt, .slice pA pl pc] 27))
      obtain ⟨y0, y1, y2, y3, yf⟩ := (HX.out.call hb1).all
      have hne : ¬ w.heap.size = w1.heap.size := by omega
      have hlt : w.heap.size < w1.heap.size := by omega
      clear hb1 x0 x1 x2 x3 xf
      go_wp2_with fail
      with_reducible refine (works8_any _ (HT.out.call HB1.out)).mono ?_
      rintro e w2 ⟨rfl, hb2⟩
      go_wp2_with fail
      go_ret
      exact ⟨rfl, below_next HB1.out hb2⟩
    · have h5 := may_five hm h0
      obtain ⟨us, hus⟩ : ∃ us, trim (tellO ⟨k, a, b, c⟩) = us := ⟨_, rfl⟩
      have HP := Lib.hid (show ∀ w, Calls Tryd.prog 4 #[.agg #[.int .u8 (k : Int), .int .u64 (a : Int), .int .u64 (b : Int), .string c]] w (GivesPU (34 + k) us w) from fun w => hus ▸ oput_yes hm h0 w (by simp only; omega) ha hb)
      have HU := Lib.hid (show bulkL us ≤ 1048676 ∧ us.length ≤ 2 by
        have e1 := tell_bulk ⟨k, a, b, c⟩
        have e2 := bulk_take (tellO ⟨k, a, b, c⟩) (cutN (tellO ⟨k, a, b, c⟩) (tellO ⟨k, a, b, c⟩).length)
        have e3 := tell_len ⟨k, a, b, c⟩
        rw [← hus]
        unfold trim
        simp only at e1
        exact ⟨by omega, by simp only [List.length_take]; omega⟩)
      have HCP := Lib.hid (show ∀ (A : Option Addr) (c1 : Nat) (w : World), Kd w (putL (34 + k) us) A 2 c1 → Calls Tryd.prog 6 #[.agg #[.int .u8 25, .int .u64 0, .string ⟨#[]⟩, .slice A 2 c1]] w (GivesO 25 0 ⟨#[]⟩ (putL (34 + k) us) w) from fun A c1 w hK => copyO_any 25 0 ⟨#[]⟩ (putL (34 + k) us) A 2 c1 w (by have := HU.out; simp only [putL, bulkL, bulk, size_nil]; omega) (by omega) (by omega) hK)
      have HG1 := Lib.hid (fun A l c' w => get_named_any hm h0 us hus (by have := HU.out; omega) A l c' w)
      have HK := Lib.hid h5
      have hk6 : k < 6 := by simp only [List.mem_cons, List.not_mem_nil, or_false] at h5; omega
      have hk0 : ((k : Int) == 0) = false := by simp; omega
      have hk5 : decide ((5 : Int) < (k : Int)) = false := by simp; omega
      clear hm h0 h5 hus
      obtain ⟨x0, x1, x2, x3, xf⟩ := HX.out.all
      go_enter Tryd.func3, Tryd.ntmps3
      go_wp2_with fail
      with_reducible refine (HP.out _).mono ?_
      rintro e w1 ⟨A1, l1, c1, rfl, hN1, hb1⟩
      obtain rfl : l1 = 2 := hN1.len
      have HB1 := Lib.hid ((below_next HB.out hb1).alloc (by have := HB.out.size; have := hb1.size; omega) (.cells #[.int .u8 25, .int .u64 0, .string ⟨#[]⟩, .slice A1 2 c1] 27))
      have HX1 := Lib.hid ((HX.out.call hb1).call ((Below.refl _ _).alloc (Nat.le_refl _) (.cells #[.int .u8 25, .int .u64 0, .string ⟨#[]⟩, .slice A1 2 c1] 27)))
      have HN1 := Lib.hid (hN1.kd.alloc (.cells #[.int .u8 25, .int .u64 0, .string ⟨#[]⟩, .slice A1 2 c1] 27))
      obtain ⟨y0, y1, y2, y3, yf⟩ := (HX.out.call hb1).all
      have hne : ¬ w.heap.size = w1.heap.size := by have := HX.out.lt; have := hb1.size; omega
      have hlt : w.heap.size < w1.heap.size := by have := HX.out.lt; have := hb1.size; omega
      have HC := Lib.hid (HCP.out A1 c1 _ (HN1.out.alloc (.cells #[.string ⟨#[]⟩, .string ⟨#[97, 109, 113, 112, 58, 114, 101, 99, 101, 105, 118, 101, 100, 58, 108, 105, 115, 116]⟩, .string ⟨#[97, 109, 113, 112, 58, 97, 99, 99, 101, 112, 116, 101, 100, 58, 108, 105, 115, 116]⟩, .string ⟨#[97, 109, 113, 112, 58, 114, 101, 106, 101, 99, 116, 101, 100, 58, 108, 105, 115, 116]⟩, .string ⟨#[97, 109, 113, 112, 58, 114, 101, 108, 101, 97, 115, 101, 100, 58, 108, 105, 115, 116]⟩, .string ⟨#[97, 109, 113, 112, 58, 109, 111, 100, 105, 102, 105, 101, 100, 58, 108, 105, 115, 116]⟩] 9)))
      have HS := Lib.hid (show NS w ((w1.alloc (.cells #[.int .u8 25, .int .u64 0, .string ⟨#[]⟩, .slice A1 2 c1] 27)).alloc (.cells #[.string ⟨#[]⟩, .string ⟨#[97, 109, 113, 112, 58, 114, 101, 99, 101, 105, 118, 101, 100, 58, 108, 105, 115, 116]⟩, .string ⟨#[97, 109, 113, 112, 58, 97, 99, 99, 101, 112, 116, 101, 100, 58, 108, 105, 115, 116]⟩, .string ⟨#[97, 109, 113, 112, 58, 114, 101, 106, 101, 99, 116, 101, 100, 58, 108, 105, 115, 116]⟩, .string ⟨#[97, 109, 113, 112, 58, 114, 101, 108, 101, 97, 115, 101, 100, 58, 108, 105, 115, 116]⟩, .string ⟨#[97, 109, 113, 112, 58, 109, 111, 100, 105, 102, 105, 101, 100, 58, 108, 105, 115, 116]⟩] 9)) (w1.heap.size + 1 + 1) k a b c (w1.heap.size + 1) w1.heap.size A1 2 c1 us from
        ⟨HX1.out.call ((Below.refl _ _).alloc (Nat.le_refl _) _), names_at HK.out _ (by simp), (Box.new w1 _ _ _ _).alloc _, (HN1.out.alloc _).mono fun i hi => by simpa using hi, HB1.out.alloc (by have := HB1.out.size; omega) _, by omega, by omega, by omega, by simp⟩)
      clear hb1 hN1 x0 x1 x2 x3 xf HP HX1 HN1 HB1 HX HB
      go_wp2_with fail
      with_reducible refine HC.out.mono ?_
      rintro e w2 ⟨A2, l2, c2, rfl, hO, hb2⟩
      simp only [World.size_alloc] at hO
      clear HC y0 y1 y2 y3 yf hne hlt
      have hS2 := HS.out.call hb2
      obtain ⟨w3, hw3⟩ : ∃ w3, w3 = w2.alloc (.cells #[.int .u8 25, .int .u64 0, .string ⟨#[]⟩, .slice A2 l2 c2] 27) := ⟨_, rfl⟩
      obtain ⟨g, A0, c0, A4, l4, c4, rfl, rfl, hX2⟩ := XS.of hO fun i hi => hi.2
      have hX3 := hX2.call (w' := w3) (by rw [hw3]; exact (Below.refl _ _).alloc (Nat.le_refl _) _)
      have hS3 := hS2.call (w' := w3) (by rw [hw3]; exact (Below.refl _ _).alloc (Nat.le_refl _) _)
      have hB3 : Box w3 w2.heap.size (.int .u8 25) (.int .u64 0) (.string ⟨#[]⟩) (.slice (some ⟨g, 0, none⟩) 2 c2) := by rw [hw3]; exact Box.new w2 _ _ _ _
      have hle : w1.heap.size + 1 + 1 ≤ w2.heap.size := hS2.le.2.2.2
      have hsz3 : w3.heap.size = w2.heap.size + 1 := by rw [hw3]; simp
      clear hS2 hX2 hO hb2 HS
      generalize w1.heap.size = gV at *
      have hg1 : gV + 1 + 1 ≤ g := hX3.pg.1
      have hg2 : g < w2.heap.size := hX3.pg.2
      obtain ⟨gX, hgX⟩ : ∃ gX, w2.heap.size = gX := ⟨_, rfl⟩
      rw [hgX] at hB3 hle hsz3 hg2
      have hP2 : (fun i => gV + 1 + 1 ≤ i ∧ i < w2.heap.size) = fun i => gV + 1 + 1 ≤ i ∧ i < gX := by rw [hgX]
      rw [hP2] at hX3
      have hcap := hX3.cap
      obtain ⟨x0, x1, x2, x3, xf⟩ := hS3.b3.all
      have xn := hS3.nm
      obtain ⟨d0, d1, d2, d3, df⟩ := hB3.all
      obtain ⟨s0, s1, s2, s3, s7, sf⟩ := hX3.cells
      have hle3 := hS3.le
      have HS3 := Lib.hid hS3
      have HX3 := Lib.hid hX3
      have HB3 := Lib.hid hB3
      clear hS3 hX3 hB3 hP2
      have hk6' : decide ((k : Int) < 6) = true := decide_eq_true (by omega)
      go_upto_region 8 with fail
      rw [← hw3]
      have HW3 := Lib.hid hw3
      clear hw3
      go_cut [8] (fun s8 wx => s8 = .pointer (some ⟨gX, 0, none⟩) ∧ NS w wx (gV + 1 + 1) k a b c (gV + 1) gV A1 2 c1 us ∧ Box wx gX (.int .u8 25) (.int .u64 0) (.string ⟨#[]⟩) (.slice (some ⟨g, 0, none⟩) 2 c2) ∧ XS wx (fun i => gV + 1 + 1 ≤ i ∧ i < gX) g c2 21 0 (oname k) none 0 us A4 l4 c4)
      case first =>
        go_region_with (first
          | (go_at_call 7; (with_reducible refine (sym_new (oname k) _).mono ?_); rintro e w4 ⟨rfl, hb4⟩; have HS4 := Lib.hid (HS3.out.call (((Below.refl _ _).drew).trans hb4)); have HX4 := Lib.hid (HX3.out.call (((Below.refl _ _).drew).trans hb4)); have HB4 := Lib.hid (HB3.out.call (((Below.refl _ _).drew).trans hb4)); have hsz4 := hb4.size; clear hb4 s0 s1 s2 s3 s7 sf; obtain ⟨s0, s1, s2, s3, s7, sf⟩ := HX4.out.cells; obtain ⟨e0, e1, e2, e3, ef⟩ := HB4.out.all)
          | fail)
        all_goals
          go_wp2_with fail
          go_meet
          exact ⟨rfl, HS4.out.off (fun i hi => set4_block _ _ _ _ _ _ _ (by omega)) (set4_below (Below.refl _ _) hg1 _ _ _ _), (set4_block _ _ _ _ _ _ _ (by omega)).trans HB4.out, HX4.out.set0 (k := 21) (n := 0) (oname k) (by omega) (by omega)⟩
      case rest =>
        obtain ⟨rfl, hS5, hB5, hX5⟩ := hcut
        clear x0 x1 x2 x3 xf xn d0 d1 d2 d3 df s0 s1 s2 s3 s7 sf
        have HGA := Lib.hid (HG1.out _ _ _ _ hX5.kd (HT.out.call hS5.low))
        obtain ⟨d0, d1, d2, d3, df⟩ := hB5.all
        have HS5 := Lib.hid hS5
        have HX5 := Lib.hid hX5
        have HB5 := Lib.hid hB5
        clear hS5 hX5 hB5 HS3 HX3 HB3 HW3
        go_wp2_with fail
        (with_reducible refine HGA.out.mono ?_)
        rintro e w6 ⟨rfl, hb6⟩
        have HS6 := Lib.hid ((HS5.out.call hb6).alloc (.cells #[.int .u8 (k : Int), .int .u64 (a : Int), .int .u64 (b : Int), .string c] 24))
        have HX6 := Lib.hid ((HX5.out.call hb6).call ((Below.refl _ _).alloc (Nat.le_refl _) (.cells #[.int .u8 (k : Int), .int .u64 (a : Int), .int .u64 (b : Int), .string c] 24)))
        have HB6 := Lib.hid ((HB5.out.call hb6).call ((Below.refl _ _).alloc (Nat.le_refl _) (.cells #[.int .u8 (k : Int), .int .u64 (a : Int), .int .u64 (b : Int), .string c] 24)))
        clear hb6 HGA HS5 HX5 HB5 d0 d1 d2 d3 df HG1
        obtain ⟨x0, x1, x2, x3, xf⟩ := HS6.out.b3.all
        go_upto_region 12 with fail
        obtain ⟨w7, hw7⟩ : ∃ w7, w7 = w6.alloc (.cells #[.int .u8 (k : Int), .int .u64 (a : Int), .int .u64 (b : Int), .string c] 24) := ⟨_, rfl⟩
        rw [← hw7] at HS6 HX6 HB6 x0 x1 x2 x3 xf ⊢
        have xn := HS6.out.nm
        obtain ⟨d0, d1, d2, d3, df⟩ := HB6.out.all
        obtain ⟨s0, s1, s2, s3, s7, sf⟩ := HX6.out.cells
        have hadd := sname_add HK.out
        have hle7 := HS6.out.le
        have HW7 := Lib.hid hw7
        clear hw7
        go_cut [8] (fun s8 wx => s8 = .pointer (some ⟨gX, 0, none⟩) ∧ NS w wx (gV + 1 + 1) k a b c (gV + 1) gV A1 2 c1 us ∧ Box wx gX (.int .u8 25) (.int .u64 0) (.string ⟨#[]⟩) (.slice (some ⟨g, 0, none⟩) 2 c2) ∧ XS wx (fun i => gV + 1 + 1 ≤ i ∧ i < gX) g c2 21 0 (sname k) none 0 us A4 l4 c4)
        case first =>
          go_region_with (first
            | (go_at_call 7; (with_reducible refine (sym_new (sname k) _).mono ?_); rintro e w4 ⟨rfl, hb4⟩; have HS4 := Lib.hid (HS6.out.call (((Below.refl _ _).drew).trans hb4)); have HX4 := Lib.hid (HX6.out.call (((Below.refl _ _).drew).trans hb4)); have HB4 := Lib.hid (HB6.out.call (((Below.refl _ _).drew).trans hb4)); have hsz4 := hb4.size; clear hb4 s0 s1 s2 s3 s7 sf; obtain ⟨s0, s1, s2, s3, s7, sf⟩ := HX4.out.cells; obtain ⟨e0, e1, e2, e3, ef⟩ := HB4.out.all)
            | fail)
          all_goals
            go_wp2_with fail
            go_meet
            exact ⟨rfl, HS4.out.off (fun i hi => set4_block _ _ _ _ _ _ _ (by omega)) (set4_below (Below.refl _ _) hg1 _ _ _ _), (set4_block _ _ _ _ _ _ _ (by omega)).trans HB4.out, HX4.out.set0 (k := 21) (n := 0) (sname k) (by omega) (by omega)⟩
        case rest =>
          obtain ⟨rfl, hS8, hB8, hX8⟩ := hcut
          clear x0 x1 x2 x3 xf xn d0 d1 d2 d3 df s0 s1 s2 s3 s7 sf hadd
          have HGA := Lib.hid (get_sname_any HK.out us (by have := HU.out; omega) _ _ _ _ hX8.kd (HT.out.call hS8.low))
          obtain ⟨d0, d1, d2, d3, df⟩ := hB8.all
          have HS8 := Lib.hid hS8
          clear hS8 hX8 hB8 HS6 HX6 HB6 HW7
          go_wp2_with fail
          (with_reducible refine HGA.out.mono ?_)
          rintro e w9 ⟨rfl, hb9⟩
          have HS9 := Lib.hid ((HS8.out.call hb9).alloc (.cells #[.int .u8 0, .int .u64 0, .int .u64 0, .string ⟨#[]⟩] 24))
          have HS9' := Lib.hid (HS8.out.call hb9)
          clear hb9 HGA HS8 d0 d1 d2 d3 df
          have HC := Lib.hid (HCP.out A1 c1 _ (HS9.out.kv.mono fun i hi => by have := HS9.out.le; omega))
          obtain ⟨y0, y1, y2, y3, yf⟩ := HS9.out.bv.all
          have hz9 := HS9.out.le
          simp only [World.size_alloc] at hz9
          go_wp2_with fail
          (with_reducible refine HC.out.mono ?_)
          rintro e w10 ⟨A2, l2, cX, rfl, hO, hb10⟩
          clear HC y0 y1 y2 y3 yf HS9'
          have hz10 := hb10.size
          simp only [World.size_alloc] at hO hz10
          have hS10 := (HS9.out.up (E' := w9.heap.size + 1) (by omega) (by simp)).call hb10
          have hO := hO.mono (P' := fun i => w9.heap.size + 1 ≤ i ∧ i < w10.heap.size) fun i hi => hi
          obtain ⟨gx, A0, c0, A', l', c', rfl, rfl, hX10⟩ := XS.of hO fun i hi => hi.2
          have hL := Lib.hid (show LS w (w10.alloc (.cells #[.int .u8 25, .int .u64 0, .string ⟨#[]⟩, .slice (some ⟨gx, 0, none⟩) 2 cX] 27)) (w9.heap.size + 1) k a b c (gV + 1) gV A1 c1 us w10.heap.size gx cX A0 c0 us A' l' c' from
            ⟨hS10.alloc _, Box.new w10 _ _ _ _, (hX10.call ((Below.refl _ _).alloc (Nat.le_refl _) _)).mono (fun i hi => ⟨hi.1, by simp; omega, by omega⟩) (fun i hi => hi.2.1), hz10⟩)
          generalize w9.heap.size + 1 = E at *
          have hus := HU.out
          clear hS10 hO hX10 hb10 HS9 hz9 hz10
          obtain ⟨w11, hw11⟩ : ∃ w11, w11 = w10.alloc (.cells #[.int .u8 25, .int .u64 0, .string ⟨#[]⟩, .slice (some ⟨gx, 0, none⟩) 2 cX] 27) := ⟨_, rfl⟩
          rw [← hw11] at hL
          go_wp2_with fail
          rw [← hw11]
          have HW11 := Lib.hid hw11
          clear hw11
          clear HW11
          generalize w10.heap.size = gY at *
          go_loopg [] (4 - us.length) (fun g wr => ∃ us' A' l' c', LS w wr E k a b c (gV + 1) gV A1 c1 us gY gx cX A0 c0 us' A' l' c' ∧ us'.length + g = 4 ∧ bulkL us' ≤ 1048676 + us'.length)
          case atStart => exact ⟨us, A', l', c', hL.out, by omega, by omega⟩
          case round =>
            obtain ⟨us2, A3, l3, c3, hR, hlen, hbk⟩ := hrel
            obtain rfl : l3 = us2.length := hR.xs.inn.kids.len
            have HR := Lib.hid hR
            obtain ⟨d0, d1, d2, d3, df⟩ := hR.bx.all
            obtain ⟨s0, s1, s2, s3, s7, sf⟩ := hR.xs.cells
            have hcx := hR.xs.cap
            clear hR hL
            by_cases hlt : us2.length < 4
            · have hdl : decide ((us2.length : Int) < 4) = true := decide_eq_true (by omega)
              have hL4 : us2.length ≤ 4 := by omega
              go_upto_region 16 with fail
              go_cut [90] (fun s90 wx => (∃ bb, s90 = .bool bb) ∧ LS w wx E k a b c (gV + 1) gV A1 c1 us gY gx cX A0 c0 us2 A3 us2.length c3)
              case first =>
                go_region
                all_goals
                  go_wp2_with fail
                  go_meet
                  refine ⟨⟨_, rfl⟩, ?_⟩
                  first
                    | exact HR.out.call ((((Below.refl _ _).drew.alloc (Nat.le_refl _) _).setCell (p := ⟨wr.heap.size, 0, none⟩) (Nat.le_refl _) _).setCell (p := ⟨wr.heap.size, 0, none⟩) (Nat.le_refl _) _)
                    | exact HR.out.call ((Below.refl _ _).drew.alloc (Nat.le_refl _) _)
                    | exact HR.out.call (((Below.refl _ _).drew.alloc (Nat.le_refl _) _).setCell (p := ⟨wr.heap.size, 0, none⟩) (Nat.le_refl _) _)
              case rest =>
                obtain ⟨⟨bb, rfl⟩, hR5⟩ := hcut
                clear d0 d1 d2 d3 df s0 s1 s2 s3 s7 sf
                cases bb with
                | true =>
                  obtain ⟨ys, hown, hP, hCO⟩ := hR5.xs.inn
                  obtain ⟨i0, hi, hz0, hz1, hz2⟩ := info_parts infoV
                  obtain ⟨d0, d1, d2, d3, df⟩ := hR5.bx.all
                  obtain ⟨s0, s1, s2, s3, s7, sf⟩ := hR5.xs.cells
                  have hgl := hR5.xs.pg.2.1
                  have hgYl := hR5.bx.lt
                  have hgxY : gx ≠ gY := hR5.xs.pg.2.2
                  have HR5 := Lib.hid hR5
                  have HP5 := Lib.hid hP
                  have HC5 := Lib.hid hCO
                  have b3 := fun o => (far_cell (Below.refl wc.heap.size wc).drew o (p := ⟨gY, 3, none⟩) hgYl).trans d3
                  have b7 := fun o => (far_cell (Below.refl wc.heap.size wc).drew o (p := ⟨gx, 7, none⟩) hgl).trans s7
                  clear hR5 hP hCO
                  go_upto_region 17 with fail
                  refine wp_region_held_drew (S := fun wx => wx.cell? ⟨gY, 3, none⟩ = some (.slice (some ⟨gx, 0, none⟩) 2 cX)) (by kernel_rfl) (by exact d3) (fun hHeld => ?_)
                  (refine wpAnyH_take (i := 0) (oi := ⟨some 91, _, _, _, _, _⟩) (v := ?_) rfl (by kernel_rfl) (by kernel_rfl) (by kernel_rfl) (fun _ _ _ h => h) (Or.inl ⟨by kernel_rfl, ?_⟩) (by assumption) ?_; rotate_left 1; (· intro wx hSw; (try dsimp only at hSw); go_simp; (try with_reducible rfl)))
                  try simp only [Act.put, List.setIfInBounds_toArray, List.set_cons_zero, List.set_cons_succ]
                  (refine wpAnyH_take (i := 1) (oi := ⟨some 92, _, _, _, _, _⟩) (v := ?_) rfl (by kernel_rfl) (by kernel_rfl) (by kernel_rfl) (fun _ _ _ h => h) (Or.inl ⟨by kernel_rfl, ?_⟩) (by assumption) ?_; rotate_left 1; (· intro wx hSw; (try dsimp only at hSw); go_simp; (try with_reducible rfl)))
                  try simp only [Act.put, List.setIfInBounds_toArray, List.set_cons_zero, List.set_cons_succ]
                  (refine wpAnyH_take (i := 2) (oi := ⟨some 93, _, _, _, _, _⟩) (v := ?_) rfl (by kernel_rfl) (by kernel_rfl) (by kernel_rfl) (fun _ _ _ h => h) (Or.inl ⟨by kernel_rfl, ?_⟩) (by assumption) ?_; rotate_left 1; (· intro wx hSw; (try dsimp only at hSw); go_simp; (try with_reducible rfl)))
                  try simp only [Act.put, List.setIfInBounds_toArray, List.set_cons_zero, List.set_cons_succ]
                  (refine wpAnyH_take (i := 3) (oi := ⟨some 94, _, _, _, _, _⟩) (v := ?_) rfl (by kernel_rfl) (by kernel_rfl) (by kernel_rfl) (fun _ _ _ h => h) (Or.inl ⟨by kernel_rfl, ?_⟩) (by assumption) ?_; rotate_left 1; (· intro wx hSw; (try dsimp only at hSw); go_simp; (try with_reducible rfl)))
                  try simp only [Act.put, List.setIfInBounds_toArray, List.set_cons_zero, List.set_cons_succ]
                  refine wpAnyH_ready (rs := [4, 5, 7]) (by kernel_rfl) (by simp) ?_
                  refine AllReadyH.cons (o := ⟨some 95, _, _, _, _, _⟩) rfl (fun K hK => ?_) (AllReadyH.cons (o := ⟨some 96, _, _, _, _, _⟩) rfl (fun K hK => ?_) (AllReadyH.cons (o := ⟨some 98, _, _, _, _, _⟩) rfl (fun K hK => ?_) AllReadyH.nil))
                  · go_simp
                    go_wp2_with fail
                    refine hK.out _ _ ?_ (fun hHeld => ?_)
                    · exact (by assumption)
                    clear hK K
                    try simp only [Act.put, List.setIfInBounds_toArray, List.set_cons_zero, List.set_cons_succ]
                    (refine wpAnyH_take (i := 6) (oi := ⟨some 97, _, _, _, _, _⟩) (v := ?_) rfl (by kernel_rfl) (by kernel_rfl) (by kernel_rfl) (fun _ _ _ h => h) (Or.inl ⟨by kernel_rfl, ?_⟩) (by assumption) ?_; rotate_left 1; (· intro wx hSw; (try dsimp only at hSw); go_simp; (try with_reducible rfl)))
                    try simp only [Act.put, List.setIfInBounds_toArray, List.set_cons_zero, List.set_cons_succ]
                    refine wpAnyH_ready (rs := [5, 7]) (by kernel_rfl) (by simp) ?_
                    refine AllReadyH.cons (o := ⟨some 96, _, _, _, _, _⟩) rfl (fun K hK => ?_) (AllReadyH.cons (o := ⟨some 98, _, _, _, _, _⟩) rfl (fun K hK => ?_) AllReadyH.nil)
                    · go_simp
                      go_at_call 9
                      with_reducible refine (nul_new _).mono ?_
                      rintro e w1 ⟨rfl, hb1⟩
                      have hbx : Below wc.heap.size wc w1 := ((Below.refl _ _).drew).trans hb1
                      have hs1 := hbx.size
                      have e3 := (hbx.cell (p := ⟨gY, 3, none⟩) hgYl).trans d3
                      have e7 := (hbx.cell (p := ⟨gx, 7, none⟩) hgl).trans s7
                      have a3 := fun o => (far_cell hbx o (p := ⟨gY, 3, none⟩) hgYl).trans d3
                      have a7 := fun o => (far_cell hbx o (p := ⟨gx, 7, none⟩) hgl).trans s7
                      go_wp2_with fail
                      refine hK.out _ _ ?_ (fun hHeld => ?_)
                      · exact e3
                      clear hK K
                      try simp only [Act.put, List.setIfInBounds_toArray, List.set_cons_zero, List.set_cons_succ]
                      refine wpAnyH_ready (rs := [7]) (by kernel_rfl) (by simp) ?_
                      refine AllReadyH.cons (o := ⟨some 98, _, _, _, _, _⟩) rfl (fun K hK => ?_) AllReadyH.nil
                      go_simp
                      go_wp2_with fail
                      refine hK.out _ _ ?_ (fun hHeld => ?_)
                      · exact (a3 _)
                      clear hK K
                      try simp only [Act.put, List.setIfInBounds_toArray, List.set_cons_zero, List.set_cons_succ]
                      refine wpAnyH_ready (rs := [8]) (by kernel_rfl) (by simp) ?_
                      refine AllReadyH.cons (o := ⟨some 99, _, _, _, _, _⟩) rfl (fun K hK => ?_) AllReadyH.nil
                      skip
                      have hbp : Below wc.heap.size wc (w1.alloc (.cells #[.int .u8 0, .int .u64 0, .string ⟨#[]⟩, .slice none 0 0] 27)) := hbx.alloc hbx.size _
                      have ho1 := own_call hown hbp
                      have hsp := hbp.size
                      refine step_append_lies _ rfl _ _ 25 rfl 0 27 i0 _ 4 56 Tryd.underlying25 hi hz0 hz1 hz2 rfl (by omega) _ _ _ rfl (by exact ho1) ⟨w1.heap.size, 0, none⟩ 1 1 [.int .u8 0, .int .u64 0, .string ⟨#[]⟩, .slice none 0 0] rfl rfl (by exact Val.news4 _ _ _ _ _ _ _ rfl) (fun u hu => (by simp at hu; rcases hu with rfl | rfl | rfl | rfl <;> rfl)) (by omega) (by unfold maxLen; omega) (by omega) (by omega) _ rfl ?_
                      intro g9 cap9 w9 hown9 hgrow9 hat9 hlt9
                      have s39 := (hgrow9.cell_far ⟨gY, 3, none⟩ (Nat.lt_of_lt_of_le hgYl hsp) (fun e => (HP5.out gY e.symm).1.2.2 rfl)).trans ((hbp.cell (p := ⟨gY, 3, none⟩) hgYl).trans d3)
                      have s79 := (hgrow9.cell_far ⟨gx, 7, none⟩ (Nat.lt_of_lt_of_le hgl hsp) (fun e => (HP5.out gx e.symm).2 rfl)).trans ((hbp.cell (p := ⟨gx, 7, none⟩) hgl).trans s7)
                      have sf9 := fun j => (hgrow9.frozen_far ⟨gx, j, none⟩ (Nat.lt_of_lt_of_le hgl hsp) (fun e => (HP5.out gx e.symm).2 rfl)).trans ((World.frozen?_of_block (hbp.block gx hgl)).trans (sf j))
                      have f39 := fun v => ((World.cell?_of_block (a := ⟨gY, 3, none⟩) (Below.heap_setCell w9 ⟨gx, 7, none⟩ v gY (fun e => hgxY e.symm))).trans s39)
                      have hL := HR5.out.push HP5.out HC5.out hbp (k2 := 0) (n2 := 0) (by omega) (by omega) hown9 hgrow9 (at_least hbp hat9) hlt9
                      go_wp2_with fail
                      refine hK.out _ _ ?_ (fun hHeld => ?_)
                      · exact s39
                      clear hK K
                      try simp only [Act.put, List.setIfInBounds_toArray, List.set_cons_zero, List.set_cons_succ]
                      (refine wpAnyH_take (i := 9) (oi := ⟨some 100, _, _, _, _, _⟩) (v := ?_) rfl (by kernel_rfl) (by kernel_rfl) (by kernel_rfl) (fun _ _ _ h => h) (Or.inl ⟨by kernel_rfl, ?_⟩) (by assumption) ?_; rotate_left 1; (· intro wx hSw; (try dsimp only at hSw); go_simp; (try with_reducible rfl)))
                      try simp only [Act.put, List.setIfInBounds_toArray, List.set_cons_zero, List.set_cons_succ]
                      (refine wpAnyH_take (i := 10) (oi := ⟨some 101, _, _, _, _, _⟩) (v := ?_) rfl (by kernel_rfl) (by kernel_rfl) (by kernel_rfl) (fun _ _ _ h => h) (Or.inl ⟨by kernel_rfl, ?_⟩) (by assumption) ?_; rotate_left 1; (· intro wx hSw; (try dsimp only at hSw); go_simp; (try with_reducible rfl)))
                      try simp only [Act.put, List.setIfInBounds_toArray, List.set_cons_zero, List.set_cons_succ]
                      refine wpAnyH_ready (rs := [11]) (by kernel_rfl) (by simp) ?_
                      refine AllReadyH.cons (o := ⟨none, _, _, _, _, _⟩) rfl (fun K hK => ?_) AllReadyH.nil
                      go_simp
                      go_wp2_with fail
                      refine hK.out _ _ ?_ (fun hHeld => ?_)
                      · exact (f39 _)
                      clear hK K
                      try simp only [Act.put, List.setIfInBounds_toArray, List.set_cons_zero, List.set_cons_succ]
                      refine wpAnyH_done (by kernel_rfl) ?_ _
                      obtain ⟨A9, c9, t0, t1, t2, t3, tf⟩ := hL.xs.inn.last (o := us2.length * 4) rfl
                      have HL := Lib.hid hL
                      clear hL
                      go_wp2_with fail
                      go_roundg (gk - 1)
                      case measure => omega
                      case rel => exact ⟨_, _, _, _, HL.out.setLast (k2 := 1) (n2 := 0) rfl ⟨#[]⟩ (by omega) (by omega), by simp; omega, by rw [bulkL_append]; simp [bulkL, bulk, ByteArray.size]; omega⟩
                    · go_simp
                      go_wp2_with fail
                      refine hK.out _ _ ?_ (fun hHeld => ?_)
                      · exact (b3 _)
                      clear hK K
                      try simp only [Act.put, List.setIfInBounds_toArray, List.set_cons_zero, List.set_cons_succ]
                      refine wpAnyH_ready (rs := [5]) (by kernel_rfl) (by simp) ?_
                      refine AllReadyH.cons (o := ⟨some 96, _, _, _, _, _⟩) rfl (fun K hK => ?_) AllReadyH.nil
                      go_simp
                      go_at_call 9
                      with_reducible refine (nul_new _).mono ?_
                      rintro e w1 ⟨rfl, hb1⟩
                      have hbx : Below wc.heap.size wc w1 := ((Below.refl wc.heap.size wc).drew.alloc (Nat.le_refl _) (.cells #[.int .u8 0, .int .u64 0, .string ⟨#[]⟩, .slice none 0 0] 27)).trans (hb1.mono (by simp))
                      have hs1 := hbx.size
                      have e3 := (hbx.cell (p := ⟨gY, 3, none⟩) hgYl).trans d3
                      have e7 := (hbx.cell (p := ⟨gx, 7, none⟩) hgl).trans s7
                      have a3 := fun o => (far_cell hbx o (p := ⟨gY, 3, none⟩) hgYl).trans d3
                      have a7 := fun o => (far_cell hbx o (p := ⟨gx, 7, none⟩) hgl).trans s7
                      go_wp2_with fail
                      refine hK.out _ _ ?_ (fun hHeld => ?_)
                      · exact e3
                      clear hK K
                      try simp only [Act.put, List.setIfInBounds_toArray, List.set_cons_zero, List.set_cons_succ]
                      refine wpAnyH_ready (rs := [8]) (by kernel_rfl) (by simp) ?_
                      refine AllReadyH.cons (o := ⟨some 99, _, _, _, _, _⟩) rfl (fun K hK => ?_) AllReadyH.nil
                      skip
                      have hbp := hbx
                      have ho1 := own_call hown hbp
                      have hsp := hbp.size
                      refine step_append_lies _ rfl _ _ 25 rfl 0 27 i0 _ 4 56 Tryd.underlying25 hi hz0 hz1 hz2 rfl (by omega) _ _ _ rfl (by exact ho1) ⟨wc.heap.size, 0, none⟩ 1 1 [.int .u8 0, .int .u64 0, .string ⟨#[]⟩, .slice none 0 0] rfl rfl (World.news_of_block (fr := (0, 0)) (cs := #[.int .u8 0, .int .u64 0, .string ⟨#[]⟩, .slice none 0 0]) (t := 27) ((hb1.block wc.heap.size (by simp)).trans (heap_alloc_new wc.drew _))) (fun u hu => (by simp at hu; rcases hu with rfl | rfl | rfl | rfl <;> rfl)) (by omega) (by unfold maxLen; omega) (by omega) (by omega) _ rfl ?_
                      intro g9 cap9 w9 hown9 hgrow9 hat9 hlt9
                      have s39 := (hgrow9.cell_far ⟨gY, 3, none⟩ (Nat.lt_of_lt_of_le hgYl hsp) (fun e => (HP5.out gY e.symm).1.2.2 rfl)).trans ((hbp.cell (p := ⟨gY, 3, none⟩) hgYl).trans d3)
                      have s79 := (hgrow9.cell_far ⟨gx, 7, none⟩ (Nat.lt_of_lt_of_le hgl hsp) (fun e => (HP5.out gx e.symm).2 rfl)).trans ((hbp.cell (p := ⟨gx, 7, none⟩) hgl).trans s7)
                      have sf9 := fun j => (hgrow9.frozen_far ⟨gx, j, none⟩ (Nat.lt_of_lt_of_le hgl hsp) (fun e => (HP5.out gx e.symm).2 rfl)).trans ((World.frozen?_of_block (hbp.block gx hgl)).trans (sf j))
                      have f39 := fun v => ((World.cell?_of_block (a := ⟨gY, 3, none⟩) (Below.heap_setCell w9 ⟨gx, 7, none⟩ v gY (fun e => hgxY e.symm))).trans s39)
                      have hL := HR5.out.push HP5.out HC5.out hbp (k2 := 0) (n2 := 0) (by omega) (by omega) hown9 hgrow9 (at_least hbp hat9) hlt9
                      go_wp2_with fail
                      refine hK.out _ _ ?_ (fun hHeld => ?_)
                      · exact s39
                      clear hK K
                      try simp only [Act.put, List.setIfInBounds_toArray, List.set_cons_zero, List.set_cons_succ]
                      (refine wpAnyH_take (i := 9) (oi := ⟨some 100, _, _, _, _, _⟩) (v := ?_) rfl (by kernel_rfl) (by kernel_rfl) (by kernel_rfl) (fun _ _ _ h => h) (Or.inl ⟨by kernel_rfl, ?_⟩) (by assumption) ?_; rotate_left 1; (· intro wx hSw; (try dsimp only at hSw); go_simp; (try with_reducible rfl)))
                      try simp only [Act.put, List.setIfInBounds_toArray, List.set_cons_zero, List.set_cons_succ]
                      (refine wpAnyH_take (i := 10) (oi := ⟨some 101, _, _, _, _, _⟩) (v := ?_) rfl (by kernel_rfl) (by kernel_rfl) (by kernel_rfl) (fun _ _ _ h => h) (Or.inl ⟨by kernel_rfl, ?_⟩) (by assumption) ?_; rotate_left 1; (· intro wx hSw; (try dsimp only at hSw); go_simp; (try with_reducible rfl)))
                      try simp only [Act.put, List.setIfInBounds_toArray, List.set_cons_zero, List.set_cons_succ]
                      refine wpAnyH_ready (rs := [11]) (by kernel_rfl) (by simp) ?_
                      refine AllReadyH.cons (o := ⟨none, _, _, _, _, _⟩) rfl (fun K hK => ?_) AllReadyH.nil
                      go_simp
                      go_wp2_with fail
                      refine hK.out _ _ ?_ (fun hHeld => ?_)
                      · exact (f39 _)
                      clear hK K
                      try simp only [Act.put, List.setIfInBounds_toArray, List.set_cons_zero, List.set_cons_succ]
                      refine wpAnyH_done (by kernel_rfl) ?_ _
                      obtain ⟨A9, c9, t0, t1, t2, t3, tf⟩ := hL.xs.inn.last (o := us2.length * 4) rfl
                      have HL := Lib.hid hL
                      clear hL
                      go_wp2_with fail
                      go_roundg (gk - 1)
                      case measure => omega
                      case rel => exact ⟨_, _, _, _, HL.out.setLast (k2 := 1) (n2 := 0) rfl ⟨#[]⟩ (by omega) (by omega), by simp; omega, by rw [bulkL_append]; simp [bulkL, bulk, ByteArray.size]; omega⟩
                  · go_simp
                    go_at_call 9
                    with_reducible refine (nul_new _).mono ?_
                    rintro e w1 ⟨rfl, hb1⟩
                    have hbx : Below wc.heap.size wc w1 := ((Below.refl _ _).drew).trans hb1
                    have hs1 := hbx.size
                    have e3 := (hbx.cell (p := ⟨gY, 3, none⟩) hgYl).trans d3
                    have e7 := (hbx.cell (p := ⟨gx, 7, none⟩) hgl).trans s7
                    have a3 := fun o => (far_cell hbx o (p := ⟨gY, 3, none⟩) hgYl).trans d3
                    have a7 := fun o => (far_cell hbx o (p := ⟨gx, 7, none⟩) hgl).trans s7
                    go_wp2_with fail
                    refine hK.out _ _ ?_ (fun hHeld => ?_)
                    · exact e3
                    clear hK K
                    try simp only [Act.put, List.setIfInBounds_toArray, List.set_cons_zero, List.set_cons_succ]
                    refine wpAnyH_ready (rs := [4, 7]) (by kernel_rfl) (by simp) ?_
                    refine AllReadyH.cons (o := ⟨some 95, _, _, _, _, _⟩) rfl (fun K hK => ?_) (AllReadyH.cons (o := ⟨some 98, _, _, _, _, _⟩) rfl (fun K hK => ?_) AllReadyH.nil)
                    · go_simp
                      go_wp2_with fail
                      refine hK.out _ _ ?_ (fun hHeld => ?_)
                      · exact (by assumption)
                      clear hK K
                      try simp only [Act.put, List.setIfInBounds_toArray, List.set_cons_zero, List.set_cons_succ]
                      (refine wpAnyH_take (i := 6) (oi := ⟨some 97, _, _, _, _, _⟩) (v := ?_) rfl (by kernel_rfl) (by kernel_rfl) (by kernel_rfl) (fun _ _ _ h => h) (Or.inl ⟨by kernel_rfl, ?_⟩) (by assumption) ?_; rotate_left 1; (· intro wx hSw; (try dsimp only at hSw); go_simp; (try with_reducible rfl)))
                      try simp only [Act.put, List.setIfInBounds_toArray, List.set_cons_zero, List.set_cons_succ]
                      refine wpAnyH_ready (rs := [7]) (by kernel_rfl) (by simp) ?_
                      refine AllReadyH.cons (o := ⟨some 98, _, _, _, _, _⟩) rfl (fun K hK => ?_) AllReadyH.nil
                      go_simp
                      go_wp2_with fail
                      refine hK.out _ _ ?_ (fun hHeld => ?_)
                      · exact (a3 _)
                      clear hK K
                      try simp only [Act.put, List.setIfInBounds_toArray, List.set_cons_zero, List.set_cons_succ]
                      refine wpAnyH_ready (rs := [8]) (by kernel_rfl) (by simp) ?_
                      refine AllReadyH.cons (o := ⟨some 99, _, _, _, _, _⟩) rfl (fun K hK => ?_) AllReadyH.nil
                      skip
                      have hbp : Below wc.heap.size wc (w1.alloc (.cells #[.int .u8 0, .int .u64 0, .string ⟨#[]⟩, .slice none 0 0] 27)) := hbx.alloc hbx.size _
                      have ho1 := own_call hown hbp
                      have hsp := hbp.size
                      refine step_append_lies _ rfl _ _ 25 rfl 0 27 i0 _ 4 56 Tryd.underlying25 hi hz0 hz1 hz2 rfl (by omega) _ _ _ rfl (by exact ho1) ⟨w1.heap.size, 0, none⟩ 1 1 [.int .u8 0, .int .u64 0, .string ⟨#[]⟩, .slice none 0 0] rfl rfl (by exact Val.news4 _ _ _ _ _ _ _ rfl) (fun u hu => (by simp at hu; rcases hu with rfl | rfl | rfl | rfl <;> rfl)) (by omega) (by unfold maxLen; omega) (by omega) (by omega) _ rfl ?_
                      intro g9 cap9 w9 hown9 hgrow9 hat9 hlt9
                      have s39 := (hgrow9.cell_far ⟨gY, 3, none⟩ (Nat.lt_of_lt_of_le hgYl hsp) (fun e => (HP5.out gY e.symm).1.2.2 rfl)).trans ((hbp.cell (p := ⟨gY, 3, none⟩) hgYl).trans d3)
                      have s79 := (hgrow9.cell_far ⟨gx, 7, none⟩ (Nat.lt_of_lt_of_le hgl hsp) (fun e => (HP5.out gx e.symm).2 rfl)).trans ((hbp.cell (p := ⟨gx, 7, none⟩) hgl).trans s7)
                      have sf9 := fun j => (hgrow9.frozen_far ⟨gx, j, none⟩ (Nat.lt_of_lt_of_le hgl hsp) (fun e => (HP5.out gx e.symm).2 rfl)).trans ((World.frozen?_of_block (hbp.block gx hgl)).trans (sf j))
                      have f39 := fun v => ((World.cell?_of_block (a := ⟨gY, 3, none⟩) (Below.heap_setCell w9 ⟨gx, 7, none⟩ v gY (fun e => hgxY e.symm))).trans s39)
                      have hL := HR5.out.push HP5.out HC5.out hbp (k2 := 0) (n2 := 0) (by omega) (by omega) hown9 hgrow9 (at_least hbp hat9) hlt9
                      go_wp2_with fail
                      refine hK.out _ _ ?_ (fun hHeld => ?_)
                      · exact s39
                      clear hK K
                      try simp only [Act.put, List.setIfInBounds_toArray, List.set_cons_zero, List.set_cons_succ]
                      (refine wpAnyH_take (i := 9) (oi := ⟨some 100, _, _, _, _, _⟩) (v := ?_) rfl (by kernel_rfl) (by kernel_rfl) (by kernel_rfl) (fun _ _ _ h => h) (Or.inl ⟨by kernel_rfl, ?_⟩) (by assumption) ?_; rotate_left 1; (· intro wx hSw; (try dsimp only at hSw); go_simp; (try with_reducible rfl)))
                      try simp only [Act.put, List.setIfInBounds_toArray, List.set_cons_zero, List.set_cons_succ]
                      (refine wpAnyH_take (i := 10) (oi := ⟨some 101, _, _, _, _, _⟩) (v := ?_) rfl (by kernel_rfl) (by kernel_rfl) (by kernel_rfl) (fun _ _ _ h => h) (Or.inl ⟨by kernel_rfl, ?_⟩) (by assumption) ?_; rotate_left 1; (· intro wx hSw; (try dsimp only at hSw); go_simp; (try with_reducible rfl)))
                      try simp only [Act.put, List.setIfInBounds_toArray, List.set_cons_zero, List.set_cons_succ]
                      refine wpAnyH_ready (rs := [11]) (by kernel_rfl) (by simp) ?_
                      refine AllReadyH.cons (o := ⟨none, _, _, _, _, _⟩) rfl (fun K hK => ?_) AllReadyH.nil
                      go_simp
                      go_wp2_with fail
                      refine hK.out _ _ ?_ (fun hHeld => ?_)
                      · exact (f39 _)
                      clear hK K
                      try simp only [Act.put, List.setIfInBounds_toArray, List.set_cons_zero, List.set_cons_succ]
                      refine wpAnyH_done (by kernel_rfl) ?_ _
                      obtain ⟨A9, c9, t0, t1, t2, t3, tf⟩ := hL.xs.inn.last (o := us2.length * 4) rfl
                      have HL := Lib.hid hL
                      clear hL
                      go_wp2_with fail
                      go_roundg (gk - 1)
                      case measure => omega
                      case rel => exact ⟨_, _, _, _, HL.out.setLast (k2 := 1) (n2 := 0) rfl ⟨#[]⟩ (by omega) (by omega), by simp; omega, by rw [bulkL_append]; simp [bulkL, bulk, ByteArray.size]; omega⟩
                    · go_simp
                      go_wp2_with fail
                      refine hK.out _ _ ?_ (fun hHeld => ?_)
                      · exact (a3 _)
                      clear hK K
                      try simp only [Act.put, List.setIfInBounds_toArray, List.set_cons_zero, List.set_cons_succ]
                      refine wpAnyH_ready (rs := [4]) (by kernel_rfl) (by simp) ?_
                      refine AllReadyH.cons (o := ⟨some 95, _, _, _, _, _⟩) rfl (fun K hK => ?_) AllReadyH.nil
                      go_simp
                      go_wp2_with fail
                      refine hK.out _ _ ?_ (fun hHeld => ?_)
                      · exact (by assumption)
                      clear hK K
                      try simp only [Act.put, List.setIfInBounds_toArray, List.set_cons_zero, List.set_cons_succ]
                      (refine wpAnyH_take (i := 6) (oi := ⟨some 97, _, _, _, _, _⟩) (v := ?_) rfl (by kernel_rfl) (by kernel_rfl) (by kernel_rfl) (fun _ _ _ h => h) (Or.inl ⟨by kernel_rfl, ?_⟩) (by assumption) ?_; rotate_left 1; (· intro wx hSw; (try dsimp only at hSw); go_simp; (try with_reducible rfl)))
                      try simp only [Act.put, List.setIfInBounds_toArray, List.set_cons_zero, List.set_cons_succ]
                      refine wpAnyH_ready (rs := [8]) (by kernel_rfl) (by simp) ?_
                      refine AllReadyH.cons (o := ⟨some 99, _, _, _, _, _⟩) rfl (fun K hK => ?_) AllReadyH.nil
                      skip
                      have hbp : Below wc.heap.size wc (w1.alloc (.cells #[.int .u8 0, .int .u64 0, .string ⟨#[]⟩, .slice none 0 0] 27)) := hbx.alloc hbx.size _
                      have ho1 := own_call hown hbp
                      have hsp := hbp.size
                      refine step_append_lies _ rfl _ _ 25 rfl 0 27 i0 _ 4 56 Tryd.underlying25 hi hz0 hz1 hz2 rfl (by omega) _ _ _ rfl (by exact ho1) ⟨w1.heap.size, 0, none⟩ 1 1 [.int .u8 0, .int .u64 0, .string ⟨#[]⟩, .slice none 0 0] rfl rfl (by exact Val.news4 _ _ _ _ _ _ _ rfl) (fun u hu => (by simp at hu; rcases hu with rfl | rfl | rfl | rfl <;> rfl)) (by omega) (by unfold maxLen; omega) (by omega) (by omega) _ rfl ?_
                      intro g9 cap9 w9 hown9 hgrow9 hat9 hlt9
                      have s39 := (hgrow9.cell_far ⟨gY, 3, none⟩ (Nat.lt_of_lt_of_le hgYl hsp) (fun e => (HP5.out gY e.symm).1.2.2 rfl)).trans ((hbp.cell (p := ⟨gY, 3, none⟩) hgYl).trans d3)
                      have s79 := (hgrow9.cell_far ⟨gx, 7, none⟩ (Nat.lt_of_lt_of_le hgl hsp) (fun e => (HP5.out gx e.symm).2 rfl)).trans ((hbp.cell (p := ⟨gx, 7, none⟩) hgl).trans s7)
                      have sf9 := fun j => (hgrow9.frozen_far ⟨gx, j, none⟩ (Nat.lt_of_lt_of_le hgl hsp) (fun e => (HP5.out gx e.symm).2 rfl)).trans ((World.frozen?_of_block (hbp.block gx hgl)).trans (sf j))
                      have f39 := fun v => ((World.cell?_of_block (a := ⟨gY, 3, none⟩) (Below.heap_setCell w9 ⟨gx, 7, none⟩ v gY (fun e => hgxY e.symm))).trans s39)
                      have hL := HR5.out.push HP5.out HC5.out hbp (k2 := 0) (n2 := 0) (by omega) (by omega) hown9 hgrow9 (at_least hbp hat9) hlt9
                      go_wp2_with fail
                      refine hK.out _ _ ?_ (fun hHeld => ?_)
                      · exact s39
                      clear hK K
                      try simp only [Act.put, List.setIfInBounds_toArray, List.set_cons_zero, List.set_cons_succ]
                      (refine wpAnyH_take (i := 9) (oi := ⟨some 100, _, _, _, _, _⟩) (v := ?_) rfl (by kernel_rfl) (by kernel_rfl) (by kernel_rfl) (fun _ _ _ h => h) (Or.inl ⟨by kernel_rfl, ?_⟩) (by assumption) ?_; rotate_left 1; (· intro wx hSw; (try dsimp only at hSw); go_simp; (try with_reducible rfl)))
                      try simp only [Act.put, List.setIfInBounds_toArray, List.set_cons_zero, List.set_cons_succ]
                      (refine wpAnyH_take (i := 10) (oi := ⟨some 101, _, _, _, _, _⟩) (v := ?_) rfl (by kernel_rfl) (by kernel_rfl) (by kernel_rfl) (fun _ _ _ h => h) (Or.inl ⟨by kernel_rfl, ?_⟩) (by assumption) ?_; rotate_left 1; (· intro wx hSw; (try dsimp only at hSw); go_simp; (try with_reducible rfl)))
                      try simp only [Act.put, List.setIfInBounds_toArray, List.set_cons_zero, List.set_cons_succ]
                      refine wpAnyH_ready (rs := [11]) (by kernel_rfl) (by simp) ?_
                      refine AllReadyH.cons (o := ⟨none, _, _, _, _, _⟩) rfl (fun K hK => ?_) AllReadyH.nil
                      go_simp
                      go_wp2_with fail
                      refine hK.out _ _ ?_ (fun hHeld => ?_)
                      · exact (f39 _)
                      clear hK K
                      try simp only [Act.put, List.setIfInBounds_toArray, List.set_cons_zero, List.set_cons_succ]
                      refine wpAnyH_done (by kernel_rfl) ?_ _
                      obtain ⟨A9, c9, t0, t1, t2, t3, tf⟩ := hL.xs.inn.last (o := us2.length * 4) rfl
                      have HL := Lib.hid hL
                      clear hL
                      go_wp2_with fail
                      go_roundg (gk - 1)
                      case measure => omega
                      case rel => exact ⟨_, _, _, _, HL.out.setLast (k2 := 1) (n2 := 0) rfl ⟨#[]⟩ (by omega) (by omega), by simp; omega, by rw [bulkL_append]; simp [bulkL, bulk, ByteArray.size]; omega⟩
                  · go_simp
                    go_wp2_with fail
                    refine hK.out _ _ ?_ (fun hHeld => ?_)
                    · exact (b3 _)
                    clear hK K
                    try simp only [Act.put, List.setIfInBounds_toArray, List.set_cons_zero, List.set_cons_succ]
                    refine wpAnyH_ready (rs := [4, 5]) (by kernel_rfl) (by simp) ?_
                    refine AllReadyH.cons (o := ⟨some 95, _, _, _, _, _⟩) rfl (fun K hK => ?_) (AllReadyH.cons (o := ⟨some 96, _, _, _, _, _⟩) rfl (fun K hK => ?_) AllReadyH.nil)
                    · go_simp
                      go_wp2_with fail
                      refine hK.out _ _ ?_ (fun hHeld => ?_)
                      · exact (by assumption)
                      clear hK K
                      try simp only [Act.put, List.setIfInBounds_toArray, List.set_cons_zero, List.set_cons_succ]
                      (refine wpAnyH_take (i := 6) (oi := ⟨some 97, _, _, _, _, _⟩) (v := ?_) rfl (by kernel_rfl) (by kernel_rfl) (by kernel_rfl) (fun _ _ _ h => h) (Or.inl ⟨by kernel_rfl, ?_⟩) (by assumption) ?_; rotate_left 1; (· intro wx hSw; (try dsimp only at hSw); go_simp; (try with_reducible rfl)))
                      try simp only [Act.put, List.setIfInBounds_toArray, List.set_cons_zero, List.set_cons_succ]
                      refine wpAnyH_ready (rs := [5]) (by kernel_rfl) (by simp) ?_
                      refine AllReadyH.cons (o := ⟨some 96, _, _, _, _, _⟩) rfl (fun K hK => ?_) AllReadyH.nil
                      go_simp
                      go_at_call 9
                      with_reducible refine (nul_new _).mono ?_
                      rintro e w1 ⟨rfl, hb1⟩
                      have hbx : Below wc.heap.size wc w1 := ((Below.refl wc.heap.size wc).drew.alloc (Nat.le_refl _) (.cells #[.int .u8 0, .int .u64 0, .string ⟨#[]⟩, .slice none 0 0] 27)).trans (hb1.mono (by simp))
                      have hs1 := hbx.size
                      have e3 := (hbx.cell (p := ⟨gY, 3, none⟩) hgYl).trans d3
                      have e7 := (hbx.cell (p := ⟨gx, 7, none⟩) hgl).trans s7
                      have a3 := fun o => (far_cell hbx o (p := ⟨gY, 3, none⟩) hgYl).trans d3
                      have a7 := fun o => (far_cell hbx o (p := ⟨gx, 7, none⟩) hgl).trans s7
                      go_wp2_with fail
                      refine hK.out _ _ ?_ (fun hHeld => ?_)
                      · exact e3
                      clear hK K
                      try simp only [Act.put, List.setIfInBounds_toArray, List.set_cons_zero, List.set_cons_succ]
                      refine wpAnyH_ready (rs := [8]) (by kernel_rfl) (by simp) ?_
                      refine AllReadyH.cons (o := ⟨some 99, _, _, _, _, _⟩) rfl (fun K hK => ?_) AllReadyH.nil
                      skip
                      have hbp := hbx
                      have ho1 := own_call hown hbp
                      have hsp := hbp.size
                      refine step_append_lies _ rfl _ _ 25 rfl 0 27 i0 _ 4 56 Tryd.underlying25 hi hz0 hz1 hz2 rfl (by omega) _ _ _ rfl (by exact ho1) ⟨wc.heap.size, 0, none⟩ 1 1 [.int .u8 0, .int .u64 0, .string ⟨#[]⟩, .slice none 0 0] rfl rfl (World.news_of_block (fr := (0, 0)) (cs := #[.int .u8 0, .int .u64 0, .string ⟨#[]⟩, .slice none 0 0]) (t := 27) ((hb1.block wc.heap.size (by simp)).trans (heap_alloc_new wc.drew _))) (fun u hu => (by simp at hu; rcases hu with rfl | rfl | rfl | rfl <;> rfl)) (by omega) (by unfold maxLen; omega) (by omega) (by omega) _ rfl ?_
                      intro g9 cap9 w9 hown9 hgrow9 hat9 hlt9
                      have s39 := (hgrow9.cell_far ⟨gY, 3, none⟩ (Nat.lt_of_lt_of_le hgYl hsp) (fun e => (HP5.out gY e.symm).1.2.2 rfl)).trans ((hbp.cell (p := ⟨gY, 3, none⟩) hgYl).trans d3)
                      have s79 := (hgrow9.cell_far ⟨gx, 7, none⟩ (Nat.lt_of_lt_of_le hgl hsp) (fun e => (HP5.out gx e.symm).2 rfl)).trans ((hbp.cell (p := ⟨gx, 7, none⟩) hgl).trans s7)
                      have sf9 := fun j => (hgrow9.frozen_far ⟨gx, j, none⟩ (Nat.lt_of_lt_of_le hgl hsp) (fun e => (HP5.out gx e.symm).2 rfl)).trans ((World.frozen?_of_block (hbp.block gx hgl)).trans (sf j))
                      have f39 := fun v => ((World.cell?_of_block (a := ⟨gY, 3, none⟩) (Below.heap_setCell w9 ⟨gx, 7, none⟩ v gY (fun e => hgxY e.symm))).trans s39)
                      have hL := HR5.out.push HP5.out HC5.out hbp (k2 := 0) (n2 := 0) (by omega) (by omega) hown9 hgrow9 (at_least hbp hat9) hlt9
                      go_wp2_with fail
                      refine hK.out _ _ ?_ (fun hHeld => ?_)
                      · exact s39
                      clear hK K
                      try simp only [Act.put, List.setIfInBounds_toArray, List.set_cons_zero, List.set_cons_succ]
                      (refine wpAnyH_take (i := 9) (oi := ⟨some 100, _, _, _, _, _⟩) (v := ?_) rfl (by kernel_rfl) (by kernel_rfl) (by kernel_rfl) (fun _ _ _ h => h) (Or.inl ⟨by kernel_rfl, ?_⟩) (by assumption) ?_; rotate_left 1; (· intro wx hSw; (try dsimp only at hSw); go_simp; (try with_reducible rfl)))
                      try simp only [Act.put, List.setIfInBounds_toArray, List.set_cons_zero, List.set_cons_succ]
                      (refine wpAnyH_take (i := 10) (oi := ⟨some 101, _, _, _, _, _⟩) (v := ?_) rfl (by kernel_rfl) (by kernel_rfl) (by kernel_rfl) (fun _ _ _ h => h) (Or.inl ⟨by kernel_rfl, ?_⟩) (by assumption) ?_; rotate_left 1; (· intro wx hSw; (try dsimp only at hSw); go_simp; (try with_reducible rfl)))
                      try simp only [Act.put, List.setIfInBounds_toArray, List.set_cons_zero, List.set_cons_succ]
                      refine wpAnyH_ready (rs := [11]) (by kernel_rfl) (by simp) ?_
                      refine AllReadyH.cons (o := ⟨none, _, _, _, _, _⟩) rfl (fun K hK => ?_) AllReadyH.nil
                      go_simp
                      go_wp2_with fail
                      refine hK.out _ _ ?_ (fun hHeld => ?_)
                      · exact (f39 _)
                      clear hK K
                      try simp only [Act.put, List.setIfInBounds_toArray, List.set_cons_zero, List.set_cons_succ]
                      refine wpAnyH_done (by kernel_rfl) ?_ _
                      obtain ⟨A9, c9, t0, t1, t2, t3, tf⟩ := hL.xs.inn.last (o := us2.length * 4) rfl
                      have HL := Lib.hid hL
                      clear hL
                      go_wp2_with fail
                      go_roundg (gk - 1)
                      case measure => omega
                      case rel => exact ⟨_, _, _, _, HL.out.setLast (k2 := 1) (n2 := 0) rfl ⟨#[]⟩ (by omega) (by omega), by simp; omega, by rw [bulkL_append]; simp [bulkL, bulk, ByteArray.size]; omega⟩
                    · go_simp
                      go_at_call 9
                      with_reducible refine (nul_new _).mono ?_
                      rintro e w1 ⟨rfl, hb1⟩
                      have hbx : Below wc.heap.size wc w1 := ((Below.refl wc.heap.size wc).drew.alloc (Nat.le_refl _) (.cells #[.int .u8 0, .int .u64 0, .string ⟨#[]⟩, .slice none 0 0] 27)).trans (hb1.mono (by simp))
                      have hs1 := hbx.size
                      have e3 := (hbx.cell (p := ⟨gY, 3, none⟩) hgYl).trans d3
                      have e7 := (hbx.cell (p := ⟨gx, 7, none⟩) hgl).trans s7
                      have a3 := fun o => (far_cell hbx o (p := ⟨gY, 3, none⟩) hgYl).trans d3
                      have a7 := fun o => (far_cell hbx o (p := ⟨gx, 7, none⟩) hgl).trans s7
                      go_wp2_with fail
                      refine hK.out _ _ ?_ (fun hHeld => ?_)
                      · exact e3
                      clear hK K
                      try simp only [Act.put, List.setIfInBounds_toArray, List.set_cons_zero, List.set_cons_succ]
                      refine wpAnyH_ready (rs := [4]) (by kernel_rfl) (by simp) ?_
                      refine AllReadyH.cons (o := ⟨some 95, _, _, _, _, _⟩) rfl (fun K hK => ?_) AllReadyH.nil
                      go_simp
                      go_wp2_with fail
                      refine hK.out _ _ ?_ (fun hHeld => ?_)
                      · exact (by assumption)
                      clear hK K
                      try simp only [Act.put, List.setIfInBounds_toArray, List.set_cons_zero, List.set_cons_succ]
                      (refine wpAnyH_take (i := 6) (oi := ⟨some 97, _, _, _, _, _⟩) (v := ?_) rfl (by kernel_rfl) (by kernel_rfl) (by kernel_rfl) (fun _ _ _ h => h) (Or.inl ⟨by kernel_rfl, ?_⟩) (by assumption) ?_; rotate_left 1; (· intro wx hSw; (try dsimp only at hSw); go_simp; (try with_reducible rfl)))
                      try simp only [Act.put, List.setIfInBounds_toArray, List.set_cons_zero, List.set_cons_succ]
                      refine wpAnyH_ready (rs := [8]) (by kernel_rfl) (by simp) ?_
                      refine AllReadyH.cons (o := ⟨some 99, _, _, _, _, _⟩) rfl (fun K hK => ?_) AllReadyH.nil
                      skip
                      have hbp := hbx
                      have ho1 := own_call hown hbp
                      have hsp := hbp.size
                      refine step_append_lies _ rfl _ _ 25 rfl 0 27 i0 _ 4 56 Tryd.underlying25 hi hz0 hz1 hz2 rfl (by omega) _ _ _ rfl (by exact ho1) ⟨wc.heap.size, 0, none⟩ 1 1 [.int .u8 0, .int .u64 0, .string ⟨#[]⟩, .slice none 0 0] rfl rfl (World.news_of_block (fr := (0, 0)) (cs := #[.int .u8 0, .int .u64 0, .string ⟨#[]⟩, .slice none 0 0]) (t := 27) ((hb1.block wc.heap.size (by simp)).trans (heap_alloc_new wc.drew _))) (fun u hu => (by simp at hu; rcases hu with rfl | rfl | rfl | rfl <;> rfl)) (by omega) (by unfold maxLen; omega) (by omega) (by omega) _ rfl ?_
                      intro g9 cap9 w9 hown9 hgrow9 hat9 hlt9
                      have s39 := (hgrow9.cell_far ⟨gY, 3, none⟩ (Nat.lt_of_lt_of_le hgYl hsp) (fun e => (HP5.out gY e.symm).1.2.2 rfl)).trans ((hbp.cell (p := ⟨gY, 3, none⟩) hgYl).trans d3)
                      have s79 := (hgrow9.cell_far ⟨gx, 7, none⟩ (Nat.lt_of_lt_of_le hgl hsp) (fun e => (HP5.out gx e.symm).2 rfl)).trans ((hbp.cell (p := ⟨gx, 7, none⟩) hgl).trans s7)
                      have sf9 := fun j => (hgrow9.frozen_far ⟨gx, j, none⟩ (Nat.lt_of_lt_of_le hgl hsp) (fun e => (HP5.out gx e.symm).2 rfl)).trans ((World.frozen?_of_block (hbp.block gx hgl)).trans (sf j))
                      have f39 := fun v => ((World.cell?_of_block (a := ⟨gY, 3, none⟩) (Below.heap_setCell w9 ⟨gx, 7, none⟩ v gY (fun e => hgxY e.symm))).trans s39)
                      have hL := HR5.out.push HP5.out HC5.out hbp (k2 := 0) (n2 := 0) (by omega) (by omega) hown9 hgrow9 (at_least hbp hat9) hlt9
                      go_wp2_with fail
                      refine hK.out _ _ ?_ (fun hHeld => ?_)
                      · exact s39
                      clear hK K
                      try simp only [Act.put, List.setIfInBounds_toArray, List.set_cons_zero, List.set_cons_succ]
                      (refine wpAnyH_take (i := 9) (oi := ⟨some 100, _, _, _, _, _⟩) (v := ?_) rfl (by kernel_rfl) (by kernel_rfl) (by kernel_rfl) (fun _ _ _ h => h) (Or.inl ⟨by kernel_rfl, ?_⟩) (by assumption) ?_; rotate_left 1; (· intro wx hSw; (try dsimp only at hSw); go_simp; (try with_reducible rfl)))
                      try simp only [Act.put, List.setIfInBounds_toArray, List.set_cons_zero, List.set_cons_succ]
                      (refine wpAnyH_take (i := 10) (oi := ⟨some 101, _, _, _, _, _⟩) (v := ?_) rfl (by kernel_rfl) (by kernel_rfl) (by kernel_rfl) (fun _ _ _ h => h) (Or.inl ⟨by kernel_rfl, ?_⟩) (by assumption) ?_; rotate_left 1; (· intro wx hSw; (try dsimp only at hSw); go_simp; (try with_reducible rfl)))
                      try simp only [Act.put, List.setIfInBounds_toArray, List.set_cons_zero, List.set_cons_succ]
                      refine wpAnyH_ready (rs := [11]) (by kernel_rfl) (by simp) ?_
                      refine AllReadyH.cons (o := ⟨none, _, _, _, _, _⟩) rfl (fun K hK => ?_) AllReadyH.nil
                      go_simp
                      go_wp2_with fail
                      refine hK.out _ _ ?_ (fun hHeld => ?_)
                      · exact (f39 _)
                      clear hK K
                      try simp only [Act.put, List.setIfInBounds_toArray, List.set_cons_zero, List.set_cons_succ]
                      refine wpAnyH_done (by kernel_rfl) ?_ _
                      obtain ⟨A9, c9, t0, t1, t2, t3, tf⟩ := hL.xs.inn.last (o := us2.length * 4) rfl
                      have HL := Lib.hid hL
                      clear hL
                      go_wp2_with fail
                      go_roundg (gk - 1)
                      case measure => omega
                      case rel => exact ⟨_, _, _, _, HL.out.setLast (k2 := 1) (n2 := 0) rfl ⟨#[]⟩ (by omega) (by omega), by simp; omega, by rw [bulkL_append]; simp [bulkL, bulk, ByteArray.size]; omega⟩
                | false =>
                  obtain ⟨ys, hown, hP, hCO⟩ := hR5.xs.inn
                  obtain ⟨i0, hi, hz0, hz1, hz2⟩ := info_parts infoV
                  obtain ⟨d0, d1, d2, d3, df⟩ := hR5.bx.all
                  obtain ⟨s0, s1, s2, s3, s7, sf⟩ := hR5.xs.cells
                  have hgl := hR5.xs.pg.2.1
                  have hgYl := hR5.bx.lt
                  have hgxY : gx ≠ gY := hR5.xs.pg.2.2
                  have HR5 := Lib.hid hR5
                  have HP5 := Lib.hid hP
                  have HC5 := Lib.hid hCO
                  have b3 := fun o => (far_cell (Below.refl wc.heap.size wc).drew o (p := ⟨gY, 3, none⟩) hgYl).trans d3
                  have b7 := fun o => (far_cell (Below.refl wc.heap.size wc).drew o (p := ⟨gx, 7, none⟩) hgl).trans s7
                  clear hR5 hP hCO
                  go_upto_region 19 with fail
                  refine wp_region_held_drew (S := fun wx => wx.cell? ⟨gY, 3, none⟩ = some (.slice (some ⟨gx, 0, none⟩) 2 cX)) (by kernel_rfl) (by exact d3) (fun hHeld => ?_)
                  (refine wpAnyH_take (i := 0) (oi := ⟨some 103, _, _, _, _, _⟩) (v := ?_) rfl (by kernel_rfl) (by kernel_rfl) (by kernel_rfl) (fun _ _ _ h => h) (Or.inl ⟨by kernel_rfl, ?_⟩) (by assumption) ?_; rotate_left 1; (· intro wx hSw; (try dsimp only at hSw); go_simp; (try with_reducible rfl)))
                  try simp only [Act.put, List.setIfInBounds_toArray, List.set_cons_zero, List.set_cons_succ]
                  (refine wpAnyH_take (i := 1) (oi := ⟨some 104, _, _, _, _, _⟩) (v := ?_) rfl (by kernel_rfl) (by kernel_rfl) (by kernel_rfl) (fun _ _ _ h => h) (Or.inl ⟨by kernel_rfl, ?_⟩) (by assumption) ?_; rotate_left 1; (· intro wx hSw; (try dsimp only at hSw); go_simp; (try with_reducible rfl)))
                  try simp only [Act.put, List.setIfInBounds_toArray, List.set_cons_zero, List.set_cons_succ]
                  (refine wpAnyH_take (i := 2) (oi := ⟨some 105, _, _, _, _, _⟩) (v := ?_) rfl (by kernel_rfl) (by kernel_rfl) (by kernel_rfl) (fun _ _ _ h => h) (Or.inl ⟨by kernel_rfl, ?_⟩) (by assumption) ?_; rotate_left 1; (· intro wx hSw; (try dsimp only at hSw); go_simp; (try with_reducible rfl)))
                  try simp only [Act.put, List.setIfInBounds_toArray, List.set_cons_zero, List.set_cons_succ]
                  (refine wpAnyH_take (i := 3) (oi := ⟨some 106, _, _, _, _, _⟩) (v := ?_) rfl (by kernel_rfl) (by kernel_rfl) (by kernel_rfl) (fun _ _ _ h => h) (Or.inl ⟨by kernel_rfl, ?_⟩) (by assumption) ?_; rotate_left 1; (· intro wx hSw; (try dsimp only at hSw); go_simp; (try with_reducible rfl)))
                  try simp only [Act.put, List.setIfInBounds_toArray, List.set_cons_zero, List.set_cons_succ]
                  (refine wpAnyH_take (i := 4) (oi := ⟨some 107, _, _, _, _, _⟩) (v := ?_) rfl (by kernel_rfl) (by kernel_rfl) (by kernel_rfl) (fun _ _ _ h => h) (Or.inl ⟨by kernel_rfl, ?_⟩) (by assumption) ?_; rotate_left 1; (· intro wx hSw; (try dsimp only at hSw); go_simp; (try with_reducible rfl)))
                  try simp only [Act.put, List.setIfInBounds_toArray, List.set_cons_zero, List.set_cons_succ]
                  (refine wpAnyH_take (i := 5) (oi := ⟨some 108, _, _, _, _, _⟩) (v := ?_) rfl (by kernel_rfl) (by kernel_rfl) (by kernel_rfl) (fun _ _ _ h => h) (Or.inl ⟨by kernel_rfl, ?_⟩) (by assumption) ?_; rotate_left 1; (· intro wx hSw; (try dsimp only at hSw); go_simp; (try with_reducible rfl)))
                  try simp only [Act.put, List.setIfInBounds_toArray, List.set_cons_zero, List.set_cons_succ]
                  refine wpAnyH_ready (rs := [6, 7]) (by kernel_rfl) (by simp) ?_
                  refine AllReadyH.cons (o := ⟨some 109, _, _, _, _, _⟩) rfl (fun K hK => ?_) (AllReadyH.cons (o := ⟨some 110, _, _, _, _, _⟩) rfl (fun K hK => ?_) AllReadyH.nil)
                  · go_simp
                    go_wp2_with fail
                    refine hK.out _ _ ?_ (fun hHeld => ?_)
                    · exact (by assumption)
                    clear hK K
                    try simp only [Act.put, List.setIfInBounds_toArray, List.set_cons_zero, List.set_cons_succ]
                    refine wpAnyH_ready (rs := [7]) (by kernel_rfl) (by simp) ?_
                    refine AllReadyH.cons (o := ⟨some 110, _, _, _, _, _⟩) rfl (fun K hK => ?_) AllReadyH.nil
                    go_simp
                    go_at_call 9
                    with_reducible refine (nul_new _).mono ?_
                    rintro e w1 ⟨rfl, hb1⟩
                    have hbx : Below wc.heap.size wc w1 := ((Below.refl _ _).drew).trans hb1
                    have hs1 := hbx.size
                    have e3 := (hbx.cell (p := ⟨gY, 3, none⟩) hgYl).trans d3
                    have e7 := (hbx.cell (p := ⟨gx, 7, none⟩) hgl).trans s7
                    have a3 := fun o => (far_cell hbx o (p := ⟨gY, 3, none⟩) hgYl).trans d3
                    have a7 := fun o => (far_cell hbx o (p := ⟨gx, 7, none⟩) hgl).trans s7
                    go_wp2_with fail
                    refine hK.out _ _ ?_ (fun hHeld => ?_)
                    · exact e3
                    clear hK K
                    try simp only [Act.put, List.setIfInBounds_toArray, List.set_cons_zero, List.set_cons_succ]
                    refine wpAnyH_ready (rs := [8]) (by kernel_rfl) (by simp) ?_
                    refine AllReadyH.cons (o := ⟨some 111, _, _, _, _, _⟩) rfl (fun K hK => ?_) AllReadyH.nil
                    go_simp
                    go_wp2_with fail
                    refine hK.out _ _ ?_ (fun hHeld => ?_)
                    · exact (a3 _)
                    clear hK K
                    try simp only [Act.put, List.setIfInBounds_toArray, List.set_cons_zero, List.set_cons_succ]
                    refine wpAnyH_ready (rs := [9]) (by kernel_rfl) (by simp) ?_
                    refine AllReadyH.cons (o := ⟨some 112, _, _, _, _, _⟩) rfl (fun K hK => ?_) AllReadyH.nil
                    skip
                    have hbp : Below wc.heap.size wc (w1.alloc (.cells #[.int .u8 1, .int .u64 0, .string ⟨#[]⟩, .slice none 0 0] 27)) := hbx.alloc hbx.size _
                    have ho1 := own_call hown hbp
                    have hsp := hbp.size
                    refine step_append_lies _ rfl _ _ 25 rfl 0 27 i0 _ 4 56 Tryd.underlying25 hi hz0 hz1 hz2 rfl (by omega) _ _ _ rfl (by exact ho1) ⟨w1.heap.size, 0, none⟩ 1 1 [.int .u8 1, .int .u64 0, .string ⟨#[]⟩, .slice none 0 0] rfl rfl (by exact Val.news4 _ _ _ _ _ _ _ rfl) (fun u hu => (by simp at hu; rcases hu with rfl | rfl | rfl | rfl <;> rfl)) (by omega) (by unfold maxLen; omega) (by omega) (by omega) _ rfl ?_
                    intro g9 cap9 w9 hown9 hgrow9 hat9 hlt9
                    have s39 := (hgrow9.cell_far ⟨gY, 3, none⟩ (Nat.lt_of_lt_of_le hgYl hsp) (fun e => (HP5.out gY e.symm).1.2.2 rfl)).trans ((hbp.cell (p := ⟨gY, 3, none⟩) hgYl).trans d3)
                    have s79 := (hgrow9.cell_far ⟨gx, 7, none⟩ (Nat.lt_of_lt_of_le hgl hsp) (fun e => (HP5.out gx e.symm).2 rfl)).trans ((hbp.cell (p := ⟨gx, 7, none⟩) hgl).trans s7)
                    have sf9 := fun j => (hgrow9.frozen_far ⟨gx, j, none⟩ (Nat.lt_of_lt_of_le hgl hsp) (fun e => (HP5.out gx e.symm).2 rfl)).trans ((World.frozen?_of_block (hbp.block gx hgl)).trans (sf j))
                    have f39 := fun v => ((World.cell?_of_block (a := ⟨gY, 3, none⟩) (Below.heap_setCell w9 ⟨gx, 7, none⟩ v gY (fun e => hgxY e.symm))).trans s39)
                    have hL := HR5.out.push HP5.out HC5.out hbp (k2 := 1) (n2 := 0) (by omega) (by omega) hown9 hgrow9 (at_least hbp hat9) hlt9
                    go_wp2_with fail
                    refine hK.out _ _ ?_ (fun hHeld => ?_)
                    · exact s39
                    clear hK K
                    try simp only [Act.put, List.setIfInBounds_toArray, List.set_cons_zero, List.set_cons_succ]
                    (refine wpAnyH_take (i := 10) (oi := ⟨some 113, _, _, _, _, _⟩) (v := ?_) rfl (by kernel_rfl) (by kernel_rfl) (by kernel_rfl) (fun _ _ _ h => h) (Or.inl ⟨by kernel_rfl, ?_⟩) (by assumption) ?_; rotate_left 1; (· intro wx hSw; (try dsimp only at hSw); go_simp; (try with_reducible rfl)))
                    try simp only [Act.put, List.setIfInBounds_toArray, List.set_cons_zero, List.set_cons_succ]
                    (refine wpAnyH_take (i := 11) (oi := ⟨some 114, _, _, _, _, _⟩) (v := ?_) rfl (by kernel_rfl) (by kernel_rfl) (by kernel_rfl) (fun _ _ _ h => h) (Or.inl ⟨by kernel_rfl, ?_⟩) (by assumption) ?_; rotate_left 1; (· intro wx hSw; (try dsimp only at hSw); go_simp; (try with_reducible rfl)))
                    try simp only [Act.put, List.setIfInBounds_toArray, List.set_cons_zero, List.set_cons_succ]
                    refine wpAnyH_ready (rs := [12]) (by kernel_rfl) (by simp) ?_
                    refine AllReadyH.cons (o := ⟨none, _, _, _, _, _⟩) rfl (fun K hK => ?_) AllReadyH.nil
                    go_simp
                    go_wp2_with fail
                    refine hK.out _ _ ?_ (fun hHeld => ?_)
                    · exact (f39 _)
                    clear hK K
                    try simp only [Act.put, List.setIfInBounds_toArray, List.set_cons_zero, List.set_cons_succ]
                    refine wpAnyH_done (by kernel_rfl) ?_ _
                    go_wp2_with fail
                    go_roundg (gk - 1)
                    case measure => omega
                    case rel => exact ⟨_, _, _, _, hL, by simp; omega, by rw [bulkL_append]; simp [bulkL, bulk, ByteArray.size]; omega⟩
                  · go_simp
                    go_at_call 9
                    with_reducible refine (nul_new _).mono ?_
                    rintro e w1 ⟨rfl, hb1⟩
                    have hbx : Below wc.heap.size wc w1 := ((Below.refl _ _).drew).trans hb1
                    have hs1 := hbx.size
                    have e3 := (hbx.cell (p := ⟨gY, 3, none⟩) hgYl).trans d3
                    have e7 := (hbx.cell (p := ⟨gx, 7, none⟩) hgl).trans s7
                    have a3 := fun o => (far_cell hbx o (p := ⟨gY, 3, none⟩) hgYl).trans d3
                    have a7 := fun o => (far_cell hbx o (p := ⟨gx, 7, none⟩) hgl).trans s7
                    go_wp2_with fail
                    refine hK.out _ _ ?_ (fun hHeld => ?_)
                    · exact e3
                    clear hK K
                    try simp only [Act.put, List.setIfInBounds_toArray, List.set_cons_zero, List.set_cons_succ]
                    refine wpAnyH_ready (rs := [6, 8]) (by kernel_rfl) (by simp) ?_
                    refine AllReadyH.cons (o := ⟨some 109, _, _, _, _, _⟩) rfl (fun K hK => ?_) (AllReadyH.cons (o := ⟨some 111, _, _, _, _, _⟩) rfl (fun K hK => ?_) AllReadyH.nil)
                    · go_simp
                      go_wp2_with fail
                      refine hK.out _ _ ?_ (fun hHeld => ?_)
                      · exact (by assumption)
                      clear hK K
                      try simp only [Act.put, List.setIfInBounds_toArray, List.set_cons_zero, List.set_cons_succ]
                      refine wpAnyH_ready (rs := [8]) (by kernel_rfl) (by simp) ?_
                      refine AllReadyH.cons (o := ⟨some 111, _, _, _, _, _⟩) rfl (fun K hK => ?_) AllReadyH.nil
                      go_simp
                      go_wp2_with fail
                      refine hK.out _ _ ?_ (fun hHeld => ?_)
                      · exact (a3 _)
                      clear hK K
                      try simp only [Act.put, List.setIfInBounds_toArray, List.set_cons_zero, List.set_cons_succ]
                      refine wpAnyH_ready (rs := [9]) (by kernel_rfl) (by simp) ?_
                      refine AllReadyH.cons (o := ⟨some 112, _, _, _, _, _⟩) rfl (fun K hK => ?_) AllReadyH.nil
                      skip
                      have hbp : Below wc.heap.size wc (w1.alloc (.cells #[.int .u8 1, .int .u64 0, .string ⟨#[]⟩, .slice none 0 0] 27)) := hbx.alloc hbx.size _
                      have ho1 := own_call hown hbp
                      have hsp := hbp.size
                      refine step_append_lies _ rfl _ _ 25 rfl 0 27 i0 _ 4 56 Tryd.underlying25 hi hz0 hz1 hz2 rfl (by omega) _ _ _ rfl (by exact ho1) ⟨w1.heap.size, 0, none⟩ 1 1 [.int .u8 1, .int .u64 0, .string ⟨#[]⟩, .slice none 0 0] rfl rfl (by exact Val.news4 _ _ _ _ _ _ _ rfl) (fun u hu => (by simp at hu; rcases hu with rfl | rfl | rfl | rfl <;> rfl)) (by omega) (by unfold maxLen; omega) (by omega) (by omega) _ rfl ?_
                      intro g9 cap9 w9 hown9 hgrow9 hat9 hlt9
                      have s39 := (hgrow9.cell_far ⟨gY, 3, none⟩ (Nat.lt_of_lt_of_le hgYl hsp) (fun e => (HP5.out gY e.symm).1.2.2 rfl)).trans ((hbp.cell (p := ⟨gY, 3, none⟩) hgYl).trans d3)
                      have s79 := (hgrow9.cell_far ⟨gx, 7, none⟩ (Nat.lt_of_lt_of_le hgl hsp) (fun e => (HP5.out gx e.symm).2 rfl)).trans ((hbp.cell (p := ⟨gx, 7, none⟩) hgl).trans s7)
                      have sf9 := fun j => (hgrow9.frozen_far ⟨gx, j, none⟩ (Nat.lt_of_lt_of_le hgl hsp) (fun e => (HP5.out gx e.symm).2 rfl)).trans ((World.frozen?_of_block (hbp.block gx hgl)).trans (sf j))
                      have f39 := fun v => ((World.cell?_of_block (a := ⟨gY, 3, none⟩) (Below.heap_setCell w9 ⟨gx, 7, none⟩ v gY (fun e => hgxY e.symm))).trans s39)
                      have hL := HR5.out.push HP5.out HC5.out hbp (k2 := 1) (n2 := 0) (by omega) (by omega) hown9 hgrow9 (at_least hbp hat9) hlt9
                      go_wp2_with fail
                      refine hK.out _ _ ?_ (fun hHeld => ?_)
                      · exact s39
                      clear hK K
                      try simp only [Act.put, List.setIfInBounds_toArray, List.set_cons_zero, List.set_cons_succ]
                      (refine wpAnyH_take (i := 10) (oi := ⟨some 113, _, _, _, _, _⟩) (v := ?_) rfl (by kernel_rfl) (by kernel_rfl) (by kernel_rfl) (fun _ _ _ h => h) (Or.inl ⟨by kernel_rfl, ?_⟩) (by assumption) ?_; rotate_left 1; (· intro wx hSw; (try dsimp only at hSw); go_simp; (try with_reducible rfl)))
                      try simp only [Act.put, List.setIfInBounds_toArray, List.set_cons_zero, List.set_cons_succ]
                      (refine wpAnyH_take (i := 11) (oi := ⟨some 114, _, _, _, _, _⟩) (v := ?_) rfl (by kernel_rfl) (by kernel_rfl) (by kernel_rfl) (fun _ _ _ h => h) (Or.inl ⟨by kernel_rfl, ?_⟩) (by assumption) ?_; rotate_left 1; (· intro wx hSw; (try dsimp only at hSw); go_simp; (try with_reducible rfl)))
                      try simp only [Act.put, List.setIfInBounds_toArray, List.set_cons_zero, List.set_cons_succ]
                      refine wpAnyH_ready (rs := [12]) (by kernel_rfl) (by simp) ?_
                      refine AllReadyH.cons (o := ⟨none, _, _, _, _, _⟩) rfl (fun K hK => ?_) AllReadyH.nil
                      go_simp
                      go_wp2_with fail
                      refine hK.out _ _ ?_ (fun hHeld => ?_)
                      · exact (f39 _)
                      clear hK K
                      try simp only [Act.put, List.setIfInBounds_toArray, List.set_cons_zero, List.set_cons_succ]
                      refine wpAnyH_done (by kernel_rfl) ?_ _
                      go_wp2_with fail
                      go_roundg (gk - 1)
                      case measure => omega
                      case rel => exact ⟨_, _, _, _, hL, by simp; omega, by rw [bulkL_append]; simp [bulkL, bulk, ByteArray.size]; omega⟩
                    · go_simp
                      go_wp2_with fail
                      refine hK.out _ _ ?_ (fun hHeld => ?_)
                      · exact (a3 _)
                      clear hK K
                      try simp only [Act.put, List.setIfInBounds_toArray, List.set_cons_zero, List.set_cons_succ]
                      refine wpAnyH_ready (rs := [6]) (by kernel_rfl) (by simp) ?_
                      refine AllReadyH.cons (o := ⟨some 109, _, _, _, _, _⟩) rfl (fun K hK => ?_) AllReadyH.nil
                      go_simp
                      go_wp2_with fail
                      refine hK.out _ _ ?_ (fun hHeld => ?_)
                      · exact (by assumption)
                      clear hK K
                      try simp only [Act.put, List.setIfInBounds_toArray, List.set_cons_zero, List.set_cons_succ]
                      refine wpAnyH_ready (rs := [9]) (by kernel_rfl) (by simp) ?_
                      refine AllReadyH.cons (o := ⟨some 112, _, _, _, _, _⟩) rfl (fun K hK => ?_) AllReadyH.nil
                      skip
                      have hbp : Below wc.heap.size wc (w1.alloc (.cells #[.int .u8 1, .int .u64 0, .string ⟨#[]⟩, .slice none 0 0] 27)) := hbx.alloc hbx.size _
                      have ho1 := own_call hown hbp
                      have hsp := hbp.size
                      refine step_append_lies _ rfl _ _ 25 rfl 0 27 i0 _ 4 56 Tryd.underlying25 hi hz0 hz1 hz2 rfl (by omega) _ _ _ rfl (by exact ho1) ⟨w1.heap.size, 0, none⟩ 1 1 [.int .u8 1, .int .u64 0, .string ⟨#[]⟩, .slice none 0 0] rfl rfl (by exact Val.news4 _ _ _ _ _ _ _ rfl) (fun u hu => (by simp at hu; rcases hu with rfl | rfl | rfl | rfl <;> rfl)) (by omega) (by unfold maxLen; omega) (by omega) (by omega) _ rfl ?_
                      intro g9 cap9 w9 hown9 hgrow9 hat9 hlt9
                      have s39 := (hgrow9.cell_far ⟨gY, 3, none⟩ (Nat.lt_of_lt_of_le hgYl hsp) (fun e => (HP5.out gY e.symm).1.2.2 rfl)).trans ((hbp.cell (p := ⟨gY, 3, none⟩) hgYl).trans d3)
                      have s79 := (hgrow9.cell_far ⟨gx, 7, none⟩ (Nat.lt_of_lt_of_le hgl hsp) (fun e => (HP5.out gx e.symm).2 rfl)).trans ((hbp.cell (p := ⟨gx, 7, none⟩) hgl).trans s7)
                      have sf9 := fun j => (hgrow9.frozen_far ⟨gx, j, none⟩ (Nat.lt_of_lt_of_le hgl hsp) (fun e => (HP5.out gx e.symm).2 rfl)).trans ((World.frozen?_of_block (hbp.block gx hgl)).trans (sf j))
                      have f39 := fun v => ((World.cell?_of_block (a := ⟨gY, 3, none⟩) (Below.heap_setCell w9 ⟨gx, 7, none⟩ v gY (fun e => hgxY e.symm))).trans s39)
                      have hL := HR5.out.push HP5.out HC5.out hbp (k2 := 1) (n2 := 0) (by omega) (by omega) hown9 hgrow9 (at_least hbp hat9) hlt9
                      go_wp2_with fail
                      refine hK.out _ _ ?_ (fun hHeld => ?_)
                      · exact s39
                      clear hK K
                      try simp only [Act.put, List.setIfInBounds_toArray, List.set_cons_zero, List.set_cons_succ]
                      (refine wpAnyH_take (i := 10) (oi := ⟨some 113, _, _, _, _, _⟩) (v := ?_) rfl (by kernel_rfl) (by kernel_rfl) (by kernel_rfl) (fun _ _ _ h => h) (Or.inl ⟨by kernel_rfl, ?_⟩) (by assumption) ?_; rotate_left 1; (· intro wx hSw; (try dsimp only at hSw); go_simp; (try with_reducible rfl)))
                      try simp only [Act.put, List.setIfInBounds_toArray, List.set_cons_zero, List.set_cons_succ]
                      (refine wpAnyH_take (i := 11) (oi := ⟨some 114, _, _, _, _, _⟩) (v := ?_) rfl (by kernel_rfl) (by kernel_rfl) (by kernel_rfl) (fun _ _ _ h => h) (Or.inl ⟨by kernel_rfl, ?_⟩) (by assumption) ?_; rotate_left 1; (· intro wx hSw; (try dsimp only at hSw); go_simp; (try with_reducible rfl)))
                      try simp only [Act.put, List.setIfInBounds_toArray, List.set_cons_zero, List.set_cons_succ]
                      refine wpAnyH_ready (rs := [12]) (by kernel_rfl) (by simp) ?_
                      refine AllReadyH.cons (o := ⟨none, _, _, _, _, _⟩) rfl (fun K hK => ?_) AllReadyH.nil
                      go_simp
                      go_wp2_with fail
                      refine hK.out _ _ ?_ (fun hHeld => ?_)
                      · exact (f39 _)
                      clear hK K
                      try simp only [Act.put, List.setIfInBounds_toArray, List.set_cons_zero, List.set_cons_succ]
                      refine wpAnyH_done (by kernel_rfl) ?_ _
                      go_wp2_with fail
                      go_roundg (gk - 1)
                      case measure => omega
                      case rel => exact ⟨_, _, _, _, hL, by simp; omega, by rw [bulkL_append]; simp [bulkL, bulk, ByteArray.size]; omega⟩
            · have h4 : us2.length = 4 := by omega
              have hdl : decide ((us2.length : Int) < 4) = false := decide_eq_false (by omega)
              have HGA := Lib.hid (get_long_any (d := 34 + k) (by omega) (by omega) _ _ _ _ HR.out.xs.kd (HT.out.call HR.out.ns.low))
              clear hlt
              go_wp2_with fail
              (with_reducible refine HGA.out.mono ?_)
              rintro e w12 ⟨rfl, hb12⟩
              have HR2 := Lib.hid ((HR.out.call hb12).alloc (.cells #[.int .u8 0, .int .u64 0, .int .u64 0, .string ⟨#[]⟩] 24))
              clear hb12 HGA HR d0 d1 d2 d3 df s0 s1 s2 s3 s7 sf
              have HC := Lib.hid (HCP.out A1 c1 _ (HR2.out.ns.kv.mono fun i hi => by have := HR2.out.ns.le; omega))
              obtain ⟨y0, y1, y2, y3, yf⟩ := HR2.out.ns.bv.all
              obtain ⟨d0, d1, d2, d3, df⟩ := HR2.out.bx.all
              have hgY := HR2.out.bx.lt
              have hgE := HR2.out.ge
              go_wp2_with fail
              obtain ⟨Q, hQ, hQ5⟩ : ∃ Q : Nat, (1 + (q : Int) % 5) = (Q : Int) ∧ Q ≤ 5 := ⟨1 + q % 5, by omega, by omega⟩
              rw [hQ]
              (with_reducible refine HC.out.mono ?_)
              rintro e w13 ⟨A5, l5, c5, rfl, hO, hb13⟩
              clear HC y0 y1 y2 y3 yf
              have hz13 := hb13.size
              have HR3 := Lib.hid (HR2.out.call hb13)
              obtain ⟨g5, A6, c6, A7, l7, c7, rfl, rfl, hX13⟩ := XS.of hO fun i hi => hi.2
              have hB14 : Box (set4 w13 gY 0 (.int .u8 25) (.int .u64 0) (.string ⟨#[]⟩) (.slice (some ⟨g5, 0, none⟩) 2 c5)) gY (.int .u8 25) (.int .u64 0) (.string ⟨#[]⟩) (.slice (some ⟨g5, 0, none⟩) 2 c5) := box_set4 HR3.out.bx _ _ _ _
              have hS14 := HR3.out.ns.off (w' := set4 w13 gY 0 (.int .u8 25) (.int .u64 0) (.string ⟨#[]⟩) (.slice (some ⟨g5, 0, none⟩) 2 c5)) (fun i hi => set4_block _ _ _ _ _ _ _ (by omega)) (set4_below (Below.refl _ _) hgE _ _ _ _)
              have hX14 := hX13.keep (w' := set4 w13 gY 0 (.int .u8 25) (.int .u64 0) (.string ⟨#[]⟩) (.slice (some ⟨g5, 0, none⟩) 2 c5)) (fun i hi => set4_block _ _ _ _ _ _ _ (by have := hi.1; omega)) (by rw [set4_size]; exact Nat.le_refl _)
              obtain ⟨d0, d1, d2, d3, df⟩ := HR3.out.bx.all
              have HS14 := Lib.hid hS14
              have HX14 := Lib.hid hX14
              have HB14 := Lib.hid hB14
              have hg5 := hX14.pg
              clear hO hX13 hb13 HR2 HR3 hS14 hX14 hB14
              go_upto_region 23 with fail
              obtain ⟨w14, hw14⟩ : ∃ w14, w14 = ((((w13.setCell ⟨gY, 0, none⟩ (.int .u8 25)).setCell ⟨gY, 1, none⟩ (.int .u64 0)).setCell ⟨gY, 2, none⟩ (.string ⟨#[]⟩)).setCell ⟨gY, 3, none⟩ (.slice (some ⟨g5, 0, none⟩) 2 c5)) := ⟨_, rfl⟩
              have hw14' : w14 = set4 w13 gY 0 (.int .u8 25) (.int .u64 0) (.string ⟨#[]⟩) (.slice (some ⟨g5, 0, none⟩) 2 c5) := hw14
              rw [← hw14'] at HS14 HX14 HB14
              rw [← hw14]
              have hz14 : w14.heap.size = w13.heap.size := by rw [hw14]; simp
              have HW14 := Lib.hid hw14
              clear hw14 hw14' d0 d1 d2 d3 df
              obtain ⟨d0, d1, d2, d3, df⟩ := HB14.out.all
              obtain ⟨s0, s1, s2, s3, s7, sf⟩ := HX14.out.cells
              have hcx5 := HX14.out.cap
              have hle14 := HS14.out.le
              have hwr1 : IntKind.u64.wrap (Q : Int) = (Q : Int) := wrap64 (by omega) (by omega)
              have hwr2 : IntKind.u64.wrap (34 + (Q : Int)) = 34 + (Q : Int) := wrap64 (by omega) (by omega)
              go_cut [13] (fun s13 wx => s13 = .pointer (some ⟨gY, 0, none⟩) ∧ Below w.heap.size w wx ∧ Box wx gY (.int .u8 25) (.int .u64 0) (.string ⟨#[]⟩) (.slice (some ⟨g5, 0, none⟩) 2 c5) ∧ Kd wx [.mk 6 (34 + Q) ⟨#[]⟩ [], .mk 22 0 ⟨#[]⟩ us] (some ⟨g5, 0, none⟩) 2 c5)
              case first =>
                go_region_with (first
                  | (go_at_call 10; (with_reducible refine (num_code Q _).mono ?_); rintro e w4 ⟨rfl, hb4⟩; have HS4 := Lib.hid (HS14.out.call (((Below.refl _ _).drew).trans hb4)); have HX4 := Lib.hid (HX14.out.call (((Below.refl _ _).drew).trans hb4)); have HB4 := Lib.hid (HB14.out.call (((Below.refl _ _).drew).trans hb4)); have hsz4 := hb4.size; clear hb4 s0 s1 s2 s3 s7 sf; obtain ⟨s0, s1, s2, s3, s7, sf⟩ := HX4.out.cells; obtain ⟨e0, e1, e2, e3, ef⟩ := HB4.out.all)
                  | fail)
                all_goals
                  go_wp2_with fail
                  go_meet
                  exact ⟨rfl, set4_below HS4.out.low (by have := hg5.1; omega) _ _ _ _, (set4_block _ _ _ _ _ _ _ (by have := hg5.1; omega)).trans HB4.out, (HX4.out.set0 (k := 6) (n := 34 + Q) ⟨#[]⟩ (by omega) (by omega)).kd⟩
              case rest =>
                obtain ⟨rfl, hb15, hB15, hK15⟩ := hcut
                clear d0 d1 d2 d3 df s0 s1 s2 s3 s7 sf HS14 HX14 HB14 HW14
                have HGA := Lib.hid (get_code_any Q us (by have := HU.out; omega) _ _ _ _ hK15 (HT.out.call hb15))
                obtain ⟨d0, d1, d2, d3, df⟩ := hB15.all
                have HB15 := Lib.hid hb15
                clear hb15 hB15 hK15
                go_wp2_with fail
                (with_reducible refine HGA.out.mono ?_)
                rintro e w16 ⟨x, y, z, st, er, rfl, her, hb16⟩
                have HB16 := Lib.hid ((below_next HB15.out hb16).alloc (by have := HB15.out.size; have := hb16.size; omega) (.cells #[.int .u8 (x : Int), .int .u64 (y : Int), .int .u64 (z : Int), .string st] 24))
                clear hb16 HGA d0 d1 d2 d3 df
                rcases her with ⟨rfl, rfl⟩ | rfl
                all_goals
                  go_wp2_with fail
                  (with_reducible refine (works8_any _ (HT.out.call HB16.out)).mono ?_)
                  rintro e w17 ⟨rfl, hb17⟩
                  go_wp2_with fail
                  go_ret
                  exact ⟨rfl, below_next HB16.out hb17⟩
end Go.Proofs.YtohmnbefokhjpaaDoor.outcomeNames
