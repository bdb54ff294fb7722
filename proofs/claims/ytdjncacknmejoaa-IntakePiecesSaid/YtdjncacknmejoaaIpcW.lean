/-
  The statement IntakePieces, walked: it answers true. Memory that was there stays. No condition.
-/
import Derived.Test.YtdjncacknmejoaaIto
import Derived.Test.YtdjncacknmejoaaIar
namespace Go.Proofs.Ytdjncacknmejoaa.intakePieces
set_option maxRecDepth 100000
open Go.RowKit Go.Proofs.Ytdjncacknmejoaa.Utf Go.Proofs.Ytdjncacknmejoaa.Enc Go.Proofs.Ytdjncacknmejoaa.Fr Go.Proofs.Ytdjncacknmejoaa.It

theorem evs_inv {m k ch : Nat} {went : Bool} {R bd : List Nat} {t : List Ev} (h : evs m went R = (k, ch, bd) :: t) :
    (k = 1 ∧ ch = 0 ∧ bd = [] ∧ went = false ∧ 8 ≤ R.length ∧ R.take 8 = hdr ∧ t = evs m true (R.drop 8)) ∨
    (k = 2 ∧ ch = chF R ∧ bd = bodyF R ∧ went = true ∧ erF R m = 0 ∧ t = evs m went (R.drop (nF R))) ∨ (k = 3 ∧ ch = 0 ∧ bd = [] ∧ t = []) := by
  rcases kind_cases ⟨m, R, false, went⟩ with h0 | h0 | h0 | h0
  · rw [evs_none h0] at h; cases h
  · rw [evs_header h0] at h
    have hk := kind_header h0
    injection h with h1 h2
    injection h1 with h1 h3
    injection h3 with h3 h4
    exact .inl ⟨h1.symm, h3.symm, h4.symm, hk.2.1, hk.2.2.1, hk.2.2.2, h2.symm⟩
  · rw [evs_frame h0] at h
    have hk := kind_frame h0
    injection h with h1 h2
    injection h1 with h1 h3
    injection h3 with h3 h4
    exact .inr (.inl ⟨h1.symm, h3.symm, h4.symm, hk.2.1, hk.2.2, h2.symm⟩)
  · rw [evs_bad h0] at h
    injection h with h1 h2
    injection h1 with h1 h3
    injection h3 with h3 h4
    exact .inr (.inr ⟨h1.symm, h3.symm, h4.symm, h2.symm⟩)
theorem walk_long (size N c : Nat) (A : Option Addr) (P1 P2 : Option Addr) (n1 k1 n2 k2 : Nat) (w : World) (h : 8192 < N) :
    Calls Try.prog 4 #[.int .u16 (size : Int), .slice A N c, .slice P1 n1 k1, .slice P2 n2 k2] w fun e w' => e = .returned (.bool true) ∧ Below w.heap.size w w' := by
  have d : decide (8192 < (N : Int)) = true := by simp; omega
  clear h
  go_enter Try.func4, Try.ntmps4
  go_wp2_with (go_at_call 10; (with_reducible refine (works12_any _).mono ?_); rintro e w1 ⟨rfl, hb1⟩)
  go_ret
  exact ⟨rfl, hb1⟩
/-- An event of the rows, in memory. -/
theorem KF.at {w : World} {base n c1 c2 j k ch : Nat} {A1 A2 : Option Addr} {E : List Ev} {bd : List Nat} (h : KF w base A1 n c1 A2 c2 E) (hj : j < n) (hE : E[j]? = some (k, ch, bd)) :
    ∃ b1 o1 g B m d, A1 = some ⟨b1, o1, none⟩ ∧ A2 = some ⟨g, 0, none⟩ ∧ w.cell? ⟨b1, o1 + j, none⟩ = some (.int .u8 (k : Int)) ∧ w.cell? ⟨g, j * 2, none⟩ = some (.int .u16 (ch : Int)) ∧ w.cell? ⟨g, j * 2 + 1, none⟩ = some (.slice B m d) ∧ Rd .u8 256 w w.heap.size B m bd ∧ k < 256 ∧ b1 < w.heap.size ∧ g < w.heap.size := by
  obtain ⟨b1, o1, c, e1, hb1, hl, hc, hcell⟩ := h.kin.rd.at_ hj
  rw [List.getElem?_map, hE] at hl
  injection hl with hl
  subst hl
  obtain ⟨g, q, B, m, d, e2, hq, hc0, hc1, _, hr, _, hg⟩ := h.frs.at hj
  rw [List.getElem?_map, hE] at hq
  injection hq with hq
  subst hq
  exact ⟨b1, o1, g, B, m, d, e1, e2, hcell, hc0, hc1, hr, hc, hb1, hg⟩
set_option maxHeartbeats 4000000 in
theorem walk_main (size N c : Nat) (A : Option Addr) (b : List Nat) (P1 P2 : Option Addr) (n1 k1 n2 k2 : Nat) (ps1 ps2 : List Nat) (w : World) (hs : size < 65536) (hr : Rd .u8 256 w w.heap.size A N b) (hNc : N ≤ c) (hp1 : Rd .u16 65536 w w.heap.size P1 n1 ps1) (hp2 : Rd .u16 65536 w w.heap.size P2 n2 ps2) (hN : N ≤ 8192) :
    Calls Try.prog 4 #[.int .u16 (size : Int), .slice A N c, .slice P1 n1 k1, .slice P2 n2 k2] w fun e w' => e = .returned (.bool true) ∧ Below w.heap.size w w' := by
  have d : decide (8192 < (N : Int)) = false := by simp; omega
  obtain ⟨q, hq⟩ : ∃ q, size % 3585 = q := ⟨_, rfl⟩
  have K0 : IntKind.u32.wrap (size : Int) = (size : Int) := by simp only [IntKind.wrap, IntKind.bits, IntKind.signed]; simp; omega
  have K1 : (size : Int).tmod 3585 = (q : Int) := by rw [← hq]; exact Int.ofNat_tmod size 3585
  have K2 : (size : Int) % 3585 = (q : Int) := by omega
  have hq2 : q < 3585 := by omega
  obtain ⟨M, hM⟩ : ∃ M, 512 + q = M := ⟨_, rfl⟩
  have K5 : 512 + (q : Int) = (M : Int) := by omega
  have K3 : IntKind.u32.wrap (512 + (q : Int)) = (M : Int) := by rw [K5]; simp only [IntKind.wrap, IntKind.bits, IntKind.signed]; simp; omega
  have K6 : IntKind.u32.wrap (q : Int) = (q : Int) := by simp only [IntKind.wrap, IntKind.bits, IntKind.signed]; simp; omega
  have hM1 : 512 ≤ M := by omega
  have hM2 : M ≤ 4096 := by omega
  have HR := Lib.hid hr
  have HP1 := Lib.hid hp1
  have HP2 := Lib.hid hp2
  have HNEW : Hid (∀ wx, Calls Try.prog 11 #[.int .u32 (M : Int)] wx (GivesNew M wx)) := Lib.hid fun wx => new_yes M wx hM1 hM2
  clear hq hM hr hp1 hp2
  go_enter Try.func4, Try.ntmps4
  go_wp2_with fail
  (with_reducible refine (HNEW.out _).mono ?_)
  rintro e w1 ⟨gx, hx, rfl, hi1, hgx, hhx, hb1⟩
  go_wp2_with fail
  (with_reducible refine (HNEW.out _).mono ?_)
  rintro e w2 ⟨gy, hy, rfl, hi2, hgy, hhy, hb2⟩
  have hx2 := hi1.call hb2
  have hb12 := bn hb1 hb2
  have hxl : gx < w1.heap.size ∧ hx < w1.heap.size := ⟨hi1.glt, hi1.lt⟩
  have HG : Hid (w.heap.size ≤ gx ∧ w.heap.size ≤ hx ∧ w.heap.size ≤ gy ∧ w.heap.size ≤ hy ∧ gx < gy ∧ gx < hy ∧ hx < gy ∧ hx < hy) := Lib.hid (by have := hb1.size; omega)
  have HT1 := Lib.hid (told_any gx hx M N c n1 k1 A P1 b ps1 w2 hx2 w.heap.size (HR.out.keep fun p hp => hb12.cell hp) hNc (by omega) (HP1.out.keep fun p hp => hb12.cell hp) ⟨HG.out.1, HG.out.2.1, hb12.size⟩)
  have HY2 := Lib.hid hi2
  have HB2 := Lib.hid hb12
  have HYL : Hid (gy < w2.heap.size ∧ hy < w2.heap.size) := Lib.hid ⟨hi2.glt, hi2.lt⟩
  clear hi1 hi2 hx2 hb1 hb2 hb12 hxl hgx hhx hgy hhy
  go_wp2_with fail
  (with_reducible refine HT1.out.mono ?_)
  rintro e w3 ⟨A1, m1, c1, A2, c2, at1, rfl, hk3, ho3⟩
  have hy3 := HY2.out.off ho3 (fun h => by have := HG.out; rcases h with h | h <;> omega) (fun h => by have := HG.out; rcases h with h | h <;> omega)
  have hb3 := offB HB2.out HG.out.1 HG.out.2.1 ho3
  have HT2 := Lib.hid (told_any gy hy M N c n2 k2 A P2 b ps2 w3 hy3 w.heap.size (HR.out.keep fun p hp => hb3.cell hp) hNc (by omega) (HP2.out.keep fun p hp => hb3.cell hp) ⟨HG.out.2.2.1, HG.out.2.2.2.1, hb3.size⟩)
  have HK3 := Lib.hid hk3
  have HB3 := Lib.hid hb3
  clear hy3 hb3 hk3 ho3
  go_wp2_with fail
  (with_reducible refine HT2.out.mono ?_)
  rintro e w4 ⟨A3, m2, c3, A4, c4, at2, rfl, hk4, ho4⟩
  obtain rfl : m1 = m2 := by
    have h1 := HK3.out.kin.len
    have h2 := hk4.kin.len
    rw [List.length_map] at h1 h2
    omega
  have HK3' := Lib.hid (HK3.out.off ho4 (fun i h => by have := HYL.out; rcases h with h | h <;> omega))
  have HB4 := Lib.hid (offB HB3.out HG.out.2.2.1 HG.out.2.2.2.1 ho4)
  have HK4 := Lib.hid hk4
  have hm1 : m1 ≤ 16385 := by
    have h1 := hk4.kin.len
    rw [List.length_map] at h1
    have := evs_len M b.length false b (Nat.le_refl _)
    have := HR.out.len
    omega
  clear hk4 ho4
  have hEL : (evs M false b).length = m1 := by
    have := HK4.out.kin.len
    rw [List.length_map] at this
    exact this
  have HEL := Lib.hid hEL
  clear hEL
  have hRN : ∀ w', Below w.heap.size w w' → Rd .u8 256 w' w.heap.size A N b := fun w' hb => HR.out.below hb
  go_wp2_with fail
  go_loopw [20, 21] (fun r i wr => ∃ (j : Nat) (RA : Option Addr) (rn rc : Nat) (R : List Nat), j ≤ m1 ∧ i = .int .i64 (j : Int) ∧ r = .slice RA rn rc ∧ rn ≤ rc ∧ rn ≤ 8192 ∧ Rd .u8 256 w w.heap.size RA rn R ∧ (j < m1 → evs M (decide (0 < j)) R = (evs M false b).drop j) ∧ KF wr w2.heap.size A1 m1 c1 A2 c2 (evs M false b) ∧ KF wr w3.heap.size A3 m1 c3 A4 c4 (evs M false b) ∧ Below w.heap.size w wr) (fun _ i _ => m1 - (intOf i).toNat)
  case atStart => exact ⟨0, A, N, c, b, by omega, rfl, rfl, hNc, by omega, HR.out, fun _ => rfl, HK3'.out, HK4.out, HB4.out⟩
  case round =>
    obtain ⟨j, RA, rn, rc, R, hj, rfl, rfl, hrc, hrn, hR, hev, hka, hkb, hb⟩ := hrel
    have HRR := Lib.hid hR
    have HEV := Lib.hid hev
    have HKA := Lib.hid hka
    have HKB := Lib.hid hkb
    have HB := Lib.hid hb
    clear hR hev hka hkb hb
    by_cases hlt : j < m1
    · have d1 : decide ((j : Int) < (m1 : Int)) = true := by simp; omega
      have i0 : (0 : Int) ≤ (j : Int) := by omega
      have i1 : (j : Int) < (m1 : Int) := by omega
      have HJ := Lib.hid (show j + 1 ≤ m1 by omega)
      obtain ⟨⟨k, ch, bd⟩, hE⟩ : ∃ ev, (evs M false b)[j]? = some ev := ⟨_, List.getElem?_eq_getElem (by rw [HEL.out]; exact hlt)⟩
      have hdrop : (evs M false b).drop j = (k, ch, bd) :: (evs M false b).drop (j + 1) := by
        rw [List.getElem?_eq_some_iff] at hE
        obtain ⟨h1, h2⟩ := hE
        rw [← h2]
        exact (List.drop_eq_getElem_cons h1)
      have hinv := evs_inv ((HEV.out hlt).trans hdrop)
      obtain ⟨a1, o1, g1, B1, e1, f1, eA1, eA2, ck1, cc1, cs1, rd1, hk256, la1, lg1⟩ := KF.at HKA.out hlt hE
      obtain ⟨a3, o3, g3, B3, e3, f3, eA3, eA4, ck3, cc3, cs3, rd3, _, la3, lg3⟩ := KF.at HKB.out hlt hE
      obtain rfl : e1 = e3 := by rw [← rd1.len, ← rd3.len]
      subst eA1 eA2 eA3 eA4
      have HINV := Lib.hid hinv
      have RD1 := Lib.hid rd1
      have RD3 := Lib.hid rd3
      have hH0 : Below wr.heap.size wr wr.drew := (Below.refl _ _).drew
      clear hE hdrop hinv rd1 rd3
      have ekk : ((k : Int) != (k : Int)) = false := by simp
      go_wp2_with fail
      go_region_held3 (fun wx => wx.cell? ⟨a1, o1 + j, none⟩ = some (.int .u8 (k : Int)) ∧ wx.cell? ⟨a3, o3 + j, none⟩ = some (.int .u8 (k : Int)) ∧ wx.cell? ⟨g1, j * 2, none⟩ = some (.int .u16 (ch : Int)) ∧ wx.cell? ⟨g1, j * 2 + 1, none⟩ = some (.slice B1 e1 f1) ∧ wx.cell? ⟨g3, j * 2, none⟩ = some (.int .u16 (ch : Int)) ∧ wx.cell? ⟨g3, j * 2 + 1, none⟩ = some (.slice B3 e1 f3)) (first | exact ⟨ck1, ck3, cc1, cs1, cc3, cs3⟩ | exact ⟨y1, y3, y5, y6, y7, y8⟩)
        (first
        | (go_at_call 19; (with_reducible refine (same_yes _ _ ch B1 B3 e1 f1 f3 bd _ (RD1.out.call hH0) (RD3.out.call hH0) (Nat.le_refl _) (Nat.le_refl _)).mono ?_); rintro e w9 ⟨rfl, hb9⟩; have y1 := (hb9.cell (p := ⟨a1, o1 + j, none⟩) la1).trans ck1; have y3 := (hb9.cell (p := ⟨a3, o3 + j, none⟩) la3).trans ck3; have y5 := (hb9.cell (p := ⟨g1, j * 2, none⟩) lg1).trans cc1; have y6 := (hb9.cell (p := ⟨g1, j * 2 + 1, none⟩) lg1).trans cs1; have y7 := (hb9.cell (p := ⟨g3, j * 2, none⟩) lg3).trans cc3; have y8 := (hb9.cell (p := ⟨g3, j * 2 + 1, none⟩) lg3).trans cs3; have hb9' := bn hH0 hb9)
        | fail)
      all_goals
        have HKA9 := Lib.hid (HKA.out.call hb9')
        have HKB9 := Lib.hid (HKB.out.call hb9')
        have HB9 := Lib.hid (bn HB.out hb9')
        have RD19 := Lib.hid (RD1.out.call hb9')
        have hl91 : g1 < w9.heap.size := Nat.lt_of_lt_of_le lg1 hb9'.size
        clear hb9 hb9' ck1 ck3 cc1 cs1 cc3 cs3 y3 y7 y8 hH0 ekk
        rcases HINV.out with ⟨hk1, hch, hbd, hw, hr8, ht8, ht⟩ | ⟨hk2, hch, hbd, hw, her, ht⟩ | ⟨hk3, hch, hbd, ht⟩
        · have ef1 : ((k : Int) == 1) = true := by simp; omega
          have hj0 : ¬ 0 < j := by simpa using hw
          have ef2 : decide ((0 : Int) < (j : Int)) = false := by simp; omega
          have ef3 : ¬ (0 : Int) < (j : Int) := by omega
          have hRl := HRR.out.len
          have ef4 : decide ((rn : Int) < 8) = false := by simp; omega
          have ef5 : ¬ (rn : Int) < 8 := by omega
          have ef6 : (8 : Int) ≤ (rn : Int) := by omega
          obtain ⟨p1, p2⟩ := cut_to RA rn rc 8 (by omega) hrc
          have p1' := fun W => p1 W 8 rfl
          have p2' := fun W => p2 W 8 rfl
          obtain ⟨RB, rb, hrb, _, s1, s2, hcut⟩ := cut_from RA rn rc 8 (by omega) hrc
          have s1' := fun W => s1 W 8 rfl
          have s2' := fun W => s2 W 8 rfl
          obtain ⟨r8, hr88⟩ : ∃ r8, rn - 8 = r8 := ⟨_, rfl⟩
          rw [hr88] at hrb s1' s2' hcut
          have HRB := Lib.hid (hcut _ _ _ HRR.out)
          have HT8 := Lib.hid ht8
          have HEV2 : Hid (j + 1 < m1 → evs M (decide (0 < j + 1)) (R.drop 8) = (evs M false b).drop (j + 1)) := Lib.hid fun _ => by rw [show decide (0 < j + 1) = true by simp]; exact ht.symm
          have HLEN : Hid (8 ≤ rn ∧ r8 ≤ 8192) := Lib.hid (by omega)
          clear hw ht ht8 hch hbd hk1 p1 p2 s1 s2 hcut hr8 hRl
          go_wp2_with fail
          (with_reducible refine (It.start_any _).mono ?_)
          rintro e wa ⟨gs, rfl, hs, _, hba⟩
          have HBA := Lib.hid (bn HB9.out hba)
          have HKAA := Lib.hid (HKA9.out.call hba)
          have HKBA := Lib.hid (HKB9.out.call hba)
          have hrd8 : Rd .u8 256 wa w.heap.size RA 8 hdr := ((HRR.out.below HBA.out).take (k := 8) HLEN.out.1).eqv HT8.out
          have hrs := hs.rd
          clear hs hba y1 y5 y6
          go_wp2_with (first
            | (go_at_call 25; (with_reducible refine (eqbytes_same _ _ RA (some ⟨gs, 0, none⟩) 8 rc 8 hdr _ hrd8 hrs).mono ?_); rintro e wb ⟨rfl, rfl⟩)
            | fail)
          go_roundw
          case rel => exact ⟨j + 1, RB, r8, rb, R.drop 8, HJ.out, by go_num, rfl, hrb, HLEN.out.2, HRB.out, HEV2.out, HKAA.out, HKBA.out, HBA.out⟩
          case measure => simp [intOf]; omega
        · have ef1 : ((k : Int) == 1) = false := by simp; omega
          have ef2 : ((k : Int) == 2) = true := by simp; omega
          have hj0 : 0 < j := by simpa using hw
          have ef3 : ((j : Int) == 0) = false := by simp; omega
          have ef4 : (j == 0) = false := by simp; omega
          have hRl := HRR.out.len
          have hok := erF_ok her
          obtain ⟨z, hz⟩ : ∃ z, nF R = z := ⟨_, rfl⟩
          have hbl : (bodyF R).length = e1 := by rw [← hbd]; exact RD19.out.len
          have HRD := Lib.hid (read_ok (A := RA) (n := rn) (c := rc) ch z e1 (bodyF R) w9 ((HRR.out.below HB9.out).mono HB9.out.size) hrc (by omega) (by omega) her hch.symm hz rfl hbl)
          have HBD := Lib.hid hbd
          rw [hz] at hok
          have ef5 : decide ((z : Int) < 8) = false := by simp; omega
          have ef6 : ¬ (z : Int) < 8 := by omega
          obtain ⟨RB, rb, hrb, _, s1, s2, hcut⟩ := cut_from RA rn rc z (by omega) hrc
          have s1' := fun W => s1 W z rfl
          have s2' := fun W => s2 W z rfl
          obtain ⟨rz, hrz⟩ : ∃ rz, rn - z = rz := ⟨_, rfl⟩
          rw [hrz] at hrb s1' s2' hcut
          have HRB := Lib.hid (hcut _ _ _ HRR.out)
          have hzr : (z : Int) ≤ (rn : Int) := by omega
          have hz0 : (0 : Int) ≤ (z : Int) := by omega
          have HEV2 : Hid (j + 1 < m1 → evs M (decide (0 < j + 1)) (R.drop z) = (evs M false b).drop (j + 1)) := Lib.hid fun _ => by rw [show decide (0 < j + 1) = true by simp, ← hz, ht, hw]
          have HLEN : Hid (rz ≤ 8192) := Lib.hid (by omega)
          clear hw ht hch hbd hk2 her hok s1 s2 hcut hRl hz hbl
          go_wp2_with fail
          (with_reducible refine HRD.out.mono ?_)
          rintro e wa ⟨Aa, ca, rfl, hoa, hba⟩
          have hba' := ba hba (.cells #[.int .u16 (ch : Int), .slice Aa e1 ca] 39)
          have hxa : BxF (wa.alloc (.cells #[.int .u16 (ch : Int), .slice Aa e1 ca] 39)) wa.heap.size ch Aa e1 ca := heap_alloc_new wa _
          have HBA := Lib.hid (bn HB9.out hba')
          have HKAA := Lib.hid (HKA9.out.call hba')
          have HKBA := Lib.hid (HKB9.out.call hba')
          have HOA := Lib.hid (hoa.rd.call (ba (Below.refl _ _) (.cells #[.int .u16 (ch : Int), .slice Aa e1 ca] 39)))
          have HR1A := Lib.hid (RD19.out.call hba')
          obtain ⟨x0, x1, _, hxl⟩ := hxa.all
          have z5 := (hba'.cell (p := ⟨g1, j * 2, none⟩) hl91).trans y5
          have z6 := (hba'.cell (p := ⟨g1, j * 2 + 1, none⟩) hl91).trans y6
          have hgl := Nat.lt_of_lt_of_le hl91 hba'.size
          clear hba hba' hoa hxa y1 y5 y6
          go_wp2_with fail
          have hH0 : Below (wa.alloc (.cells #[.int .u16 (ch : Int), .slice Aa e1 ca] 39)).heap.size (wa.alloc (.cells #[.int .u16 (ch : Int), .slice Aa e1 ca] 39)) (wa.alloc (.cells #[.int .u16 (ch : Int), .slice Aa e1 ca] 39)).drew := (Below.refl _ _).drew
          generalize hWB : wa.alloc (.cells #[.int .u16 (ch : Int), .slice Aa e1 ca] 39) = wb at *
          go_region_held3 (fun wx => wx.cell? ⟨wa.heap.size, 0, none⟩ = some (.int .u16 (ch : Int)) ∧ wx.cell? ⟨wa.heap.size, 1, none⟩ = some (.slice Aa e1 ca) ∧ wx.cell? ⟨g1, j * 2, none⟩ = some (.int .u16 (ch : Int)) ∧ wx.cell? ⟨g1, j * 2 + 1, none⟩ = some (.slice B1 e1 f1)) (first | exact ⟨x0, x1, z5, z6⟩ | exact ⟨u0, u1, u5, u6⟩)
            (first
            | (go_at_call 19; (with_reducible refine (same_yes _ _ ch B1 Aa e1 f1 ca bd _ (HR1A.out.call hH0) ((HBD.out ▸ HOA.out).call hH0) (Nat.le_refl _) (Nat.le_refl _)).mono ?_); rintro e wc ⟨rfl, hbc⟩; have u0 := (hbc.cell (p := ⟨wa.heap.size, 0, none⟩) hxl).trans x0; have u1 := (hbc.cell (p := ⟨wa.heap.size, 1, none⟩) hxl).trans x1; have u5 := (hbc.cell (p := ⟨g1, j * 2, none⟩) hgl).trans z5; have u6 := (hbc.cell (p := ⟨g1, j * 2 + 1, none⟩) hgl).trans z6; have hbc' := bn hH0 hbc)
            | fail)
          all_goals
            go_wp2
            go_roundw
            case rel => exact ⟨j + 1, RB, rz, rb, R.drop z, HJ.out, by go_num, rfl, hrb, HLEN.out, HRB.out, HEV2.out, HKAA.out.call hbc', HKBA.out.call hbc', bn HBA.out hbc'⟩
            case measure => simp [intOf]; omega
        · have ef1 : ((k : Int) == 1) = false := by simp; omega
          have ef2 : ((k : Int) == 2) = false := by simp; omega
          have HEND : Hid (¬ j + 1 < m1) := Lib.hid (by
            intro hlt2
            have h1 := congrArg List.length ht
            rw [List.length_drop, HEL.out] at h1
            simp at h1
            omega)
          clear ht hch hbd hk3 y5 y6
          go_wp2
          go_roundw
          case rel => exact ⟨j + 1, RA, rn, rc, R, HJ.out, by go_num, rfl, hrc, hrn, HRR.out, fun h => absurd h HEND.out, HKA9.out, HKB9.out, HB9.out⟩
          case measure => simp [intOf]; omega
    · obtain rfl : j = m1 := by omega
      have d1 : decide ((j : Int) < (j : Int)) = false := by simp
      go_wp2_with (first
        | (go_at_call 10; (with_reducible refine (works12_any _).mono ?_); rintro e w5 ⟨rfl, hb5⟩)
        | fail)
      go_ret
      exact ⟨rfl, bn HB.out hb5⟩
theorem walk (size : Nat) (A : Option Addr) (N c : Nat) (b : List Nat) (P1 : Option Addr) (n1 k1 : Nat) (ps1 : List Nat) (P2 : Option Addr) (n2 k2 : Nat) (ps2 : List Nat) (w : World) (hs : size < 65536) (hr : Rd .u8 256 w w.heap.size A N b) (hNc : N ≤ c) (hp1 : Rd .u16 65536 w w.heap.size P1 n1 ps1) (_ : n1 ≤ k1) (hp2 : Rd .u16 65536 w w.heap.size P2 n2 ps2) (_ : n2 ≤ k2) :
    Calls Try.prog 4 #[.int .u16 (size : Int), .slice A N c, .slice P1 n1 k1, .slice P2 n2 k2] w fun e w' => e = .returned (.bool true) ∧ Below w.heap.size w w' := by
  by_cases h : 8192 < N
  · exact walk_long size N c A P1 P2 n1 k1 n2 k2 w h
  · exact walk_main size N c A b P1 P2 n1 k1 n2 k2 ps1 ps2 w hs hr hNc hp1 hp2 (by omega)
end Go.Proofs.Ytdjncacknmejoaa.intakePieces
