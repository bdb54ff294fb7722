/-
  The statement FrameHeads, walked: it answers true. Memory that was there stays. No condition.
-/
import Derived.Test.YtemeigdielefiaaFhp
import Derived.Test.YtemeigdielefiaaFrs
import Derived.Deep.RegionHeld3
import Derived.Deep.DeepCutAuto
namespace Go.Proofs.Ytemeigdielefiaa.frameHeads
set_option maxRecDepth 100000
open Go.RowKit Go.Proofs.Ytemeigdielefiaa.Utf Go.Proofs.Ytemeigdielefiaa.Enc Go.Proofs.Ytemeigdielefiaa.Fr

theorem walk_long (S p t ch : Nat) (A : Option Addr) (n c most : Nat) (w : World) (h : 8192 < n) :
    Calls Try.prog 7 #[.agg #[.int .u32 (S : Int), .int .u8 (p : Int), .int .u8 (t : Int), .int .u16 (ch : Int)], .slice A n c, .int .u32 (most : Int)] w fun e w' => e = .returned (.bool true) ∧ Below w.heap.size w w' := by
  have hb0 : Below w.heap.size w (w.alloc (.cells #[.int .u32 (S : Int), .int .u8 (p : Int), .int .u8 (t : Int), .int .u16 (ch : Int)] 43)) := ba (Below.refl _ _) _
  have d : decide (8192 < (n : Int)) = true := by simp; omega
  clear h
  go_enter Try.func7, Try.ntmps7
  go_wp2_with (go_at_call 9; (with_reducible refine (works_any _).mono ?_); rintro e w1 ⟨rfl, hb1⟩)
  go_ret
  exact ⟨rfl, bn hb0 hb1⟩
/-- A block that is what a head tells. -/
def BxL (w : World) (g S p t ch : Nat) : Prop := w.heap[g]? = some (.cells #[.int .u32 (S : Int), .int .u8 (p : Int), .int .u8 (t : Int), .int .u16 (ch : Int)] 43 (0, 0))
theorem BxL.all {w : World} {g S p t ch : Nat} (h : BxL w g S p t ch) : w.cell? ⟨g, 0, none⟩ = some (.int .u32 (S : Int)) ∧ w.cell? ⟨g, 1, none⟩ = some (.int .u8 (p : Int)) ∧ w.cell? ⟨g, 2, none⟩ = some (.int .u8 (t : Int)) ∧ w.cell? ⟨g, 3, none⟩ = some (.int .u16 (ch : Int)) ∧ g < w.heap.size := by
  have hl := (Array.getElem?_eq_some_iff.1 h).1
  unfold BxL at h
  exact ⟨by simp [World.cell?, h], by simp [World.cell?, h], by simp [World.cell?, h], by simp [World.cell?, h], hl⟩
theorem BxL.call {w w' : World} {g S p t ch : Nat} (h : BxL w g S p t ch) (hb : Below w.heap.size w w') : BxL w' g S p t ch := (hb.block g h.all.2.2.2.2).trans h
/-- From which byte on it is wrong, as the law has it. -/
def wrI (W : Nat) : Int := if W = 9 then -1 else (W : Int)
theorem wr_ways {S p t most W : Nat} (h : wrF S p t most = W) : (S < 8 ∧ W = 4) ∨ (¬ S < 8 ∧ most < S ∧ W = 4) ∨ (¬ S < 8 ∧ ¬ most < S ∧ p < 2 ∧ W = 5) ∨ (¬ S < 8 ∧ ¬ most < S ∧ ¬ p < 2 ∧ S < 4 * p ∧ W = 5) ∨ (¬ S < 8 ∧ ¬ most < S ∧ ¬ p < 2 ∧ ¬ S < 4 * p ∧ t ≠ 0 ∧ W = 6) ∨ (¬ S < 8 ∧ ¬ most < S ∧ ¬ p < 2 ∧ ¬ S < 4 * p ∧ t = 0 ∧ W = 9) := by
  unfold wrF at h
  (repeat' split at h) <;> omega
theorem be4 (S : Nat) : be S 4 = [S / 16777216 % 256, S / 65536 % 256, S / 256 % 256, S % 256] := by simp [be]
theorem be2 (S : Nat) : be S 2 = [S / 256 % 256, S % 256] := by simp [be]
set_option maxHeartbeats 4000000 in
theorem walk_main (S p t ch : Nat) (A : Option Addr) (n c : Nat) (b : List Nat) (most : Nat) (w : World) (hS : S < 4294967296) (hp : p < 256) (ht : t < 256) (hch : ch < 65536) (hr : Rd .u8 256 w w.heap.size A n b) (_ : n ≤ c) (hm : most < 4294967296) (hn : n ≤ 8192) :
    Calls Try.prog 7 #[.agg #[.int .u32 (S : Int), .int .u8 (p : Int), .int .u8 (t : Int), .int .u16 (ch : Int)], .slice A n c, .int .u32 (most : Int)] w fun e w' => e = .returned (.bool true) ∧ Below w.heap.size w w' := by
  have d1 : decide (8192 < (n : Int)) = false := by simp; omega
  obtain ⟨s0, f0⟩ : ∃ s0, S / 16777216 % 256 = s0 := ⟨_, rfl⟩
  obtain ⟨s1, f1⟩ : ∃ s1, S / 65536 % 256 = s1 := ⟨_, rfl⟩
  obtain ⟨s2, f2⟩ : ∃ s2, S / 256 % 256 = s2 := ⟨_, rfl⟩
  obtain ⟨s3, f3⟩ : ∃ s3, S % 256 = s3 := ⟨_, rfl⟩
  obtain ⟨s6, f6⟩ : ∃ s6, ch / 256 % 256 = s6 := ⟨_, rfl⟩
  obtain ⟨s7, f7⟩ : ∃ s7, ch % 256 = s7 := ⟨_, rfl⟩
  have e0 : (S : Int) / 16777216 = (s0 : Int) := by omega
  have e1 : (S : Int) / 65536 % 256 = (s1 : Int) := by omega
  have e2 : (S : Int) / 256 % 256 = (s2 : Int) := by omega
  have e3 : (S : Int) % 256 = (s3 : Int) := by omega
  have e6 : (ch : Int) / 256 = (s6 : Int) := by omega
  have e7 : (ch : Int) % 256 = (s7 : Int) := by omega
  have hL : hbF S p t ch b = [s0, s1, s2, s3, p, t, s6, s7] ++ b := by
    unfold hbF
    rw [be4, be2, f0, f1, f2, f3, f6, f7]
    rfl
  have hlt : ∀ x ∈ [s0, s1, s2, s3, p, t, s6, s7], x < 256 := by
    intro x hx
    simp at hx
    omega
  have hb0 : Below w.heap.size w (w.alloc (.cells #[.int .u32 (S : Int), .int .u8 (p : Int), .int .u8 (t : Int), .int .u16 (ch : Int)] 43)) := ba (Below.refl _ _) _
  have hx0 : BxL (w.alloc (.cells #[.int .u32 (S : Int), .int .u8 (p : Int), .int .u8 (t : Int), .int .u16 (ch : Int)] 43)) w.heap.size S p t ch := heap_alloc_new w _
  have ho0 : Own .u8 256 5 ((w.alloc (.cells #[.int .u32 (S : Int), .int .u8 (p : Int), .int .u8 (t : Int), .int .u16 (ch : Int)] 43)).alloc (.cells #[.int .u8 (s0 : Int), .int .u8 (s1 : Int), .int .u8 (s2 : Int), .int .u8 (s3 : Int), .int .u8 (p : Int), .int .u8 (t : Int), .int .u8 (s6 : Int), .int .u8 (s7 : Int)] 5)) (w.heap.size + 1) (some ⟨w.heap.size + 1, 0, none⟩) 8 8 [s0, s1, s2, s3, p, t, s6, s7] := by
    have := own_lit8 (w.alloc (.cells #[.int .u32 (S : Int), .int .u8 (p : Int), .int .u8 (t : Int), .int .u16 (ch : Int)] 43)) (w.heap.size + 1) 8 [s0, s1, s2, s3, p, t, s6, s7] rfl hlt (by unfold maxLen; omega) (by simp)
    rwa [World.size_alloc] at this
  have hb1 := ba hb0 (.cells #[.int .u8 (s0 : Int), .int .u8 (s1 : Int), .int .u8 (s2 : Int), .int .u8 (s3 : Int), .int .u8 (p : Int), .int .u8 (t : Int), .int .u8 (s6 : Int), .int .u8 (s7 : Int)] 5)
  have hx1 := hx0.call (ba (Below.refl _ _) (.cells #[.int .u8 (s0 : Int), .int .u8 (s1 : Int), .int .u8 (s2 : Int), .int .u8 (s3 : Int), .int .u8 (p : Int), .int .u8 (t : Int), .int .u8 (s6 : Int), .int .u8 (s7 : Int)] 5))
  have hr1 := hr.call hb1
  have HL := Lib.hid hL
  have HB1 := Lib.hid hb1
  have HX1 := Lib.hid hx1
  have HO0 := Lib.hid ho0
  have HR1 := Lib.hid hr1
  have t1 : True := trivial
  clear hr hb0 hx0 ho0 hb1 hx1 hr1 hL hlt f0 f1 f2 f3 f6 f7
  go_enter Try.func7, Try.ntmps7
  go_upto_region 5 with (at_builtin; have _t := t1; refine wpList_app8 (l := b) (L := [s0, s1, s2, s3, p, t, s6, s7]) rfl _ _ rfl rfl HO0.out rfl HR1.out (by omega) (by simp) ?_; clear t1 _t; intro A2 c2 w2 ho2 hg2; have hb2 := below_grown HO0.out hg2 (by simp))
  have hbw : Below w.heap.size w w2 := HB1.out.trans (hb2.mono (by omega))
  have hx2 : BxL w2 w.heap.size S p t ch := (hb2.block w.heap.size (by omega)).trans HX1.out
  have hcap2 := ho2.cap.1
  have hrd2 : Rd .u8 256 w2 w2.heap.size A2 (8 + n) (hbF S p t ch b) := by rw [HL.out]; exact ho2.rd
  have HBW := Lib.hid hbw
  have HX2 := Lib.hid hx2
  have HRD := Lib.hid hrd2
  obtain ⟨x0, x1, x2, x3, hgl⟩ := hx2.all
  obtain ⟨W, hW⟩ : ∃ W, wrF S p t most = W := ⟨_, rfl⟩
  have HW := Lib.hid hW
  clear hb2 ho2 hg2 hbw hx2 hrd2 HB1 HX1 HO0 HR1 HL e0 e1 e2 e3 e6 e7 hW
  have HWX := Lib.hid (wr_ways HW.out)
  go_cut [8] (fun s8 wx => s8 = .int .i64 (-1) ∧ wx = w2)
  case first =>
    go_wp2
    go_meet
    exact ⟨rfl, rfl⟩
  case rest =>
    obtain ⟨hu, hw⟩ := hcut
    subst hu
    subst hw
    rename_i hK
    refine hK _ _ ?_
    clear hK
    go_step
    go_cut [8] (fun s8 wx => s8 = .int .i64 (wrI W) ∧ wx = wc)
    case first =>
      rcases HWX.out with ⟨h1, h2⟩ | ⟨h1, h2, h3⟩ | ⟨h1, h2, h3, h4⟩ | ⟨h1, h2, h3, h4, h5⟩ | ⟨h1, h2, h3, h4, h5, h6⟩ | ⟨h1, h2, h3, h4, h5, h6⟩
      · have g1 : decide ((S : Int) < 8) = true := by simp; omega
        have e : wrI W = 4 := by rw [h2]; rfl
        clear h2
        go_wp2
        go_meet
        exact ⟨by rw [e], rfl⟩
      · have g1 : decide ((S : Int) < 8) = false := by simp; omega
        have g2 : decide ((most : Int) < (S : Int)) = true := by simp; omega
        have e : wrI W = 4 := by rw [h3]; rfl
        clear h3
        go_wp2
        go_meet
        exact ⟨by rw [e], rfl⟩
      · have g1 : decide ((S : Int) < 8) = false := by simp; omega
        have g2 : decide ((most : Int) < (S : Int)) = false := by simp; omega
        have g3 : decide ((p : Int) < 2) = true := by simp; omega
        have e : wrI W = 5 := by rw [h4]; rfl
        clear h4
        go_wp2
        go_meet
        exact ⟨by rw [e], rfl⟩
      · have g1 : decide ((S : Int) < 8) = false := by simp; omega
        have g2 : decide ((most : Int) < (S : Int)) = false := by simp; omega
        have g3 : decide ((p : Int) < 2) = false := by simp; omega
        have e : wrI W = 5 := by rw [h5]; rfl
        clear h5
        go_wp2
        go_meet
        exact ⟨by rw [e], rfl⟩
      · have g1 : decide ((S : Int) < 8) = false := by simp; omega
        have g2 : decide ((most : Int) < (S : Int)) = false := by simp; omega
        have g3 : decide ((p : Int) < 2) = false := by simp; omega
        have g5 : ((t : Int) != 0) = true := by simp; omega
        have e : wrI W = 6 := by rw [h6]; rfl
        clear h5 h6
        go_wp2
        go_meet
        exact ⟨by rw [e], rfl⟩
      · have g1 : decide ((S : Int) < 8) = false := by simp; omega
        have g2 : decide ((most : Int) < (S : Int)) = false := by simp; omega
        have g3 : decide ((p : Int) < 2) = false := by simp; omega
        have g5 : ((t : Int) != 0) = false := by simp; omega
        have e : wrI W = -1 := by rw [h6]; rfl
        clear h5 h6
        go_wp2
        go_meet
        exact ⟨by rw [e], rfl⟩
    case rest =>
      obtain ⟨hu, hw⟩ := hcut
      subst hu
      subst hw
      rename_i hK
      refine hK _ _ ?_
      clear hK x0 x1 x2 x3
      obtain ⟨I, hI⟩ : ∃ I, wrI W = I := ⟨_, rfl⟩
      rw [hI]
      have HI := Lib.hid hI
      clear hI
      have HCUT := Lib.hid (fun i hi => hbF_cut (S := S) (p := p) (t := t) (ch := ch) (most := most) (i := i) (b := b) hS hi)
      rw [HW.out] at HCUT
      have hW49 : W = 9 ∨ W < 8 := by rcases HWX.out with h | h | h | h | h | h <;> omega
      have HW49 := Lib.hid hW49
      clear hW49
      have H6 := Lib.hid (fun A n c b wx (h : Rd .u8 256 wx wx.heap.size A n b) (hc : n ≤ c) (hn : n ≤ 1099511627776) (he : erF b most = 6) => read_no6 wx h hc hn hm he)
      have H7 := Lib.hid (fun A n c b wx (h : Rd .u8 256 wx wx.heap.size A n b) (hc : n ≤ c) (hn : n ≤ 1099511627776) (he : erF b most = 7) => read_no7 wx h hc hn hm he)
      have H0 := Lib.hid (fun A n c b ch k m l wx (h : Rd .u8 256 wx wx.heap.size A n b) (hc : n ≤ c) (hn : n ≤ 1099511627776) (he : erF b most = 0) (h1 : chF b = ch) (h2 : nF b = k) (h3 : bodyF b = l) (h4 : l.length = m) => read_ok ch k m l wx h hc hn hm he h1 h2 h3 h4)
      have hE := hbF_er (S := S) (p := p) (t := t) (ch := ch) (most := most) (b := b) hS
      rw [HW.out] at hE
      have HE := Lib.hid hE
      have HN := Lib.hid (hbF_nF S p t ch b hS)
      have HCH := Lib.hid (hbF_ch S p t ch b hch)
      have HP4 := Lib.hid (hbF_at S p t ch b).1
      have hLen := HRD.out.len
      clear hE
      obtain ⟨M, hM⟩ : ∃ M, 8 + n = M := ⟨_, rfl⟩
      rw [hM] at hLen
      have HRD := Lib.hid (show Rd .u8 256 wc wc.heap.size A2 M (hbF S p t ch b) from hM ▸ HRD.out)
      have hM1 : 8 ≤ M ∧ M ≤ 8200 := by omega
      obtain ⟨hM1, hM2⟩ := hM1
      rw [hM] at hcap2
      rw [hM]
      have HM := Lib.hid hM
      clear hM
      generalize hLL : hbF S p t ch b = L at *
      have HLL := Lib.hid hLL
      clear hLL
      go_wp2
      go_loopw [9] (fun i wr => ∃ j : Nat, j ≤ 9 ∧ i = .int .i64 (j : Int) ∧ Below wc.heap.size wc wr) (fun i _ => 9 - (intOf i).toNat)
      case atStart => exact ⟨0, by omega, rfl, Below.refl _ _⟩
      case round =>
        obtain ⟨j, hj, rfl, hb⟩ := hrel
        have HB := Lib.hid hb
        clear hb
        by_cases hj9 : j = 9
        · subst hj9
          clear hj
          have hrd := HRD.out.call HB.out
          have hMn : M ≤ 1099511627776 := by omega
          have d0 : decide ((9 : Int) ≤ 8) = false := rfl
          by_cases hW9 : W = 9
          · have g1 : decide ((0 : Int) ≤ I) = false := by
              have hI := HI.out
              unfold wrI at hI
              rw [if_pos hW9] at hI
              simp; omega
            by_cases hsh : M < S
            · have he : erF L most = 7 := by rw [HE.out, if_pos hW9, hLen, if_pos hsh]
              have HC := Lib.hid (H7.out _ _ _ _ wr hrd hcap2 hMn he)
              have k1 : IntKind.u64.wrap (M : Int) = (M : Int) := by simp only [IntKind.wrap, IntKind.bits, IntKind.signed]; simp; omega
              have k2 : IntKind.u64.wrap (S : Int) = (S : Int) := by simp only [IntKind.wrap, IntKind.bits, IntKind.signed]; simp; omega
              clear he hrd
              go_wp2_with (first
                | (go_at_call 16; (with_reducible refine HC.out.mono ?_); rintro e w3 ⟨rfl, hb3⟩; have hb3' := bn HB.out (ba hb3 (.cells #[.int .u16 0, .slice none 0 0] 25)); obtain ⟨z0, z1, z2, z3, _⟩ := (HX2.out.call hb3').all; have HB3 := Lib.hid (HBW.out.trans (hb3'.mono HBW.out.size)); clear hb3 hb3')
                | (go_at_call 9; (with_reducible refine (works_any _).mono ?_); rintro e w8 ⟨rfl, hb8⟩)
                | fail)
              go_ret
              exact ⟨rfl, bn HB3.out hb8⟩
            · have he : erF L most = 0 := by rw [HE.out, if_pos hW9, hLen, if_neg hsh]
              obtain ⟨P, hP⟩ : ∃ P, 4 * p = P := ⟨_, rfl⟩
              obtain ⟨e1, e2, e3, e4, e5, e6⟩ := erF_ok he
              rw [HP4.out, HN.out, hP] at e5
              rw [HN.out] at e1 e2
              have hbd : bodyF L = (L.drop P).take (S - P) := by unfold bodyF; rw [HN.out, HP4.out, hP]
              have hbl : ((L.drop P).take (S - P)).length = S - P := by rw [List.length_take, List.length_drop]; omega
              have HC := Lib.hid (H0.out _ _ _ _ ch S (S - P) _ wr hrd hcap2 hMn he HCH.out HN.out hbd hbl)
              obtain ⟨A1, c1, hc1, q1, q2, hcut⟩ := cut_mix .i64 .i64 A2 M c2 P S e5 (by omega) hcap2
              have HCT := Lib.hid (hcut wr _ _ hrd)
              have k1 : IntKind.u64.wrap (M : Int) = (M : Int) := by simp only [IntKind.wrap, IntKind.bits, IntKind.signed]; simp; omega
              have k2 : IntKind.u64.wrap (S : Int) = (S : Int) := by simp only [IntKind.wrap, IntKind.bits, IntKind.signed]; simp; omega
              have k5 : decide ((M : Int) < (S : Int)) = false := by simp; omega
              have hPi : 4 * (p : Int) = (P : Int) := by omega
              have K3 := Lib.hid (show IntKind.i64.wrap (S : Int) = (S : Int) from by rw [IntKind.wrap_i64]; omega)
              have K4 := Lib.hid (show IntKind.i64.wrap (P : Int) = (P : Int) from by rw [IntKind.wrap_i64]; omega)
              have K6 := Lib.hid (show IntKind.i64.wrap (p : Int) = (p : Int) from by rw [IntKind.wrap_i64]; omega)
              generalize (L.drop P).take (S - P) = lb at *
              obtain ⟨m, hm3⟩ : ∃ m, S - P = m := ⟨_, rfl⟩
              rw [hm3] at HC HCT q1 q2 hc1
              clear he hrd e1 e2 e3 e4 e5 e6 hbd hbl hcut hm3
              go_wp2_with (first
                | (go_at_call 16; (with_reducible refine HC.out.mono ?_); rintro e w3 ⟨A3, c3, rfl, ho3, hb3⟩; have hb3' := bn HB.out (ba hb3 (.cells #[.int .u16 (ch : Int), .slice A3 m c3] 25)); have hx4 := HX2.out.call hb3'; have HX4 := Lib.hid hx4; obtain ⟨z0, z1, z2, z3, _⟩ := hx4.all; have HB3 := Lib.hid (HBW.out.trans (hb3'.mono HBW.out.size)); have HY4 := Lib.hid (show BxF (w3.alloc (.cells #[.int .u16 (ch : Int), .slice A3 m c3] 25)) w3.heap.size ch A3 m c3 from heap_alloc_new w3 _); have HO4 := Lib.hid (ho3.rd.call (ba (Below.refl _ _) (.cells #[.int .u16 (ch : Int), .slice A3 m c3] 25))); have HT4 := Lib.hid (HCT.out.call (ba hb3 (.cells #[.int .u16 (ch : Int), .slice A3 m c3] 25))); clear hb3 hb3' ho3 hx4)
                | fail)
              generalize hW4 : w3.alloc (.cells #[.int .u16 (ch : Int), .slice A3 m c3] 25) = w4 at *
              generalize hg4 : w3.heap.size = g4 at *
              have hS4 : ∀ wy, Below w4.heap.size w4 wy → wy.cell? ⟨w.heap.size, 0, none⟩ = some (.int .u32 (S : Int)) ∧ wy.cell? ⟨w.heap.size, 1, none⟩ = some (.int .u8 (p : Int)) ∧ wy.cell? ⟨w.heap.size, 3, none⟩ = some (.int .u16 (ch : Int)) ∧ wy.cell? ⟨g4, 0, none⟩ = some (.int .u16 (ch : Int)) ∧ wy.cell? ⟨g4, 1, none⟩ = some (.slice A3 m c3) ∧ Below w4.heap.size w4 wy := fun wy h =>
                ⟨(HX4.out.call h).all.1, (HX4.out.call h).all.2.1, (HX4.out.call h).all.2.2.2.1, (HY4.out.call h).all.1, (HY4.out.call h).all.2.1, h⟩
              have HS := Lib.hid hS4
              have k3 := K3.out
              have k4 := K4.out
              have k6 := K6.out
              clear hS4 hW4 hg4 z0 z1 z2 z3
              refine wp_region_noPanic ?_
              refine wp_region_held_drew (S := fun wx => wx.cell? ⟨w.heap.size, 0, none⟩ = some (.int .u32 (S : Int)) ∧ wx.cell? ⟨w.heap.size, 1, none⟩ = some (.int .u8 (p : Int)) ∧ wx.cell? ⟨w.heap.size, 3, none⟩ = some (.int .u16 (ch : Int)) ∧ wx.cell? ⟨g4, 0, none⟩ = some (.int .u16 (ch : Int)) ∧ wx.cell? ⟨g4, 1, none⟩ = some (.slice A3 m c3) ∧ Below w4.heap.size w4 wx) (by kernel_rfl) (by exact HS.out _ (Below.refl _ _).drew) (fun hHeld => ?_)
              (refine wpAnyH_take (i := 0) (oi := ⟨some 131, _, _, _, _, _⟩) (v := ?_) rfl (by kernel_rfl) (by kernel_rfl) (by kernel_rfl) (fun _ _ _ h => h) (Or.inl ⟨by kernel_rfl, ?_⟩) (by assumption) ?_; rotate_left 1; (· intro w hSw; (try dsimp only at hSw); go_simp; (try with_reducible rfl)))
              try simp only [Act.put, List.setIfInBounds_toArray, List.set_cons_zero, List.set_cons_succ]
              (refine wpAnyH_take (i := 1) (oi := ⟨some 132, _, _, _, _, _⟩) (v := ?_) rfl (by kernel_rfl) (by kernel_rfl) (by kernel_rfl) (fun _ _ _ h => h) (Or.inl ⟨by kernel_rfl, ?_⟩) (by assumption) ?_; rotate_left 1; (· intro w hSw; (try dsimp only at hSw); go_simp; (try with_reducible rfl)))
              try simp only [Act.put, List.setIfInBounds_toArray, List.set_cons_zero, List.set_cons_succ]
              (refine wpAnyH_take (i := 2) (oi := ⟨some 133, _, _, _, _, _⟩) (v := ?_) rfl (by kernel_rfl) (by kernel_rfl) (by kernel_rfl) (fun _ _ _ h => h) (Or.inl ⟨by kernel_rfl, ?_⟩) (by assumption) ?_; rotate_left 1; (· intro w hSw; (try dsimp only at hSw); go_simp; (try with_reducible rfl)))
              try simp only [Act.put, List.setIfInBounds_toArray, List.set_cons_zero, List.set_cons_succ]
              (refine wpAnyH_take (i := 3) (oi := ⟨some 134, _, _, _, _, _⟩) (v := ?_) rfl (by kernel_rfl) (by kernel_rfl) (by kernel_rfl) (fun _ _ _ h => h) (Or.inl ⟨by kernel_rfl, ?_⟩) (by assumption) ?_; rotate_left 1; (· intro w hSw; (try dsimp only at hSw); go_simp; (try with_reducible rfl)))
              try simp only [Act.put, List.setIfInBounds_toArray, List.set_cons_zero, List.set_cons_succ]
              (refine wpAnyH_take (i := 4) (oi := ⟨some 135, _, _, _, _, _⟩) (v := ?_) rfl (by kernel_rfl) (by kernel_rfl) (by kernel_rfl) (fun _ _ _ h => h) (Or.inl ⟨by kernel_rfl, ?_⟩) (by assumption) ?_; rotate_left 1; (· intro w hSw; (try dsimp only at hSw); go_simp; (try with_reducible rfl)))
              try simp only [Act.put, List.setIfInBounds_toArray, List.set_cons_zero, List.set_cons_succ]
              (refine wpAnyH_take (i := 5) (oi := ⟨some 136, _, _, _, _, _⟩) (v := ?_) rfl (by kernel_rfl) (by kernel_rfl) (by kernel_rfl) (fun _ _ _ h => h) (Or.inl ⟨by kernel_rfl, ?_⟩) (by assumption) ?_; rotate_left 1; (· intro w hSw; (try dsimp only at hSw); go_simp; (try with_reducible rfl)))
              try simp only [Act.put, List.setIfInBounds_toArray, List.set_cons_zero, List.set_cons_succ]
              (refine wpAnyH_take (i := 6) (oi := ⟨some 137, _, _, _, _, _⟩) (v := ?_) rfl (by kernel_rfl) (by kernel_rfl) (by kernel_rfl) (fun _ _ _ h => h) (Or.inl ⟨by kernel_rfl, ?_⟩) (by assumption) ?_; rotate_left 1; (· intro w hSw; (try dsimp only at hSw); go_simp; (try with_reducible rfl)))
              try simp only [Act.put, List.setIfInBounds_toArray, List.set_cons_zero, List.set_cons_succ]
              (refine wpAnyH_take (i := 7) (oi := ⟨some 138, _, _, _, _, _⟩) (v := ?_) rfl (by kernel_rfl) (by kernel_rfl) (by kernel_rfl) (fun _ _ _ h => h) (Or.inl ⟨by kernel_rfl, ?_⟩) (by assumption) ?_; rotate_left 1; (· intro w hSw; (try dsimp only at hSw); go_simp; (try with_reducible rfl)))
              try simp only [Act.put, List.setIfInBounds_toArray, List.set_cons_zero, List.set_cons_succ]
              (refine wpAnyH_take (i := 8) (oi := ⟨some 139, _, _, _, _, _⟩) (v := ?_) rfl (by kernel_rfl) (by kernel_rfl) (by kernel_rfl) (fun _ _ _ h => h) (Or.inl ⟨by kernel_rfl, ?_⟩) (by assumption) ?_; rotate_left 1; (· intro w hSw; (try dsimp only at hSw); go_simp; (try with_reducible rfl)))
              try simp only [Act.put, List.setIfInBounds_toArray, List.set_cons_zero, List.set_cons_succ]
              (refine wpAnyH_take (i := 9) (oi := ⟨some 140, _, _, _, _, _⟩) (v := ?_) rfl (by kernel_rfl) (by kernel_rfl) (by kernel_rfl) (fun _ _ _ h => h) (Or.inl ⟨by kernel_rfl, ?_⟩) (by assumption) ?_; rotate_left 1; (· intro w hSw; (try dsimp only at hSw); go_simp; (try with_reducible rfl)))
              try simp only [Act.put, List.setIfInBounds_toArray, List.set_cons_zero, List.set_cons_succ]
              (refine wpAnyH_take (i := 10) (oi := ⟨some 141, _, _, _, _, _⟩) (v := ?_) rfl (by kernel_rfl) (by kernel_rfl) (by kernel_rfl) (fun _ _ _ h => h) (Or.inl ⟨by kernel_rfl, ?_⟩) (by assumption) ?_; rotate_left 1; (· intro w hSw; (try dsimp only at hSw); go_simp; (try with_reducible rfl)))
              try simp only [Act.put, List.setIfInBounds_toArray, List.set_cons_zero, List.set_cons_succ]
              (refine wpAnyH_take (i := 11) (oi := ⟨some 142, _, _, _, _, _⟩) (v := ?_) rfl (by kernel_rfl) (by kernel_rfl) (by kernel_rfl) (fun _ _ _ h => h) (Or.inl ⟨by kernel_rfl, ?_⟩) (by assumption) ?_; rotate_left 1; (· intro w hSw; (try dsimp only at hSw); go_simp; (try with_reducible rfl)))
              try simp only [Act.put, List.setIfInBounds_toArray, List.set_cons_zero, List.set_cons_succ]
              (refine wpAnyH_take (i := 12) (oi := ⟨some 143, _, _, _, _, _⟩) (v := ?_) rfl (by kernel_rfl) (by kernel_rfl) (by kernel_rfl) (fun _ _ _ h => h) (Or.inl ⟨by kernel_rfl, ?_⟩) (by assumption) ?_; rotate_left 1; (· intro w hSw; (try dsimp only at hSw); go_simp; (try with_reducible rfl)))
              try simp only [Act.put, List.setIfInBounds_toArray, List.set_cons_zero, List.set_cons_succ]
              (refine wpAnyH_take (i := 13) (oi := ⟨some 144, _, _, _, _, _⟩) (v := ?_) rfl (by kernel_rfl) (by kernel_rfl) (by kernel_rfl) (fun _ _ _ h => h) (Or.inl ⟨by kernel_rfl, ?_⟩) (by assumption) ?_; rotate_left 1; (· intro w hSw; (try dsimp only at hSw); go_simp; (try with_reducible rfl)))
              try simp only [Act.put, List.setIfInBounds_toArray, List.set_cons_zero, List.set_cons_succ]
              (refine wpAnyH_take (i := 14) (oi := ⟨some 145, _, _, _, _, _⟩) (v := ?_) rfl (by kernel_rfl) (by kernel_rfl) (by kernel_rfl) (fun _ _ _ h => h) (Or.inl ⟨by kernel_rfl, ?_⟩) (by assumption) ?_; rotate_left 1; (· intro w hSw; (try dsimp only at hSw); go_simp; (try with_reducible rfl)))
              try simp only [Act.put, List.setIfInBounds_toArray, List.set_cons_zero, List.set_cons_succ]
              (refine wpAnyH_take (i := 15) (oi := ⟨some 146, _, _, _, _, _⟩) (v := ?_) rfl (by kernel_rfl) (by kernel_rfl) (by kernel_rfl) (fun _ _ _ h => h) (Or.inl ⟨by kernel_rfl, ?_⟩) (by assumption) ?_; rotate_left 1; (· intro w hSw; (try dsimp only at hSw); go_simp; (try with_reducible rfl)))
              try simp only [Act.put, List.setIfInBounds_toArray, List.set_cons_zero, List.set_cons_succ]
              (refine wpAnyH_take (i := 16) (oi := ⟨some 147, _, _, _, _, _⟩) (v := ?_) rfl (by kernel_rfl) (by kernel_rfl) (by kernel_rfl) (fun _ _ _ h => h) (Or.inl ⟨by kernel_rfl, ?_⟩) (by assumption) ?_; rotate_left 1; (· intro w hSw; (try dsimp only at hSw); go_simp; (try with_reducible rfl)))
              try simp only [Act.put, List.setIfInBounds_toArray, List.set_cons_zero, List.set_cons_succ]
              (refine wpAnyH_take (i := 17) (oi := ⟨some 148, _, _, _, _, _⟩) (v := ?_) rfl (by kernel_rfl) (by kernel_rfl) (by kernel_rfl) (fun _ _ _ h => h) (Or.inl ⟨by kernel_rfl, ?_⟩) (by assumption) ?_; rotate_left 1; (· intro w hSw; (try dsimp only at hSw); go_simp; (try with_reducible rfl)))
              try simp only [Act.put, List.setIfInBounds_toArray, List.set_cons_zero, List.set_cons_succ]
              (refine wpAnyH_take (i := 18) (oi := ⟨some 149, _, _, _, _, _⟩) (v := ?_) rfl (by kernel_rfl) (by kernel_rfl) (by kernel_rfl) (fun _ _ _ h => h) (Or.inl ⟨by kernel_rfl, ?_⟩) (by assumption) ?_; rotate_left 1; (· intro w hSw; (try dsimp only at hSw); go_simp; (try with_reducible rfl)))
              try simp only [Act.put, List.setIfInBounds_toArray, List.set_cons_zero, List.set_cons_succ]
              (refine wpAnyH_take (i := 19) (oi := ⟨some 150, _, _, _, _, _⟩) (v := ?_) rfl (by kernel_rfl) (by kernel_rfl) (by kernel_rfl) (fun _ _ _ h => h) (Or.inl ⟨by kernel_rfl, ?_⟩) (by assumption) ?_; rotate_left 1; (· intro w hSw; (try dsimp only at hSw); go_simp; (try with_reducible rfl)))
              try simp only [Act.put, List.setIfInBounds_toArray, List.set_cons_zero, List.set_cons_succ]
              (refine wpAnyH_take (i := 20) (oi := ⟨some 151, _, _, _, _, _⟩) (v := ?_) rfl (by kernel_rfl) (by kernel_rfl) (by kernel_rfl) (fun _ _ _ h => h) (Or.inl ⟨by kernel_rfl, ?_⟩) (by assumption) ?_; rotate_left 1; (· intro w hSw; (try dsimp only at hSw); go_simp; (try with_reducible rfl)))
              try simp only [Act.put, List.setIfInBounds_toArray, List.set_cons_zero, List.set_cons_succ]
              (refine wpAnyH_take (i := 21) (oi := ⟨some 152, _, _, _, _, _⟩) (v := ?_) rfl (by kernel_rfl) (by kernel_rfl) (by kernel_rfl) (fun _ _ _ h => h) (Or.inl ⟨by kernel_rfl, ?_⟩) (by assumption) ?_; rotate_left 1; (· intro w hSw; (try dsimp only at hSw); go_simp; (try with_reducible rfl)))
              try simp only [Act.put, List.setIfInBounds_toArray, List.set_cons_zero, List.set_cons_succ]
              (refine wpAnyH_take (i := 22) (oi := ⟨some 153, _, _, _, _, _⟩) (v := ?_) rfl (by kernel_rfl) (by kernel_rfl) (by kernel_rfl) (fun _ _ _ h => h) (Or.inl ⟨by kernel_rfl, ?_⟩) (by assumption) ?_; rotate_left 1; (· intro w hSw; (try dsimp only at hSw); go_simp; (try with_reducible rfl)))
              try simp only [Act.put, List.setIfInBounds_toArray, List.set_cons_zero, List.set_cons_succ]
              (refine wpAnyH_take (i := 23) (oi := ⟨some 154, _, _, _, _, _⟩) (v := ?_) rfl (by kernel_rfl) (by kernel_rfl) (by kernel_rfl) (fun _ _ _ h => h) (Or.inl ⟨by kernel_rfl, ?_⟩) (by assumption) ?_; rotate_left 1; (· intro w hSw; (try dsimp only at hSw); go_simp; (try with_reducible rfl)))
              try simp only [Act.put, List.setIfInBounds_toArray, List.set_cons_zero, List.set_cons_succ]
              (refine wpAnyH_take (i := 24) (oi := ⟨some 155, _, _, _, _, _⟩) (v := ?_) rfl (by kernel_rfl) (by kernel_rfl) (by kernel_rfl) (fun _ _ _ h => h) (Or.inl ⟨by kernel_rfl, ?_⟩) (by assumption) ?_; rotate_left 1; (· intro w hSw; (try dsimp only at hSw); go_simp; (try with_reducible rfl)))
              try simp only [Act.put, List.setIfInBounds_toArray, List.set_cons_zero, List.set_cons_succ]
              (refine wpAnyH_take (i := 25) (oi := ⟨some 156, _, _, _, _, _⟩) (v := ?_) rfl (by kernel_rfl) (by kernel_rfl) (by kernel_rfl) (fun _ _ _ h => h) (Or.inl ⟨by kernel_rfl, ?_⟩) (by assumption) ?_; rotate_left 1; (· intro w hSw; (try dsimp only at hSw); go_simp; (try with_reducible rfl)))
              try simp only [Act.put, List.setIfInBounds_toArray, List.set_cons_zero, List.set_cons_succ]
              (refine wpAnyH_ready (rs := [26]) (by kernel_rfl) (by simp) ?_; refine AllReadyH.cons (o := ⟨some 157, _, _, _, _, _⟩) rfl (fun K hK => ?_) AllReadyH.nil; go_simp; (go_at_call 12; (with_reducible refine (eqbytes_same _ _ A3 A1 m c3 c1 lb _ (Rd.call HO4.out hHeld.2.2.2.2.2) (Rd.call HT4.out hHeld.2.2.2.2.2)).mono ?_); rintro e w7 ⟨rfl, rfl⟩); go_wp2_with fail; refine hK.out _ _ ?_ (fun hHeld => ?_); (· exact (by with_reducible first | assumption | exact HS.out _ (by with_reducible assumption) | exact HS.out _ (bn (by with_reducible assumption) (by with_reducible assumption)))); clear hK K)
              try simp only [Act.put, List.setIfInBounds_toArray, List.set_cons_zero, List.set_cons_succ]
              (refine wpAnyH_take (i := 27) (oi := ⟨some 158, _, _, _, _, _⟩) (v := ?_) rfl (by kernel_rfl) (by kernel_rfl) (by kernel_rfl) (fun _ _ _ h => h) (Or.inl ⟨by kernel_rfl, ?_⟩) (by assumption) ?_; rotate_left 1; (· intro w hSw; (try dsimp only at hSw); go_simp; (try with_reducible rfl)))
              try simp only [Act.put, List.setIfInBounds_toArray, List.set_cons_zero, List.set_cons_succ]
              (refine wpAnyH_take (i := 28) (oi := ⟨some 159, _, _, _, _, _⟩) (v := ?_) rfl (by kernel_rfl) (by kernel_rfl) (by kernel_rfl) (fun _ _ _ h => h) (Or.inl ⟨by kernel_rfl, ?_⟩) (by assumption) ?_; rotate_left 1; (· intro w hSw; (try dsimp only at hSw); go_simp; (try with_reducible rfl)))
              try simp only [Act.put, List.setIfInBounds_toArray, List.set_cons_zero, List.set_cons_succ]
              (refine wpAnyH_ready (rs := [29]) (by kernel_rfl) (by simp) ?_; refine AllReadyH.cons (o := ⟨some 160, _, _, _, _, _⟩) rfl (fun K hK => ?_) AllReadyH.nil; go_simp; (go_at_call 9; (with_reducible refine (works_any _).mono ?_); rintro e w8 ⟨rfl, hb8⟩; have hb9 := bn hHeld.2.2.2.2.2 hb8); go_wp2_with fail; refine hK.out _ _ ?_ (fun hHeld => ?_); (· exact (by with_reducible first | assumption | exact HS.out _ (by with_reducible assumption) | exact HS.out _ (bn (by with_reducible assumption) (by with_reducible assumption)))); clear hK K)
              try simp only [Act.put, List.setIfInBounds_toArray, List.set_cons_zero, List.set_cons_succ]
              (refine wpAnyH_take (i := 30) (oi := ⟨some 161, _, _, _, _, _⟩) (v := ?_) rfl (by kernel_rfl) (by kernel_rfl) (by kernel_rfl) (fun _ _ _ h => h) (Or.inl ⟨by kernel_rfl, ?_⟩) (by assumption) ?_; rotate_left 1; (· intro w hSw; (try dsimp only at hSw); go_simp; (try with_reducible rfl)))
              try simp only [Act.put, List.setIfInBounds_toArray, List.set_cons_zero, List.set_cons_succ]
              (refine wpAnyH_take (i := 31) (oi := ⟨some 6, _, _, _, _, _⟩) (v := ?_) rfl (by kernel_rfl) (by kernel_rfl) (by kernel_rfl) (fun _ _ _ h => h) (Or.inl ⟨by kernel_rfl, ?_⟩) (by assumption) ?_; rotate_left 1; (· intro w hSw; (try dsimp only at hSw); go_simp; (try with_reducible rfl)))
              try simp only [Act.put, List.setIfInBounds_toArray, List.set_cons_zero, List.set_cons_succ]
              refine wpAnyH_done (by kernel_rfl) ?_ _
              refine NoPanic.normal ?_
              have hb8' := bn HB3.out hHeld.2.2.2.2.2
              go_wp2
              go_ret
              exact ⟨rfl, hb8'⟩
          · have g1 : decide ((0 : Int) ≤ I) = true := by
              have hI := HI.out
              unfold wrI at hI
              rw [if_neg hW9] at hI
              simp; omega
            have he : erF L most = 6 := by rw [HE.out, if_neg hW9]
            have HC := Lib.hid (H6.out _ _ _ _ wr hrd hcap2 hMn he)
            clear he hrd
            go_wp2_with (first
              | (go_at_call 16; (with_reducible refine HC.out.mono ?_); rintro e w3 ⟨rfl, hb3⟩; have HB3 := Lib.hid (HBW.out.trans ((bn HB.out (ba hb3 (.cells #[.int .u16 0, .slice none 0 0] 25))).mono HBW.out.size)); clear hb3)
              | (go_at_call 9; (with_reducible refine (works_any _).mono ?_); rintro e w8 ⟨rfl, hb8⟩)
              | fail)
            go_ret
            exact ⟨rfl, bn HB3.out hb8⟩
        · have hj8 : j ≤ 8 := by omega
          obtain ⟨q1, q2⟩ := cut_to A2 M c2 j (by omega) hcap2
          have q1' := fun W => q1 W (j : Int) rfl
          have q2' := fun W => q2 W (j : Int) rfl
          have hrj := (HRD.out.call HB.out).take (k := j) (by omega)
          have hjc : j ≤ c2 := by omega
          have hjn : j ≤ 1099511627776 := by omega
          have hmj : 9 - (j + 1) < 9 - j := by omega
          have HMJ := Lib.hid hmj
          have HJ1 := Lib.hid (show j + 1 ≤ 9 by omega)
          clear q1 q2 hmj hj
          have d0 : decide ((j : Int) ≤ 8) = true := by simp; omega
          by_cases hWj : W ≤ j
          · have he := (HCUT.out j hj8).1 hWj
            have eI : I = (W : Int) := by rw [← HI.out]; unfold wrI; rw [if_neg (by omega)]
            have g1 : decide ((0 : Int) ≤ I) = true := by simp; omega
            have g2 : decide (I ≤ (j : Int)) = true := by simp; omega
            have HC := Lib.hid (H6.out _ _ _ _ wr hrj hjc hjn he)
            clear eI he hrj
            go_wp2_with (go_at_call 16; (with_reducible refine HC.out.mono ?_); rintro e w3 ⟨rfl, hb3⟩; have HB3 := Lib.hid (bn HB.out (ba hb3 (.cells #[.int .u16 0, .slice none 0 0] 25))); clear hb3)
            exact ⟨⟨j + 1, HJ1.out, by go_num, HB3.out⟩, by simp [intOf]; omega⟩
          · have g0 : (decide ((0 : Int) ≤ I) = false ∧ W = 9) ∨ (decide ((0 : Int) ≤ I) = true ∧ decide (I ≤ (j : Int)) = false ∧ j < 8) := by
              have hI := HI.out
              unfold wrI at hI
              rcases HW49.out with h9 | h8
              · rw [if_pos h9] at hI
                refine Or.inl ⟨by simp; omega, h9⟩
              · rw [if_neg (by omega)] at hI
                refine Or.inr ⟨by simp; omega, by simp; omega, by omega⟩
            by_cases hj7 : j < 8
            · have he := (HCUT.out j hj8).2 (by omega) hj7
              have HC := Lib.hid (H7.out _ _ _ _ wr hrj hjc hjn he)
              have d1' : decide ((j : Int) < 8) = true := by simp; omega
              clear he hrj
              rcases g0 with ⟨g1, _⟩ | ⟨g1, g2, _⟩
              · go_wp2_with (go_at_call 16; (with_reducible refine HC.out.mono ?_); rintro e w3 ⟨rfl, hb3⟩; have HB3 := Lib.hid (bn HB.out (ba hb3 (.cells #[.int .u16 0, .slice none 0 0] 25))); clear hb3)
                exact ⟨⟨j + 1, HJ1.out, by go_num, HB3.out⟩, by simp [intOf]; omega⟩
              · go_wp2_with (go_at_call 16; (with_reducible refine HC.out.mono ?_); rintro e w3 ⟨rfl, hb3⟩; have HB3 := Lib.hid (bn HB.out (ba hb3 (.cells #[.int .u16 0, .slice none 0 0] 25))); clear hb3)
                exact ⟨⟨j + 1, HJ1.out, by go_num, HB3.out⟩, by simp [intOf]; omega⟩
            · have d1' : decide ((j : Int) < 8) = false := by simp; omega
              have g1 : decide ((0 : Int) ≤ I) = false := by
                rcases g0 with ⟨g1, _⟩ | ⟨_, _, h⟩
                · exact g1
                · omega
              clear g0
              rcases erF_cases (L.take j) most with he | he | he
              · obtain ⟨ch', hch'⟩ : ∃ ch', chF (L.take j) = ch' := ⟨_, rfl⟩
                obtain ⟨k', hk'⟩ : ∃ k', nF (L.take j) = k' := ⟨_, rfl⟩
                obtain ⟨l', hl'⟩ : ∃ l', bodyF (L.take j) = l' := ⟨_, rfl⟩
                obtain ⟨m', hm'⟩ : ∃ m', l'.length = m' := ⟨_, rfl⟩
                have HC := Lib.hid (H0.out _ _ _ _ ch' k' m' l' wr hrj hjc hjn he hch' hk' hl' hm')
                clear he hrj hch' hk' hl' hm'
                go_wp2_with (go_at_call 16; (with_reducible refine HC.out.mono ?_); rintro e w3 ⟨A3, c3, rfl, _, hb3⟩; have HB3 := Lib.hid (bn HB.out (ba hb3 (.cells #[.int .u16 (ch' : Int), .slice A3 m' c3] 25))); clear hb3)
                exact ⟨⟨j + 1, HJ1.out, by go_num, HB3.out⟩, by simp [intOf]; omega⟩
              · have HC := Lib.hid (H6.out _ _ _ _ wr hrj hjc hjn he)
                clear he hrj
                go_wp2_with (go_at_call 16; (with_reducible refine HC.out.mono ?_); rintro e w3 ⟨rfl, hb3⟩; have HB3 := Lib.hid (bn HB.out (ba hb3 (.cells #[.int .u16 0, .slice none 0 0] 25))); clear hb3)
                exact ⟨⟨j + 1, HJ1.out, by go_num, HB3.out⟩, by simp [intOf]; omega⟩
              · have HC := Lib.hid (H7.out _ _ _ _ wr hrj hjc hjn he)
                clear he hrj
                go_wp2_with (go_at_call 16; (with_reducible refine HC.out.mono ?_); rintro e w3 ⟨rfl, hb3⟩; have HB3 := Lib.hid (bn HB.out (ba hb3 (.cells #[.int .u16 0, .slice none 0 0] 25))); clear hb3)
                exact ⟨⟨j + 1, HJ1.out, by go_num, HB3.out⟩, by simp [intOf]; omega⟩
theorem walk (S p t ch : Nat) (A : Option Addr) (n c : Nat) (b : List Nat) (most : Nat) (w : World) (hS : S < 4294967296) (hp : p < 256) (ht : t < 256) (hch : ch < 65536) (hr : Rd .u8 256 w w.heap.size A n b) (hc : n ≤ c) (hm : most < 4294967296) :
    Calls Try.prog 7 #[.agg #[.int .u32 (S : Int), .int .u8 (p : Int), .int .u8 (t : Int), .int .u16 (ch : Int)], .slice A n c, .int .u32 (most : Int)] w fun e w' => e = .returned (.bool true) ∧ Below w.heap.size w w' := by
  by_cases h : 8192 < n
  · exact walk_long S p t ch A n c most w h
  · exact walk_main S p t ch A n c b most w hS hp ht hch hr hc hm (by omega)
end Go.Proofs.Ytemeigdielefiaa.frameHeads
