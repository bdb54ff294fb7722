/-
  The statement OctetRow: the law returns true for all rows of pieces, and its arguments read as before. No condition.
-/
import Derived.Test.YtaennednmkbihaaRowMath
import Derived.IntWalk
namespace Go.Proofs.Ytaennednmkbihaa.octetRow
open Go.ChangeShapes Go.WideShapes Go.ChangeAt Go.RowKit Go.Proofs.Ytaennednmkbihaa.Oct

theorem walk_long (A A' A'' : Option Addr) (n c n' c' n'' c'' : Nat) (w : World) (h : 40 < n ∨ 1000 < n'') :
    Calls Try.prog 7 #[.slice A n c, .slice A' n' c', .slice A'' n'' c''] w fun e w' => e = .returned (.bool true) ∧ Below w.heap.size w w' := by
  by_cases h1 : 40 < n
  · clear h
    go_enter Try.func7, Try.ntmps7
    go_wp2_with (go_at_call 9; refine (works_any _).mono ?_; rintro e w1 ⟨rfl, hb1⟩)
    go_ret
    exact ⟨rfl, hb1⟩
  · have h2 : 1000 < n'' := by omega
    have d1 : decide (40 < (n : Int)) = false := by simp; omega
    clear h
    go_enter Try.func7, Try.ntmps7
    go_wp2_with (go_at_call 9; refine (works_any _).mono ?_; rintro e w1 ⟨rfl, hb1⟩)
    go_ret
    exact ⟨rfl, hb1⟩

/-- x[:k]. -/
theorem cut_to (A : Option Addr) (n c k : Nat) (hk : k ≤ c) (W : World) (i : Int) (hi : i = k) : (Instr.slice 22 (.slice A n c) none (some (.int .i64 i)) none).run Try.prog W = .ok (.slice A k c) W := by
  subst hi
  rw [run_slice_h (P := Try.prog) (w := W) 22 A n c under22 .i64 (k : Int) (by omega) (by omega), elem22, size5]
  simp only [Result.andThen, sliced, Int.toNat_natCast, Nat.zero_mul, Nat.sub_zero]
  have e : A.map (·.add 0) = A := by cases A <;> simp [Addr.add]
  rw [e]
  simp

set_option maxRecDepth 100000 in
set_option maxHeartbeats 800000 in
theorem walk_short (A A' A'' : Option Addr) (n c n' c' n'' c'' : Nat) (F : Nat → Option Addr) (L C : Nat → Nat) (Z : Nat → List UInt8) (T : Nat → Bool) (lb : List UInt8) (w : World)
    (hP : Ps w w.heap.size A n F L C Z) (hT : Bs w w.heap.size A' n' T) (hB : Rd w w.heap.size A'' n'' lb) (h1 : n ≤ 40) (h2 : n'' ≤ 1000) :
    Calls Try.prog 7 #[.slice A n c, .slice A' n' c', .slice A'' n'' c''] w fun e w' => e = .returned (.bool true) ∧ Below w.heap.size w w' := by
  have d1 : decide (40 < (n : Int)) = false := by simp; omega
  have d2 : decide (1000 < (n'' : Int)) = false := by simp; omega
  go_enter Try.func7, Try.ntmps7
  go_wp2
  go_loopw [7, 8] (fun b i wr => ∃ (m : Nat) (Ai : Option Addr) (ni ci : Nat), m ≤ n ∧ i = .int .i64 m ∧ b = .slice Ai ni ci ∧ ni ≤ 259 * m ∧ Rd wr wr.heap.size Ai ni (rf Z (wn T n') 0 m) ∧ (∀ r, r < m → L r ≤ 255) ∧ Below w.heap.size w wr) (fun _ i _ => n - (intOf i).toNat)
  case atStart => exact ⟨0, none, 0, 0, Nat.zero_le _, rfl, rfl, by omega, Rd.zero _ _ _, fun r hr => absurd hr (by omega), Below.refl _ _⟩
  case round =>
    obtain ⟨m, Ai, ni, ci, hm, rfl, rfl, hni, hri, hL, hb⟩ := hrel
    by_cases hlt : m < n
    · obtain ⟨b, o, rfl, hbl, hc, hLC, hrp⟩ := hP m hlt
      have hcr : wr.cell? ⟨b, o + m, none⟩ = some (.slice (F m) (L m) (C m)) := (hb.cell (p := ⟨b, o + m, none⟩) hbl).trans hc
      have hrpr := (hrp.below hb).mono hb.size
      have hTr := hT.below hb
      have HL := Lib.hid hL
      clear hc hrp hL
      by_cases hlen : 255 < L m
      · go_wp2_with (go_at_call 9; refine (works_any _).mono ?_; rintro e w1 ⟨rfl, hb1⟩)
        go_ret
        exact ⟨rfl, hb.trans (hb1.mono hb.size)⟩
      · have dl : decide (255 < (L m : Int)) = false := by simp; omega
        have hq := wn_or T n' m
        have hok : okp ((wn T n' m : Nat) : Int) (L m) := by
          unfold okp
          rcases hq with hq | hq <;> rw [hq] <;> omega
        have HX : Hid ((rf Z (wn T n') 0 m ++ be (L m) ((wn T n' m : Nat) : Int).toNat) ++ Z m = rf Z (wn T n') 0 (m + 1)) := Lib.hid (by
          rw [rf_add, Nat.zero_add, Int.toNat_natCast, List.append_assoc]
          unfold laid
          rw [hrpr.len])
        have HY : Hid ((rf Z (wn T n') 0 (m + 1)).length = ni + wn T n' m + L m) := Lib.hid (by
          rw [← HX.out, List.length_append, List.length_append, be_length, Int.toNat_natCast, hri.len, hrpr.len])
        have i0 : (0 : Int) ≤ (m : Int) := by omega
        have i1 : (m : Int) < (n : Int) := by omega
        generalize hrow1 : rf Z (wn T n') 0 (m + 1) = row1 at *
        have HR1 := Lib.hid hrow1
        clear hrow1
        generalize rf Z (wn T n') 0 m = row0 at *
        generalize hqe : wn T n' m = q at *
        have HQ := Lib.hid hqe
        clear hqe
        go_wp2_with fail
        go_region_held3 (fun w' => w'.cell? ⟨b, o + m, none⟩ = some (.slice (F m) (L m) (C m)))
          (first | exact hcr | exact hc1)
          (first
            | (go_at_call 22; refine (wide_any _ A' n' c' m T _ (by exact hTr)).mono ?_; rw [HQ.out]; rintro e w' ⟨rfl, rfl⟩)
            | (go_at_call 18; refine (layp_yes Ai (F m) ni ci (L m) (C m) row0 (Z m) q _ hok (by exact hri) (by exact hrpr) (by omega) (by omega)).mono ?_; rw [HX.out]; rintro e w1 ⟨A1, n1, c1, rfl, ho1, hb1'⟩; have hb1 : Below wr.heap.size wr w1 := below_of_drew hb1'; have hc1 : w1.cell? ⟨b, o + m, none⟩ = some (.slice (F m) (L m) (C m)) := (hb1.cell (p := ⟨b, o + m, none⟩) (Nat.lt_of_lt_of_le hbl hb.size)).trans hcr; clear hb1'))
        have hn1 : n1 = ni + q + L m := by rw [← ho1.len]; exact HY.out
        have hTr1 := hTr.below (hb1.mono hb.size)
        have hz1 := hb.size
        have hbe : Below w.heap.size w w1 := hb.trans (hb1.mono hb.size)
        have hrd1 := ho1.rd
        clear ho1 hri hrpr hTr hb hb1 hok
        have hq4 : q ≤ 4 := by omega
        have hLm : L m ≤ 255 := by omega
        have hni' : ni ≤ 10360 := by omega
        have hne : ((n1 : Int) != (ni : Int) + (q : Int) + (L m : Int)) = false := by simp; omega
        have hnb : n1 ≤ 259 * (m + 1) := by omega
        have e1 : IntKind.i64.wrap ((ni : Int) + (q : Int)) = (ni : Int) + (q : Int) := IntWalk.i64_in _ (by omega)
        have e2 : IntKind.i64.wrap ((ni : Int) + (q : Int) + (L m : Int)) = (ni : Int) + (q : Int) + (L m : Int) := IntWalk.i64_in _ (by omega)
        clear hn1 hq
        go_wp2_with fail
        go_region_held3 (fun w' => w'.cell? ⟨b, o + m, none⟩ = some (.slice (F m) (L m) (C m)))
          (first | exact hc1)
          (first | (go_at_call 22; refine (wide_any _ A' n' c' m T _ (by exact hTr1)).mono ?_; rw [HQ.out]; rintro e w' ⟨rfl, rfl⟩))
        clear e1 e2
        go_wp2
        refine ⟨⟨m + 1, A1, n1, c1, by omega, by go_num, rfl, hnb, ?_, fun r hr => ?_, hbe.drew⟩, by simp [intOf]; omega⟩
        · rw [HR1.out]; exact hrd1
        · rcases Nat.lt_or_ge r m with h | h
          · exact HL.out r h
          · obtain rfl : r = m := by omega
            exact hLm
    · obtain ⟨wo, rfl⟩ : ∃ wo : World, wo = wr := ⟨_, rfl⟩
      have hbs := (hB.below hb).mono hb.size
      have hTr := hT.below hb
      have hPr := hP.below hb
      have hz := hb.size
      obtain rfl : m = n := by omega
      have HL := Lib.hid hL
      have hni' : ni ≤ 10360 := by omega
      have ho0 : Own (wo.alloc (.cells #[] 5)) wo.heap.size (some ⟨wo.heap.size, 0, none⟩) 0 0 [] := own_lit wo wo.heap.size 0 [] rfl (by unfold maxLen; omega) (Nat.le_refl _)
      have hr0 := hri.alloc (Nat.le_refl _) (.cells #[] 5)
      have hbs0 := hbs.alloc (Nat.le_refl _) (.cells #[] 5)
      have hb0 : Below wo.heap.size wo (wo.alloc (.cells #[] 5)) := (Below.refl _ _).alloc (Nat.le_refl _) _
      generalize hrow : rf Z (wn T n') 0 m = row at *
      have HR := Lib.hid hrow
      clear hrow hL hlt hPr hTr
      have t1 : True := trivial
      have t2 : True := trivial
      go_wp2_with (first
        | (at_builtin; have _t := t1; refine wpList_app (l := row) (L := []) rfl _ _ rfl rfl ho0 rfl hr0 (by omega) hb0.size ?_; clear t1 _t; intro A2 c2 w2 hown2 hgrow2; simp only [Nat.zero_add, List.nil_append] at hown2; have hb2 := hb0.trans (below_grown ho0 hgrow2 hb0.size); have hz2 := hb2.size; have hbs2 := hbs.below hb2)
        | (at_builtin; have _t := t2; refine wpList_app (l := lb) (L := row) rfl _ _ rfl rfl hown2 rfl hbs2 (by omega) hz2 ?_; clear t2 _t; intro A3 c3 w3 hown3 hgrow3; have hb3 := hb2.trans (below_grown hown2 hgrow3 hz2); have hz3 := hb3.size)
        | (at_builtin; refine wpList_app (l := row) (L := []) rfl _ _ rfl rfl (own_lit w3 w3.heap.size 0 [] rfl (by unfold maxLen; omega) (Nat.le_refl _)) rfl (((hri.below hb3).mono hz3).alloc (Nat.le_refl _) _) (by omega) (by simp) ?_; intro A5 c5 w5 hown5 hgrow5; simp only [Nat.zero_add, List.nil_append] at hown5; have hb5 : Below w3.heap.size w3 w5 := ((Below.refl _ _).alloc (Nat.le_refl _) _).trans (below_grown (own_lit w3 w3.heap.size 0 [] rfl (by unfold maxLen; omega) (Nat.le_refl _)) hgrow5 (by simp))))
      have hrA : Rd w5 w5.heap.size A3 (ni + n'') (row ++ lb) := (hown3.below hb5).rd
      have hrB : Rd w5 w5.heap.size A5 ni row := hown5.rd
      have hcA := hown3.cap.1
      have hcB := hown5.cap.1
      have hbw : Below w.heap.size w w5 := (hb.trans (hb3.mono hz)).trans (hb5.mono (Nat.le_trans hz hz3))
      rw [← HR.out] at hrA hrB
      clear hown2 hown3 hown5 hgrow2 hgrow3 hgrow5 ho0 hr0 hbs0 hb0 hbs2 hb2 hb3 hb5 hri hb hbs HR
      go_loopw [11, 12, 13] (fun a b i wx => ∃ (t s : Nat) (Aa : Option Addr) (na ca : Nat) (Ab : Option Addr) (nb cb : Nat), t + s = m ∧ i = .int .i64 t ∧ a = .slice Aa na ca ∧ b = .slice Ab nb cb ∧ na ≤ ca ∧ nb ≤ cb ∧ na ≤ 20000 ∧ nb ≤ 20000 ∧ Rd wx wx.heap.size Aa na (rf Z (wn T n') t s ++ lb) ∧ Rd wx wx.heap.size Ab nb (rf Z (wn T n') t s) ∧ Below w.heap.size w wx) (fun _ _ i _ => m - (intOf i).toNat)
      case atStart => exact ⟨0, m, A3, ni + n'', c3, A5, ni, c5, by omega, rfl, rfl, rfl, hcA, hcB, by omega, by omega, hrA, hrB, hbw⟩
      case round =>
        clear hrA hrB hbw
        obtain ⟨t, s, Aa, na, ca, Ab, nb, cb, hts, rfl, rfl, rfl, hca, hcb, hna, hnb, hra, hrb, hbx⟩ := hrel
        by_cases hs : s = 0
        · subst hs
          have q1 := run_str ca hra
          have q2 := run_str c'' (hB.below hbx)
          have hge : m ≤ t := by omega
          rw [show rf Z (wn T n') t 0 ++ lb = lb from rfl] at q1
          clear hts hra hrb
          go_wp2_with (go_at_call 9; refine (works_any _).mono ?_; rintro e w6 ⟨rfl, hb6⟩)
          go_ret
          exact ⟨rfl, hbx.trans (hb6.mono hbx.size)⟩
        · obtain ⟨s', rfl⟩ : ∃ s', s = s' + 1 := ⟨s - 1, by omega⟩
          have hlt : t < m := by omega
          obtain ⟨b, o, rfl, hbl, hc, hLC, hrp⟩ := hP t hlt
          have hcr : wr.cell? ⟨b, o + t, none⟩ = some (.slice (F t) (L t) (C t)) := (hbx.cell (p := ⟨b, o + t, none⟩) hbl).trans hc
          have hrpx := hrp.below hbx
          have hTx := hT.below hbx
          have hzl : (Z t).length ≤ 255 := by rw [hrp.len]; exact HL.out t hlt
          rw [rf] at hra hrb
          rw [List.append_assoc] at hra
          generalize hqe : wn T n' t = q at *
          have hq : q = 1 ∨ q = 4 := by rw [← hqe]; exact wn_or T n' t
          have HQ := Lib.hid hqe
          clear hqe
          have E1 := Lib.hid (ppc_laid (Z t) q (rf Z (wn T n') (t + 1) s' ++ lb) hq hzl)
          have E2 := Lib.hid (prs_laid (Z t) q (rf Z (wn T n') (t + 1) s' ++ lb) hq hzl)
          have E3 := Lib.hid (perr_laid (Z t) q (rf Z (wn T n') (t + 1) s' ++ lb) hq hzl)
          have G2 := Lib.hid (prs_laid (Z t) q (rf Z (wn T n') (t + 1) s') hq hzl)
          go_wp2_with (first
            | (go_at_call 22; refine (wide_any _ A' n' c' t T _ hTx).mono ?_; rw [HQ.out]; rintro e w' ⟨rfl, rfl⟩)
            | (go_at_call 20; refine (piece_any Aa na ca _ q _ hra hca (by omega)).mono ?_; rw [E1.out, E2.out, E3.out]; rintro e w6 ⟨P, np, cp, R, nr, cr, rfl, hoP, hoR, hb6⟩))
          have hb6w : Below w.heap.size w w6 := hbx.trans (hb6.mono hbx.size)
          have hc6 : w6.drew.cell? ⟨b, o + t, none⟩ = some (.slice (F t) (L t) (C t)) := (hb6.cell (p := ⟨b, o + t, none⟩) (Nat.lt_of_lt_of_le hbl hbx.size)).trans hcr
          have qP : (convert 22 9 (.slice P np cp)).run Try.prog w6.drew = .ok (.string ⟨(Z t).toArray⟩) w6.drew := run_str (w := w6.drew) (B := w6.heap.size) cp hoP.rd
          have qF : (convert 22 9 (.slice (F t) (L t) (C t))).run Try.prog w6.drew = .ok (.string ⟨(Z t).toArray⟩) w6.drew := run_str (w := w6.drew) (B := w.heap.size) (C t) (hrp.below hb6w.drew)
          have hrR : Rd w6.drew w6.heap.size R nr (rf Z (wn T n') (t + 1) s' ++ lb) := hoR.rd
          have hcR := hoR.cap.1
          have hnR : nr ≤ 20000 := by
            have a1 := hoR.len
            have a2 := hra.len
            rw [List.length_append] at a2
            omega
          have hrb6 : Rd w6.drew w6.heap.size Ab nb (laid (Z t) q ++ rf Z (wn T n') (t + 1) s') := (hrb.below hb6).mono hb6.size
          have hT6 : Bs w6.drew w.heap.size A' n' T := hT.below hb6w.drew
          have i0 : (0 : Int) ≤ (t : Int) := by omega
          have i1 : (t : Int) < (m : Int) := by omega
          clear hra hrb hoP hoR hcr hTx hrpx hc
          go_region_held3 (fun w' => w'.cell? ⟨b, o + t, none⟩ = some (.slice (F t) (L t) (C t)) ∧ (convert 22 9 (.slice P np cp)).run Try.prog w' = .ok (.string ⟨(Z t).toArray⟩) w' ∧ (convert 22 9 (.slice (F t) (L t) (C t))).run Try.prog w' = .ok (.string ⟨(Z t).toArray⟩) w')
            (first | exact ⟨hc6, qP, qF⟩)
            (first | fail)
          clear qP qF hc6
          have hb6d : Below w.heap.size w w6.drew := hb6w.drew
          have hz6 : w6.drew.heap.size = w6.heap.size := rfl
          generalize w6.drew = w7 at *
          rw [← hz6] at hrR hrb6
          clear hz6
          have hn2 : ∀ {nr2 : Nat}, (rf Z (wn T n') (t + 1) s').length = nr2 → (laid (Z t) q ++ rf Z (wn T n') (t + 1) s').length = nb → nr2 ≤ 20000 := by
            intro nr2 a1 a2
            rw [List.length_append] at a2
            omega
          by_cases hs0 : s' = 0
          · have dt : ((t : Int) == (m : Int) - 1) = true := by simp; omega
            have hnbv : nb = q + (Z t).length := by
              have := hrb6.len
              rw [hs0, List.length_append, laid_length] at this
              simp [rf] at this
              omega
            have hrc : Rd w7 w7.heap.size Ab (nb - 1) ((laid (Z t) q).take (q + (Z t).length - 1)) := by
              have := hrb6.take (k := nb - 1) (by omega)
              rw [hs0, show rf Z (wn T n') (t + 1) 0 = [] from rfl, List.append_nil, hnbv] at this
              rw [hnbv]
              exact this
            have E7 := Lib.hid (perr_short (Z t) q hq hzl)
            have ct : ∀ W : World, (Instr.slice 22 (.slice Ab nb cb) none (some (.int .i64 ((nb : Int) - 1))) none).run Try.prog W = .ok (.slice Ab (nb - 1) cb) W := fun W => cut_to Ab nb cb (nb - 1) (by omega) W _ (by omega)
            have ct' : ∀ W : World, (Instr.sliceAt 22 (.slice Ab nb cb) none (some (.int .i64 ((nb : Int) - 1))) none).run Try.prog W = .ok (.slice Ab (nb - 1) cb) W := fun W => by
              rw [run_sliceAt_slice (P := Try.prog) (w := W) 22 _ _ _ _ under22]; exact ct W
            have hnb1 : 1 ≤ nb := by omega
            have ew : IntKind.i64.wrap ((nb : Int) - 1) = (nb : Int) - 1 := IntWalk.i64_in _ (by omega)
            clear hnbv
            go_wp2_with fail
            go_region_held3 (fun _ => True) (trivial)
              (first
                | (go_at_call 22; refine (wide_any _ A' n' c' t T _ (by exact hT6)).mono ?_; rw [HQ.out]; rintro e w' ⟨rfl, rfl⟩)
                | (go_at_call 20; refine (piece_any Ab (nb - 1) cb _ q _ (by exact hrc) (by omega) (by omega)).mono ?_; rw [E7.out]; generalize ppc ((laid (Z t) q).take (q + (Z t).length - 1)) (q : Int) = y1; generalize prs ((laid (Z t) q).take (q + (Z t).length - 1)) (q : Int) = y2; rintro e w9 ⟨P3, np3, cp3, R3, nr3, cr3, rfl, hoP3, hoR3, hb9⟩))
            have hb9' : Below w7.heap.size w7 w9 := below_of_drew hb9
            have hrR9 := (hrR.below hb9').mono hb9'.size
            have hrb9 := (hrb6.below hb9').mono hb9'.size
            have hb9w : Below w.heap.size w w9 := hb6d.trans (hb9'.mono hb6d.size)
            have hT9 := hT.below hb9w
            clear hrc hoP3 hoR3 hb9 hT6 ct ct' ew hrR hrb6
            go_wp2_with (first
              | (go_at_call 22; refine (wide_any _ A' n' c' t T _ hT9).mono ?_; rw [HQ.out]; rintro e w' ⟨rfl, rfl⟩)
              | (go_at_call 20; refine (piece_any Ab nb cb _ q _ hrb9 hcb (by omega)).mono ?_; rw [G2.out]; generalize ppc (laid (Z t) q ++ rf Z (wn T n') (t + 1) s') (q : Int) = x1; generalize perr (laid (Z t) q ++ rf Z (wn T n') (t + 1) s') (q : Int) = x2; rintro e w8 ⟨P2, np2, cp2, R2, nr2, cr2, rfl, hoP2, hoR2, hb8⟩))
            exact ⟨⟨t + 1, s', R, nr, cr, R2, nr2, cr2, by omega, by go_num, rfl, rfl, hcR, hoR2.cap.1, hnR, hn2 hoR2.len hrb9.len, (hrR9.below hb8).mono hb8.size, hoR2.rd, hb9w.trans (hb8.mono hb9w.size)⟩, by simp [intOf]; omega⟩
          · have dt : ((t : Int) == (m : Int) - 1) = false := by simp; omega
            go_wp2_with (first
              | (go_at_call 22; refine (wide_any _ A' n' c' t T _ hT6).mono ?_; rw [HQ.out]; rintro e w' ⟨rfl, rfl⟩)
              | (go_at_call 20; refine (piece_any Ab nb cb _ q _ hrb6 hcb (by omega)).mono ?_; rw [G2.out]; generalize ppc (laid (Z t) q ++ rf Z (wn T n') (t + 1) s') (q : Int) = x1; generalize perr (laid (Z t) q ++ rf Z (wn T n') (t + 1) s') (q : Int) = x2; rintro e w8 ⟨P2, np2, cp2, R2, nr2, cr2, rfl, hoP2, hoR2, hb8⟩))
            exact ⟨⟨t + 1, s', R, nr, cr, R2, nr2, cr2, by omega, by go_num, rfl, rfl, hcR, hoR2.cap.1, hnR, hn2 hoR2.len hrb6.len, (hrR.below hb8).mono hb8.size, hoR2.rd, hb6d.trans (hb8.mono hb6d.size)⟩, by simp [intOf]; omega⟩

theorem walk (A A' A'' : Option Addr) (n c n' c' n'' c'' : Nat) (F : Nat → Option Addr) (L C : Nat → Nat) (Z : Nat → List UInt8) (T : Nat → Bool) (lb : List UInt8) (w : World)
    (hP : Ps w w.heap.size A n F L C Z) (hT : Bs w w.heap.size A' n' T) (hB : Rd w w.heap.size A'' n'' lb) :
    Calls Try.prog 7 #[.slice A n c, .slice A' n' c', .slice A'' n'' c''] w fun e w' => e = .returned (.bool true) ∧ Below w.heap.size w w' := by
  by_cases h : 40 < n ∨ 1000 < n''
  · exact walk_long A A' A'' n c n' c' n'' c'' w h
  · exact walk_short A A' A'' n c n' c' n'' c'' F L C Z T lb w hP hT hB (by omega) (by omega)

set_option maxRecDepth 100000 in
theorem lifted (os : Os) (started : os.Started) (H : Type) (enc : TypeId × Value → H) :
    ReturnsInHanded {} Try.checked os 7 .any (Rows.octetRowSpec.pre6 enc Try.prog Try.f7 Rows.octetRowRow.domain false) (Rows.octetRowSpec.post enc Try.prog Try.f7 false true false false) := by
  refine returnsInHanded_of_change (C := Try.checked) own started (by kernel_rfl) Try.func7
    (ChangeSpec.witness6 (enc := enc) (C := Try.checked) false ⟨#[], #[.slice none 0 0, .slice none 0 0, .slice none 0 0], []⟩ 8 (by kernel_rfl) (by kernel_rfl) (by kernel_rfl) (by kernel_rfl)) ?_
  intro W base args ds gs before hval0 hW hcnd _
  have hval : ∀ (j : Nat) t v, Try.f7.params[j]? = some t → args[j]? = some v → Value.okWide Try.prog W .any base t v := hval0
  have hW' := hW
  obtain ⟨p, q, hA0, hV, rfl, hfz, hnd⟩ := hW
  have hA : DataW.TrodAll enc Try.prog W 0 (fun _ => true) true Try.f7.params.toList args.toList ds p := hA0
  rw [Try.params7] at hA hval
  obtain ⟨v0, vs0, d0, ds0, p0, q0, hargs, rfl, rfl, h0, r0⟩ := trodAll_cons hA
  obtain ⟨v1, vs1, d1, ds1, p1, q1, rfl, rfl, rfl, h1, r1⟩ := trodAll_cons r0
  obtain ⟨v2, vs2, d2, ds2, p2, q2, rfl, rfl, rfl, h2, r2⟩ := trodAll_cons r1
  obtain ⟨rfl, rfl, rfl⟩ := trodAll_nil r2
  obtain rfl : args = #[v0, v1, v2] := by cases args; simp_all
  obtain ⟨rfl, rfl⟩ := trodVars_none hV
  clear hA0 hval0
  simp only [List.append_nil] at hW'
  have hlt0 : ∀ x ∈ p0, x.block < W.heap.size := fun x hx => hW'.lt x (by simp [hx])
  have hlt1 : ∀ x ∈ p1, x.block < W.heap.size := fun x hx => hW'.lt x (by simp [hx])
  have hlt2 : ∀ x ∈ p2, x.block < W.heap.size := fun x hx => hW'.lt x (by simp [hx])
  obtain ⟨A, n, c, F, L, C, Z, rfl, _, _, hP⟩ := open_pieces (hval 0 41 v0 rfl rfl) h0 hlt0
  obtain ⟨A', n', c', T, rfl, _, _, hT⟩ := open_long (hval 1 42 v1 rfl rfl) h1 hlt1
  obtain ⟨A'', n'', c'', lb, rfl, _, _, hB⟩ := open_bytes (hval 2 22 v2 rfl rfl) h2 hlt2
  refine (walk A A' A'' n c n' c' n'' c'' F L C Z T lb W hP hT hB).mono fun e W' ⟨he, hb⟩ => ?_
  subst he
  exact ⟨_, rfl, _, _, _, [], _, [], hW', trodAll_mk1 (shut_bool Try.underlying4 _), trodAll_cons_mk (Below.trod laidOut (by kernel_rfl) (of_decide_eq_true (by kernel_rfl)) h0 hb hlt0) (trodAll_cons_mk (Below.trod laidOut (by kernel_rfl) (of_decide_eq_true (by kernel_rfl)) h1 hb hlt1) (trodAll_cons_mk (Below.trod laidOut (by kernel_rfl) (of_decide_eq_true (by kernel_rfl)) h2 hb hlt2) trodAll_mk0)), rfl, hb.frame _, fun h => by cases h⟩

theorem over : Rows.octetRowRow.holds Try.pinned (OpenSpec.ofChange Rows.octetRowSpec) :=
  OpenClaim.holds_of_wide 7 Try.f7 rfl rfl rfl rfl rfl rfl rfl ⟨rfl, rfl, rfl, rfl, rfl⟩ rfl rfl rfl rfl rfl (by kernel_rfl) Try.func7 (by kernel_rfl)
    (of_decide_eq_true (by kernel_rfl)) (by unfold Func.isWrapper; first | (rw [if_pos (by decide +kernel)]; kernel_rfl) | (rw [if_neg (by decide +kernel)]; exact ⟨rfl, rfl⟩))
    (fun os started H enc _ => lifted os started H enc)

/-- The statement. -/
theorem proved : Rows.OctetRowSaid :=
  over
end Go.Proofs.Ytaennednmkbihaa.octetRow
