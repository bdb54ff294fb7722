/-
  The walk of encode's plan.
-/
import Derived.Test.YtikjnbognjicdaaDoorPlanN
import Derived.Deep.RegionLaw
import Derived.Deep.LoopGhost
namespace Go.Proofs.YtikjnbognjicdaaDoor.Enc
set_option maxRecDepth 100000
open Go.RowKit Go.Proofs.YtikjnbognjicdaaDoor.Utf Go.Proofs.YtikjnbognjicdaaDoor.Val V

theorem kid_at {w : World} {ks : List V} {A : Option Addr} {l c : Nat} (h : Val.Kids false w (Lo w.heap.size) ks A l c) {i : Nat} (hi : i < l) : ∃ b o k n t ks' A' l' c', A = some ⟨b, o, none⟩ ∧ ks[i]? = some (.mk k n t ks') ∧
    (∀ wx : World, Below w.heap.size w wx → wx.cell? ⟨b, o + i * 4, none⟩ = some (.int .u8 (k : Int)) ∧ wx.cell? ⟨b, o + i * 4 + 1, none⟩ = some (.int .u64 (n : Int)) ∧ wx.cell? ⟨b, o + i * 4 + 2, none⟩ = some (.string t) ∧ wx.cell? ⟨b, o + i * 4 + 3, none⟩ = some (.slice A' l' c')) ∧
    k < 256 ∧ n < 18446744073709551616 ∧ Val.Kids false w (Lo w.heap.size) ks' A' l' c' := by
  obtain ⟨b, o, k, n, t, ks', A', l', c', e, hP, hx, h0, h1, h2, h3, hk, hn, hK⟩ := h.at_ hi
  exact ⟨b, o, k, n, t, ks', A', l', c', e, hx, fun wx hb => ⟨(hb.cell (p := ⟨b, o + i * 4, none⟩) hP).trans h0, (hb.cell (p := ⟨b, o + i * 4 + 1, none⟩) hP).trans h1, (hb.cell (p := ⟨b, o + i * 4 + 2, none⟩) hP).trans h2, (hb.cell (p := ⟨b, o + i * 4 + 3, none⟩) hP).trans h3⟩, hk, hn, hK⟩
set_option maxHeartbeats 2000000 in
theorem plan_step (k0 n0 : Nat) (t0 : ByteArray) (ks0 : List V) (HN : (plan (.mk k0 n0 t0 ks0)).kind = 24 → PlanV nullV) (IH : ∀ v, bulk v < bulk (.mk k0 n0 t0 ks0) → mayB v = true → PlanV v) (hm0 : mayB (.mk k0 n0 t0 ks0) = true) (hbulk : bulk (.mk k0 n0 t0 ks0) ≤ 33554432) (hk0 : k0 < 256) (hn0 : n0 < 18446744073709551616)
    (A0 : Option Addr) (l0 c0 bm : Nat) (w : World) (hM : CM w bm) (hK0 : Kd w ks0 A0 l0 c0) : Calls Tryd.prog 29 #[.map (some bm), .agg #[.int .u8 (k0 : Int), .int .u64 (n0 : Int), .string t0, .slice A0 l0 c0]] w (GivesP (plan (.mk k0 n0 t0 ks0)) w) := by
  have hsc := store_cplx
  have HIH := Lib.hid IH
  clear IH
  have hP0 : P1 w (((w.alloc (.cells #[.int .u8 (k0 : Int), .int .u64 (n0 : Int), .string t0, .slice A0 l0 c0] 25)).alloc (.cells #[.slice none 0 0, .int .u8 0, .int .u64 0, .string ⟨#[]⟩, .slice none 0 0, .int .u8 0, .bool false, .slice none 0 0, .complex .f64 0 0] 56)).alloc (.cells #[.slice none 0 0, .int .u8 (k0 : Int), .int .u64 (n0 : Int), .string t0, .slice A0 l0 c0, .int .u8 0, .bool false, .slice none 0 0, .complex .f64 0 0] 56)) (.mk k0 n0 t0 ks0) none 0 0 [] [] k0 n0 t0 ks0 A0 l0 c0 := by
    refine ⟨(addN_nil _).symm, hm0, by simp, ⟨hk0, hn0⟩, hK0, ?_, ?_, PR.nil _ _, (((Below.refl _ _).alloc (Nat.le_refl _) _).alloc (by simp) _).alloc (by simp; omega) _, by simp⟩
    · have := Bx.new ((w.alloc (.cells #[.int .u8 (k0 : Int), .int .u64 (n0 : Int), .string t0, .slice A0 l0 c0] 25)).alloc (.cells #[.slice none 0 0, .int .u8 0, .int .u64 0, .string ⟨#[]⟩, .slice none 0 0, .int .u8 0, .bool false, .slice none 0 0, .complex .f64 0 0] 56)) (.slice none 0 0) (.int .u8 (k0 : Int)) (.int .u64 (n0 : Int)) (.string t0) (.slice A0 l0 c0) (.int .u8 0) (.bool false) (.slice none 0 0) (.complex .f64 0 0)
      simpa using this
    · have := (Bx.new (w.alloc (.cells #[.int .u8 (k0 : Int), .int .u64 (n0 : Int), .string t0, .slice A0 l0 c0] 25)) (.slice none 0 0) (.int .u8 0) (.int .u64 0) (.string ⟨#[]⟩) (.slice none 0 0) (.int .u8 0) (.bool false) (.slice none 0 0) (.complex .f64 0 0)).alloc (.cells #[.slice none 0 0, .int .u8 (k0 : Int), .int .u64 (n0 : Int), .string t0, .slice A0 l0 c0, .int .u8 0, .bool false, .slice none 0 0, .complex .f64 0 0] 56)
      simpa using this
  go_enter Tryd.func29, Tryd.ntmps29
  go_wp2
  go_loopg [15] (bulk (.mk k0 n0 t0 ks0)) (fun g _ wr => ∃ NA nl nc done xs k n t ks A l c, g = bulk (.mk k n t ks) ∧ P1 w wr (.mk k0 n0 t0 ks0) NA nl nc done xs k n t ks A l c)
  case atStart => exact ⟨_, _, _, _, _, _, _, _, _, _, _, _, rfl, hP0⟩
  case round =>
    obtain ⟨NA, nl, nc, done, xs, k, n, t, ks, A, l, c, hg, hP⟩ := hrel
    clear hP0
    obtain ⟨q0, q1, q2, q3, q4, q5, q6, q7, q8, qf⟩ := hP.box.all
    by_cases hk : k = 25
    · subst hk
      obtain ⟨x, y, rfl, hnm, hmx, hmy⟩ := may_desc hP.may
      obtain rfl : l = 2 := hP.kd.1
      have hblk := hP.blk
      have hrl := hP.row.len
      obtain ⟨b, o, k1, n1, t1, ks1, A1, l1, c1, rfl, hx1, hx, hk1, hn1, hK1⟩ := kid_at hP.kd (i := 0) (by omega)
      obtain ⟨b', o', k2, n2, t2, ks2, A2, l2, c2, e2, hx2, hy, hk2, hn2, hK2⟩ := kid_at hP.kd (i := 1) (by omega)
      injection e2 with e2
      injection e2 with e2 e3
      subst e2 e3
      simp only [List.getElem?_cons_zero, List.getElem?_cons_succ, Option.some.injEq] at hx1 hx2
      subst hx1 hx2
      rw [Nat.zero_mul, Nat.add_zero] at hx
      rw [Nat.one_mul] at hy
      have q1 : wr.cell? ⟨w.heap.size + 1 + 1, 1, none⟩ = some (.int .u8 25) := q1
      have hcall : ∀ wx : World, Below w.heap.size w wx → Calls Tryd.prog 29 #[.map (some bm), .agg #[.int .u8 (k1 : Int), .int .u64 (n1 : Int), .string t1, .slice A1 l1 c1]] wx (GivesP (plan (.mk k1 n1 t1 ks1)) wx) := fun wx hb =>
        HIH.out (.mk k1 n1 t1 ks1) (by simp only [bulk, bulkL] at hblk ⊢; omega) hmx hk1 hn1 A1 l1 c1 bm wx (hM.call hb) (kids_kd hK1 hb)
      have hnl : nl ≤ 33554432 := by omega
      have hob := hP.row.blk
      have hfar : ∀ r, (Value.slice NA nl nc).ownBlock = some r → w.heap.size + 1 + 1 < r := fun r e => by have := hob r e; omega
      have hsz := hP.sz
      have hws := hP.low.size
      have HP := Lib.hid hP
      have HB := Lib.hid hP.box
      have HL := Lib.hid hP.low
      have HR := Lib.hid hP.row
      obtain ⟨d0, d1, d2, d3⟩ := hx wr.drew hP.low.drew
      obtain ⟨i0, hi, hz0, hz1, hz2⟩ := info_parts infoP
      have HX := Lib.hid hx
      have HY := Lib.hid hy
      have HG := Lib.hid hg
      clear hP hx hy hg hblk hmx hmy hnm
      go_wp2_with fail
      go_region_law (first
        | (refine step_append_lies _ rfl _ _ 53 rfl (w.heap.size + 1 + 1 + 1) 56 i0 _ 9 128 Tryd.underlying53 hi hz0 hz1 hz2 rfl (by omega) _ _ _ rfl (by exact (hrow1.own.alloc _)) ⟨w1.heap.size, 0, none⟩ 1 1 [.slice NA' nl' nc', .int .u8 (k' : Int), .int .u64 (n' : Int), .string t', .slice VA' vl' vc', .int .u8 (code' : Int), .bool bb', .slice KA' kl' kc', .complex .f64 (fb re') (fb im')] rfl rfl (by exact news9 _ _ _ _ _ _ _ _ _ _ _ _ (by simp)) (fun u hu => (by simp at hu; rcases hu with rfl | rfl | rfl | rfl | rfl | rfl | rfl | rfl | rfl <;> rfl)) (by omega) (by unfold maxLen; omega) (by omega) (by simp; omega) _ rfl ?_; intro g9 cap9 w9 hown9 hgrow9 hat9 _; have hbx9 := ((HB.out.call hb1').alloc _).grown hgrow9 hfar; clear q0 q1 q2 q3 q4 q5 q6 q7 q8 qf; obtain ⟨q0, q1, q2, q3, q4, q5, q6, q7, q8, qf⟩ := hbx9.all; have hlow9 : Below w.heap.size w w9 := ((below_next HL.out hb1').alloc (by omega) (.cells #[.slice NA' nl' nc', .int .u8 (k' : Int), .int .u64 (n' : Int), .string t', .slice VA' vl' vc', .int .u8 (code' : Int), .bool bb', .slice KA' kl' kc', .complex .f64 (fb re') (fb im')] 56)).grown hgrow9 (by simp; omega) (fun r e => by have := hob r e; omega); obtain ⟨e0, e1, e2, e3⟩ := HY.out _ (hlow9.setCell (p := ⟨w.heap.size + 1 + 1, 0, none⟩) (by simp; omega) (.slice (some ⟨g9, 0, none⟩) (nl + 1) cap9)))
        | (go_simp; go_at_call 29; (with_reducible refine (hcall wr.drew HL.out.drew).mono ?_); rintro e w1 ⟨ns', k', n', t', code', bb', ks', re', im', NA', nl', nc', VA', vl', vc', KA', kl', kc', hpl, rfl, hpn, hpk, hb1⟩; have hb1' := below_next ((Below.refl wr.heap.size wr).drew) hb1; have hrow1 := HR.out.call hb1'; have hs1 := hb1'.size; obtain ⟨p0, p1, p2, p3, p4, p5, p6, p7, p8, pf⟩ := (HB.out.call hb1').all; obtain ⟨r0, r1, r2, r3, r4, r5, r6, r7, r8, rf⟩ := ((HB.out.call hb1').alloc (.cells #[.slice NA' nl' nc', .int .u8 (k' : Int), .int .u64 (n' : Int), .string t', .slice VA' vl' vc', .int .u8 (code' : Int), .bool bb', .slice KA' kl' kc', .complex .f64 (fb re') (fb im')] 56)).all))
      all_goals
        go_wp2
        go_roundg (bulk (.mk k2 n2 t2 ks2))
        case measure => have := HG.out; simp only [bulk, bulkL] at this ⊢; omega
        case rel => exact ⟨_, _, _, _, _, _, _, _, _, _, _, _, rfl, HP.out.step ⟨hk2, hn2⟩ hK2 hb1' (hpl ▸ repC_of hpn hpk) _ hown9 hgrow9 (hat9.imp id fun h => by simp at h; omega)⟩
    · have dk : ((k : Int) == 25) = false := by rw [beq_eq_false_iff_ne]; omega
      have hmay := hP.may
      have hkk := may_kind hmay hk
      have hblk := hP.blk
      have hl : l = ks.length := hP.kd.1
      have hks := may_kids hmay
      have hkd := hP.kd
      have hsz := hP.sz
      have hws := hP.low.size
      obtain ⟨KS, hKS⟩ : ∃ KS, (if k = 24 then alikeP (planL ks) else planL ks) = KS := ⟨_, rfl⟩
      have hpl0 : plan (.mk k n t ks) = fin [] k n t l KS := by rw [plan_core n t ks hk, hKS, hl]
      have heq : Hid (plan (.mk k0 n0 t0 ks0) = .mk done k n t (first [raw done k n t l KS]) false KS (longK KS) l) := Lib.hid (by rw [hP.eq, hpl0, addN_fin])
      have hfine : Fine 1099511627776 (fin [] k n t l KS) := hpl0 ▸ fine_plan 1099511627776 (.mk k n t ks) hmay (by simp only [bulk] at hblk hbulk ⊢; omega)
      have hlK : longK KS ≤ 1099511627776 := hfine.1.2.2.2.1
      have hKl : KS.length ≤ 1099511627776 := hfine.2.1
      have HFK : Hid (FineL 1099511627776 KS) := Lib.hid hfine.2.2.2
      have HKS2 : Hid ((if k = 24 then alikeP (planL ks) else planL ks) = KS) := Lib.hid hKS
      have HFL : Hid (FineL 1099511627776 (planL ks)) := Lib.hid (fine_planL 1099511627776 ks hks (by simp only [bulk] at hblk hbulk; omega))
      have HNN : Hid (k = 24 → PlanV nullV) := Lib.hid (fun h24 => HN (by rw [hP.eq, hpl0]; simp [addN, fin, Pl.kind]; exact h24))
      clear hfine hKS hpl0
      have hbks : 40 * bulkL ks ≤ 1099511627776 := by simp only [bulk] at hblk hbulk; omega
      have hlen : ks.length ≤ 33554432 := by have := length_bulk ks; simp only [bulk] at hblk hbulk; omega
      have hIH : ∀ v, bulk v ≤ bulkL ks → mayB v = true → PlanV v := fun v hv hm => HIH.out v (by simp only [bulk] at hblk ⊢; omega) hm
      have hP2 := P2.start hP
      obtain ⟨B, hBB⟩ : ∃ B, wr.heap.size = B := ⟨_, rfl⟩
      rw [hBB] at hP2
      have HP2 := Lib.hid hP2
      have HL := Lib.hid hl
      have HKD := Lib.hid hkd
      have HKS := Lib.hid hks
      have HI := Lib.hid hIH
      have HM := Lib.hid hM
      have hcf := conv_float
      clear hP hP2 hg hblk hmay hl hkd hks hIH hM HIH hBB
      go_wp2
      clear q0 q1 q2 q3 q4 q5 q6 q7 q8 qf hsz hws
      go_loopw [45] (fun i w2 => ∃ (j : Nat) (KA : Option Addr) (kl kc : Nat) (xs2 : List Value), j ≤ l ∧ i = .int .i64 (j : Nat) ∧ P2 w w2 B done NA nl nc KA kl kc (planL (ks.take j)) xs2 k n t A l c) (fun i _ => l - (intOf i).toNat)
      case atStart => exact ⟨0, none, 0, 0, [], Nat.zero_le _, rfl, by simpa [planL] using HP2.out⟩
      case round =>
        obtain ⟨j, KA, kl, kc, xs2, hj, rfl, h2⟩ := hrel
        clear HP2
        have hrl := h2.row.len
        rw [planL_length, List.length_take] at hrl
        by_cases hlt : j < l
        · obtain ⟨b, o, k1, n1, t1, ks1, A1, l1, c1, rfl, hx1, hx, hk1, hn1, hK1⟩ := kid_at HKD.out hlt
          have hmem : V.mk k1 n1 t1 ks1 ∈ ks := List.mem_of_getElem? hx1
          have hcall : ∀ wx : World, Below w.heap.size w wx → Calls Tryd.prog 29 #[.map (some bm), .agg #[.int .u8 (k1 : Int), .int .u64 (n1 : Int), .string t1, .slice A1 l1 c1]] wx (GivesP (plan (.mk k1 n1 t1 ks1)) wx) := fun wx hb =>
            HI.out (.mk k1 n1 t1 ks1) (mem_bulk hmem) (mayL_mem HKS.out _ hmem) hk1 hn1 A1 l1 c1 bm wx (HM.out.call hb) (kids_kd hK1 hb)
          have HT : Hid (planL (ks.take (j + 1)) = planL (ks.take j) ++ [plan (.mk k1 n1 t1 ks1)]) := Lib.hid (by rw [List.take_add_one, hx1]; simp [planL_append, planL])
          have hkl : kl ≤ 33554432 := by omega
          have hll : l ≤ 33554432 := by have := HL.out; omega
          obtain ⟨d0, d1, d2, d3⟩ := hx wr h2.low
          obtain ⟨i0, hi, hz0, hz1, hz2⟩ := info_parts infoP
          have hob := h2.row.blk
          have hB := h2.hB
          have hsz := h2.sz
          have hws := h2.low.size
          have hfar : ∀ r, (Value.slice KA kl kc).ownBlock = some r → w.heap.size + 1 + 1 < r := fun r e => by have := hob r e; omega
          have hW0 : wr.heap.size < (wr.alloc (.cells #[.int .u8 (k1 : Int), .int .u64 (n1 : Int), .string t1, .slice A1 l1 c1] 25)).heap.size := by simp
          have hBW := (Below.refl wr.heap.size wr).alloc (Nat.le_refl _) (.cells #[.int .u8 (k1 : Int), .int .u64 (n1 : Int), .string t1, .slice A1 l1 c1] 25)
          have hzz := Box.new wr (.int .u8 (k1 : Int)) (.int .u64 (n1 : Int)) (.string t1) (.slice A1 l1 c1)
          obtain ⟨W0, hWW⟩ : ∃ W0, wr.alloc (.cells #[.int .u8 (k1 : Int), .int .u64 (n1 : Int), .string t1, .slice A1 l1 c1] 25) = W0 := ⟨_, rfl⟩
          rw [hWW] at hBW hzz hW0
          have hBX := h2.box.call hBW
          have hLW := below_next h2.low hBW
          obtain ⟨q0, q1, q2, q3, q4, q5, q6, q7, q8, qf⟩ := hBX.all
          obtain ⟨z0, z1, z2, z3, _⟩ := hzz.all
          have H2 := Lib.hid h2
          have HB := Lib.hid hBX
          have HL2 := Lib.hid hLW
          have HR := Lib.hid h2.row
          have HBW := Lib.hid hBW
          clear h2 hx hx1 hmem hBX hLW hBW hzz
          go_wp2_with fail
          go_region_law (first
            | (refine step_append_lies _ rfl _ _ 53 rfl B 56 i0 _ 9 128 Tryd.underlying53 hi hz0 hz1 hz2 rfl (by omega) _ _ _ rfl (by exact (hrow1.own.alloc _)) ⟨w1.heap.size, 0, none⟩ 1 1 [.slice NA' nl' nc', .int .u8 (k' : Int), .int .u64 (n' : Int), .string t', .slice VA' vl' vc', .int .u8 (code' : Int), .bool bb', .slice KA' kl' kc', .complex .f64 (fb re') (fb im')] rfl rfl (by exact news9 _ _ _ _ _ _ _ _ _ _ _ _ (by simp)) (fun u hu => (by simp at hu; rcases hu with rfl | rfl | rfl | rfl | rfl | rfl | rfl | rfl | rfl <;> rfl)) (by omega) (by unfold maxLen; omega) (by omega) (by simp; omega) _ rfl ?_; intro g9 cap9 w9 hown9 hgrow9 hat9 _; have hbx9 := ((HB.out.call hb1w).alloc _).grown hgrow9 hfar; clear q0 q1 q2 q3 q4 q5 q6 q7 q8 qf; obtain ⟨q0, q1, q2, q3, q4, q5, q6, q7, q8, qf⟩ := hbx9.all)
            | (go_simp; go_at_call 29; (with_reducible refine (hcall W0.drew HL2.out.drew).mono ?_); rintro e w1 ⟨ns', k', n', t', code', bb', ks', re', im', NA', nl', nc', VA', vl', vc', KA', kl', kc', hpl, rfl, hpn, hpk, hb1⟩; have hb1w := below_next ((Below.refl W0.heap.size W0).drew) hb1; have hb1' := below_next HBW.out hb1w; have hrow1 := HR.out.call hb1'; have hs1 := hb1'.size; obtain ⟨p0, p1, p2, p3, p4, p5, p6, p7, p8, pf⟩ := (HB.out.call hb1w).all; obtain ⟨r0, r1, r2, r3, r4, r5, r6, r7, r8, rf⟩ := ((HB.out.call hb1w).alloc (.cells #[.slice NA' nl' nc', .int .u8 (k' : Int), .int .u64 (n' : Int), .string t', .slice VA' vl' vc', .int .u8 (code' : Int), .bool bb', .slice KA' kl' kc', .complex .f64 (fb re') (fb im')] 56)).all))
          all_goals
            go_wp2
            go_roundw
            case measure => simp [intOf]; omega
            case rel => exact ⟨j + 1, _, _, _, _, by omega, by go_num, by rw [HT.out]; exact H2.out.step hb1' (hpl ▸ repC_of (hpn.less (by simp; omega)) (hpk.less (by simp; omega))) _ hown9 hgrow9 (hat9.imp id fun h => by simp at h; omega)⟩
        · have HE : Hid (ks.take j = ks) := Lib.hid (List.take_of_length_le (by have := HL.out; omega))
          rw [HE.out] at h2
          have hlp : Hid ((planL ks).length = kl) := Lib.hid h2.row.len
          have hkl : kl ≤ 1099511627776 := by have := hlp.out; rw [planL_length] at this; omega
          have hBnd : Bnd (planL ks) := fun p hp => by
            obtain ⟨ns', k', n', t', c', b', ks', re', im'⟩ := p
            have := (fineL_mem HFL.out _ hp).1
            exact ⟨by have := this.2.2.2.1; simp only [Pl.re]; omega, by have := this.2.2.2.2.1; simp only [Pl.im]; omega⟩
          have hkinds : ∀ p, (planL ks)[0]? = some p → 1 ≤ p.kind ∧ p.kind ≤ 24 := fun p hp => by
            rw [planL_map] at hp
            obtain ⟨v, hv, rfl⟩ := List.mem_map.1 (List.mem_of_getElem? hp)
            have hm := mayL_mem HKS.out v hv
            rw [(plan_kind v hm).1]
            exact core_kind v hm
          obtain ⟨q0, q1, q2, q3, q4, q5, q6, q7, q8, qf⟩ := h2.box.all
          have hB := h2.hB
          have hsz := h2.sz
          have hws := h2.low.size
          by_cases k24 : k = 24
          · have d24 : ((k : Int) == 24) = true := by rw [beq_iff_eq]; omega
            have HAL := Lib.hid (ealike_any (HNN.out k24) B bm KA kl kc (planL ks) xs2 wr (HM.out.call h2.low) h2.row hBnd hsz hkl hkinds)
            have HKE : alikeP (planL ks) = KS := by have := HKS2.out; rwa [if_pos k24] at this
            rw [HKE] at HAL
            have H2 := Lib.hid h2
            have HBX := Lib.hid h2.box
            clear h2 hBnd hkinds HKE k24
            go_wp2_with (go_at_call 53; (with_reducible refine HAL.out.mono ?_); rintro e w1 ⟨KA3, kl3, kc3, rfl, hpn, hb1⟩; obtain ⟨p0, p1, p2, p3, p4, p5, p6, p7, p8, pf⟩ := (HBX.out.below hb1 (by omega)).all)
            have HP3 := Lib.hid (H2.out.alike hb1 hpn)
            clear hb1 hpn H2 HBX HAL p0 p1 p2 p3 p4 p5 p6 p7 p8 pf
            clear q0 q1 q2 q3 q4 q5 q6 q7 q8 qf hB hsz hws d24 hlp hkl hrl hj hlt HE
            go_loopw [70] (fun i w3 => ∃ (j : Nat), j ≤ kl3 ∧ i = .int .i64 (j : Nat) ∧ P3 w w3 B done NA nl nc KS KA3 kl3 kc3 (longK (KS.take j)) k n t A l c) (fun i _ => kl3 - (intOf i).toNat)
            case atStart => exact ⟨0, Nat.zero_le _, rfl, by simpa [longK] using HP3.out⟩
            case round =>
              obtain ⟨j, hj, rfl, h3⟩ := hrel
              clear HP3
              obtain ⟨q0, q1, q2, q3, q4, q5, q6, q7, q8, qf⟩ := h3.box.all
              have hB := h3.hB
              have hsz := h3.sz
              have hws := h3.low.size
              have HK3 : Hid (kl3 = KS.length) := Lib.hid h3.row.1
              have hl2 : l ≤ 33554432 := by have := HL.out; omega
              have hk3 : kl3 ≤ 1099511627776 := by have := HK3.out; omega
              by_cases hlt : j < kl3
              · obtain ⟨b, o, ns', k', n', t', code', bb', ks', re', im', NA', nl', nc', VA', vl', vc', KA', kl', kc', rfl, hbb, hx, ⟨a0, a1, a2, a3, a4, a5, a6, a7, a8⟩, hN', _⟩ := Ps.at_ h3.row hlt
                have hf := fineL_at HFK.out hx
                obtain ⟨LP, hLP⟩ : ∃ LP, long (.mk ns' k' n' t' code' bb' ks' re' im') = LP := ⟨_, rfl⟩
                obtain ⟨LK, hLK⟩ : ∃ LK, longK (KS.take j) = LK := ⟨_, rfl⟩
                have HT : Hid (longK (KS.take (j + 1)) = LK + LP) := Lib.hid (by rw [longK_take hx, hLP, hLK])
                have hle := longK_take_le KS (j + 1)
                rw [HT.out] at hle
                rw [hLK] at h3 q8
                have hcall : ∀ wx : World, Pd wx ns' NA' nl' nc' → Calls Tryd.prog 31 #[.agg #[.slice NA' nl' nc', .int .u8 (k' : Int), .int .u64 (n' : Int), .string t', .slice VA' vl' vc', .int .u8 (code' : Int), .bool bb', .slice KA' kl' kc', .complex .f64 (fb re') (fb im')]] wx (GivesI LP wx) := fun wx h => hLP ▸ long_any _ ns' ks' NA' nl' nc' k' n' t' VA' vl' vc' code' bb' KA' kl' kc' re' im' wx (Nat.le_refl _) hf h
                have hadd : ∀ wx : World, (binOp .add 54 (.complex .f64 (fb LK) (fb l)) (.complex .f64 (fb LP) 0)).run Tryd.prog wx = .ok (.complex .f64 (fb (LK + LP)) (fb l)) wx := fun wx => add_cplx LK l LP (by omega) (by omega) wx
                have hBW := (Below.refl wr.heap.size wr).alloc (Nat.le_refl _) (.cells #[.slice NA' nl' nc', .int .u8 (k' : Int), .int .u64 (n' : Int), .string t', .slice VA' vl' vc', .int .u8 (code' : Int), .bool bb', .slice KA' kl' kc', .complex .f64 (fb re') (fb im')] 56)
                have hzz := Bx.new wr (.slice NA' nl' nc') (.int .u8 (k' : Int)) (.int .u64 (n' : Int)) (.string t') (.slice VA' vl' vc') (.int .u8 (code' : Int)) (.bool bb') (.slice KA' kl' kc') (.complex .f64 (fb re') (fb im'))
                obtain ⟨W0, hWW⟩ : ∃ W0, wr.alloc (.cells #[.slice NA' nl' nc', .int .u8 (k' : Int), .int .u64 (n' : Int), .string t', .slice VA' vl' vc', .int .u8 (code' : Int), .bool bb', .slice KA' kl' kc', .complex .f64 (fb re') (fb im')] 56) = W0 := ⟨_, rfl⟩
                rw [hWW] at hBW hzz
                have hNW : Pd W0 ns' NA' nl' nc' := (hN'.keep fun i hi => hBW.block i hi.2).mono fun i hi => Nat.lt_of_lt_of_le hi.2 hBW.size
                have hBX := h3.box.call hBW
                obtain ⟨r0, r1, r2, r3, r4, r5, r6, r7, r8, rf⟩ := hBX.all
                obtain ⟨y0, y1, y2, y3, y4, y5, y6, y7, y8, _⟩ := hzz.all
                have H3 := Lib.hid h3
                have HB := Lib.hid hBX
                have HBW := Lib.hid hBW
                have HNW := Lib.hid hNW
                clear h3 hx hBX hBW hzz hN' hNW hf hLP hLK hbb
                go_wp2_with fail
                go_region_law (go_simp; go_at_call 31; (with_reducible refine (hcall W0.drew (HNW.out.call ((Below.refl _ _).drew))).mono ?_); rintro e w2 ⟨rfl, hb2⟩; have hb2w := below_next ((Below.refl W0.heap.size W0).drew) hb2; have hb2' := below_next HBW.out hb2w; obtain ⟨p0, p1, p2, p3, p4, p5, p6, p7, p8, pf⟩ := (HB.out.call hb2w).all)
                all_goals
                  go_wp2
                  go_roundw
                  case measure => simp [intOf]; omega
                  case rel => exact ⟨j + 1, by omega, by go_num, by rw [HT.out]; exact H3.out.step hb2'⟩
              · have HE2 : Hid (KS.take j = KS) := Lib.hid (List.take_of_length_le (by have := HK3.out; omega))
                rw [HE2.out] at h3 q8
                have hcells : RepC wr (fun i => w.heap.size + 1 + 1 + 1 ≤ i ∧ i < wr.heap.size) (raw done k n t l KS) [.slice NA nl nc, .int .u8 (k : Int), .int .u64 (n : Int), .string t, .slice A l c, .int .u8 0, .bool false, .slice KA3 kl3 kc3, .complex .f64 (fb (longK KS)) (fb l)] := repC_of (h3.names.mono fun i hi => ⟨hi.1, by omega⟩) (h3.row.mono fun i hi => ⟨by omega, hi.2⟩)
                obtain ⟨W0, hWW⟩ : ∃ W0, wr.alloc (.cells #[.slice NA nl nc, .int .u8 (k : Int), .int .u64 (n : Int), .string t, .slice A l c, .int .u8 0, .bool false, .slice KA3 kl3 kc3, .complex .f64 (fb (longK KS)) (fb l)] 56) = W0 := ⟨_, rfl⟩
                have hBW : Below wr.heap.size wr W0 := hWW ▸ (Below.refl wr.heap.size wr).alloc (Nat.le_refl _) _
                have hone : Pn (w.heap.size + 1 + 1 + 1) W0 [raw done k n t l KS] (some ⟨wr.heap.size, 0, none⟩) 1 1 := by
                  refine pn_one hcells hBW ⟨by omega, by rw [← hWW]; simp⟩ fun j u hu => ?_
                  have h := news9 wr (.slice NA nl nc) (.int .u8 (k : Int)) (.int .u64 (n : Int)) (.string t) (.slice A l c) (.int .u8 0) (.bool false) (.slice KA3 kl3 kc3) (.complex .f64 (fb (longK KS)) (fb l)) 56 _ rfl j u hu
                  rw [hWW] at h
                  rwa [show (⟨wr.heap.size, 0, none⟩ : Addr).add j = ⟨wr.heap.size, j, none⟩ by simp [Addr.add]; intro h; exact h.symm] at h
                obtain ⟨CD, hCD⟩ : ∃ CD, first [raw done k n t l KS] = CD := ⟨_, rfl⟩
                have hcall : Calls Tryd.prog 54 #[.map (some bm), .slice (some ⟨wr.heap.size, 0, none⟩) 1 1] W0 (GivesC CD W0) := hCD ▸ first_any [raw done k n t l KS] bm _ 1 1 W0 (HM.out.call (below_next h3.low hBW)) hone.pd (fun p hp => by simp at hp; subst hp; exact ⟨by simp only [raw, Pl.re]; omega, by simp only [raw, Pl.im]; omega⟩) (by omega) rfl hkk.1 hkk.2
                rw [hCD] at heq
                have H3 := Lib.hid h3
                have HBW := Lib.hid hBW
                have hBX := h3.box
                have hRX := h3.res
                have HBX := Lib.hid (hBX.call hBW)
                have HRX := Lib.hid (hRX.call hBW)
                clear h3 hcells hBW hone hCD hBX hRX
                go_wp2_with (go_at_call 54; (with_reducible refine hcall.mono ?_); rintro e w2 ⟨rfl, hb2⟩; obtain ⟨p0, p1, p2, p3, p4, p5, p6, p7, p8, pf⟩ := (HBX.out.call hb2).all; obtain ⟨r0, r1, r2, r3, r4, r5, r6, r7, r8, rf⟩ := (HRX.out.call hb2).all)
                refine bodyPost_ret (v := .agg #[.slice NA nl nc, .int .u8 (k : Int), .int .u64 (n : Int), .string t, .slice A l c, .int .u8 (CD : Int), .bool false, .slice KA3 kl3 kc3, .complex .f64 (fb (longK KS)) (fb l)]) (by simp [results, Tryd.results29, go_sem, r0, r1, r2, r3, r4, r5, r6, r7, r8]) rfl ?_
                have hs0 := HBW.out.size
                have hs2 := hb2.size
                have hlw := H3.out.low.size
                refine ⟨done, k, n, t, CD, false, KS, longK KS, l, NA, nl, nc, A, l, c, KA3, kl3, kc3, heq.out, rfl, ?_, ?_, ?_⟩
                · exact (H3.out.finish (below_next HBW.out hb2) (fun i hi => by (repeat rw [Below.heap_setCell _ _ _ i (by simp; omega)])) (by simp)).1
                · exact (H3.out.finish (below_next HBW.out hb2) (fun i hi => by (repeat rw [Below.heap_setCell _ _ _ i (by simp; omega)])) (by simp)).2
                · (repeat' refine Below.setCell ?_ (by simp <;> omega) _)
                  exact below_next (below_next H3.out.low HBW.out) hb2
          · have d24 : ((k : Int) == 24) = false := by rw [beq_eq_false_iff_ne]; omega
            obtain ⟨KA3, kl3, kc3, e1, e2, e3⟩ : ∃ a b c, a = KA ∧ b = kl ∧ c = kc := ⟨_, _, _, rfl, rfl, rfl⟩
            subst e1 e2 e3
            have HKE : planL ks = KS := by have := HKS2.out; rwa [if_neg k24] at this
            rw [HKE] at h2
            have HP3 := Lib.hid h2.plain
            clear h2 hBnd hkinds HKE k24
            go_wp2
            clear q0 q1 q2 q3 q4 q5 q6 q7 q8 qf hB hsz hws d24 hlp hkl hrl hj hlt HE
            go_loopw [70] (fun i w3 => ∃ (j : Nat), j ≤ kl3 ∧ i = .int .i64 (j : Nat) ∧ P3 w w3 B done NA nl nc KS KA3 kl3 kc3 (longK (KS.take j)) k n t A l c) (fun i _ => kl3 - (intOf i).toNat)
            case atStart => exact ⟨0, Nat.zero_le _, rfl, by simpa [longK] using HP3.out⟩
            case round =>
              obtain ⟨j, hj, rfl, h3⟩ := hrel
              clear HP3
              obtain ⟨q0, q1, q2, q3, q4, q5, q6, q7, q8, qf⟩ := h3.box.all
              have hB := h3.hB
              have hsz := h3.sz
              have hws := h3.low.size
              have HK3 : Hid (kl3 = KS.length) := Lib.hid h3.row.1
              have hl2 : l ≤ 33554432 := by have := HL.out; omega
              have hk3 : kl3 ≤ 1099511627776 := by have := HK3.out; omega
              by_cases hlt : j < kl3
              · obtain ⟨b, o, ns', k', n', t', code', bb', ks', re', im', NA', nl', nc', VA', vl', vc', KA', kl', kc', rfl, hbb, hx, ⟨a0, a1, a2, a3, a4, a5, a6, a7, a8⟩, hN', _⟩ := Ps.at_ h3.row hlt
                have hf := fineL_at HFK.out hx
                obtain ⟨LP, hLP⟩ : ∃ LP, long (.mk ns' k' n' t' code' bb' ks' re' im') = LP := ⟨_, rfl⟩
                obtain ⟨LK, hLK⟩ : ∃ LK, longK (KS.take j) = LK := ⟨_, rfl⟩
                have HT : Hid (longK (KS.take (j + 1)) = LK + LP) := Lib.hid (by rw [longK_take hx, hLP, hLK])
                have hle := longK_take_le KS (j + 1)
                rw [HT.out] at hle
                rw [hLK] at h3 q8
                have hcall : ∀ wx : World, Pd wx ns' NA' nl' nc' → Calls Tryd.prog 31 #[.agg #[.slice NA' nl' nc', .int .u8 (k' : Int), .int .u64 (n' : Int), .string t', .slice VA' vl' vc', .int .u8 (code' : Int), .bool bb', .slice KA' kl' kc', .complex .f64 (fb re') (fb im')]] wx (GivesI LP wx) := fun wx h => hLP ▸ long_any _ ns' ks' NA' nl' nc' k' n' t' VA' vl' vc' code' bb' KA' kl' kc' re' im' wx (Nat.le_refl _) hf h
                have hadd : ∀ wx : World, (binOp .add 54 (.complex .f64 (fb LK) (fb l)) (.complex .f64 (fb LP) 0)).run Tryd.prog wx = .ok (.complex .f64 (fb (LK + LP)) (fb l)) wx := fun wx => add_cplx LK l LP (by omega) (by omega) wx
                have hBW := (Below.refl wr.heap.size wr).alloc (Nat.le_refl _) (.cells #[.slice NA' nl' nc', .int .u8 (k' : Int), .int .u64 (n' : Int), .string t', .slice VA' vl' vc', .int .u8 (code' : Int), .bool bb', .slice KA' kl' kc', .complex .f64 (fb re') (fb im')] 56)
                have hzz := Bx.new wr (.slice NA' nl' nc') (.int .u8 (k' : Int)) (.int .u64 (n' : Int)) (.string t') (.slice VA' vl' vc') (.int .u8 (code' : Int)) (.bool bb') (.slice KA' kl' kc') (.complex .f64 (fb re') (fb im'))
                obtain ⟨W0, hWW⟩ : ∃ W0, wr.alloc (.cells #[.slice NA' nl' nc', .int .u8 (k' : Int), .int .u64 (n' : Int), .string t', .slice VA' vl' vc', .int .u8 (code' : Int), .bool bb', .slice KA' kl' kc', .complex .f64 (fb re') (fb im')] 56) = W0 := ⟨_, rfl⟩
                rw [hWW] at hBW hzz
                have hNW : Pd W0 ns' NA' nl' nc' := (hN'.keep fun i hi => hBW.block i hi.2).mono fun i hi => Nat.lt_of_lt_of_le hi.2 hBW.size
                have hBX := h3.box.call hBW
                obtain ⟨r0, r1, r2, r3, r4, r5, r6, r7, r8, rf⟩ := hBX.all
                obtain ⟨y0, y1, y2, y3, y4, y5, y6, y7, y8, _⟩ := hzz.all
                have H3 := Lib.hid h3
                have HB := Lib.hid hBX
                have HBW := Lib.hid hBW
                have HNW := Lib.hid hNW
                clear h3 hx hBX hBW hzz hN' hNW hf hLP hLK hbb
                go_wp2_with fail
                go_region_law (go_simp; go_at_call 31; (with_reducible refine (hcall W0.drew (HNW.out.call ((Below.refl _ _).drew))).mono ?_); rintro e w2 ⟨rfl, hb2⟩; have hb2w := below_next ((Below.refl W0.heap.size W0).drew) hb2; have hb2' := below_next HBW.out hb2w; obtain ⟨p0, p1, p2, p3, p4, p5, p6, p7, p8, pf⟩ := (HB.out.call hb2w).all)
                all_goals
                  go_wp2
                  go_roundw
                  case measure => simp [intOf]; omega
                  case rel => exact ⟨j + 1, by omega, by go_num, by rw [HT.out]; exact H3.out.step hb2'⟩
              · have HE2 : Hid (KS.take j = KS) := Lib.hid (List.take_of_length_le (by have := HK3.out; omega))
                rw [HE2.out] at h3 q8
                have hcells : RepC wr (fun i => w.heap.size + 1 + 1 + 1 ≤ i ∧ i < wr.heap.size) (raw done k n t l KS) [.slice NA nl nc, .int .u8 (k : Int), .int .u64 (n : Int), .string t, .slice A l c, .int .u8 0, .bool false, .slice KA3 kl3 kc3, .complex .f64 (fb (longK KS)) (fb l)] := repC_of (h3.names.mono fun i hi => ⟨hi.1, by omega⟩) (h3.row.mono fun i hi => ⟨by omega, hi.2⟩)
                obtain ⟨W0, hWW⟩ : ∃ W0, wr.alloc (.cells #[.slice NA nl nc, .int .u8 (k : Int), .int .u64 (n : Int), .string t, .slice A l c, .int .u8 0, .bool false, .slice KA3 kl3 kc3, .complex .f64 (fb (longK KS)) (fb l)] 56) = W0 := ⟨_, rfl⟩
                have hBW : Below wr.heap.size wr W0 := hWW ▸ (Below.refl wr.heap.size wr).alloc (Nat.le_refl _) _
                have hone : Pn (w.heap.size + 1 + 1 + 1) W0 [raw done k n t l KS] (some ⟨wr.heap.size, 0, none⟩) 1 1 := by
                  refine pn_one hcells hBW ⟨by omega, by rw [← hWW]; simp⟩ fun j u hu => ?_
                  have h := news9 wr (.slice NA nl nc) (.int .u8 (k : Int)) (.int .u64 (n : Int)) (.string t) (.slice A l c) (.int .u8 0) (.bool false) (.slice KA3 kl3 kc3) (.complex .f64 (fb (longK KS)) (fb l)) 56 _ rfl j u hu
                  rw [hWW] at h
                  rwa [show (⟨wr.heap.size, 0, none⟩ : Addr).add j = ⟨wr.heap.size, j, none⟩ by simp [Addr.add]; intro h; exact h.symm] at h
                obtain ⟨CD, hCD⟩ : ∃ CD, first [raw done k n t l KS] = CD := ⟨_, rfl⟩
                have hcall : Calls Tryd.prog 54 #[.map (some bm), .slice (some ⟨wr.heap.size, 0, none⟩) 1 1] W0 (GivesC CD W0) := hCD ▸ first_any [raw done k n t l KS] bm _ 1 1 W0 (HM.out.call (below_next h3.low hBW)) hone.pd (fun p hp => by simp at hp; subst hp; exact ⟨by simp only [raw, Pl.re]; omega, by simp only [raw, Pl.im]; omega⟩) (by omega) rfl hkk.1 hkk.2
                rw [hCD] at heq
                have H3 := Lib.hid h3
                have HBW := Lib.hid hBW
                have hBX := h3.box
                have hRX := h3.res
                have HBX := Lib.hid (hBX.call hBW)
                have HRX := Lib.hid (hRX.call hBW)
                clear h3 hcells hBW hone hCD hBX hRX
                go_wp2_with (go_at_call 54; (with_reducible refine hcall.mono ?_); rintro e w2 ⟨rfl, hb2⟩; obtain ⟨p0, p1, p2, p3, p4, p5, p6, p7, p8, pf⟩ := (HBX.out.call hb2).all; obtain ⟨r0, r1, r2, r3, r4, r5, r6, r7, r8, rf⟩ := (HRX.out.call hb2).all)
                refine bodyPost_ret (v := .agg #[.slice NA nl nc, .int .u8 (k : Int), .int .u64 (n : Int), .string t, .slice A l c, .int .u8 (CD : Int), .bool false, .slice KA3 kl3 kc3, .complex .f64 (fb (longK KS)) (fb l)]) (by simp [results, Tryd.results29, go_sem, r0, r1, r2, r3, r4, r5, r6, r7, r8]) rfl ?_
                have hs0 := HBW.out.size
                have hs2 := hb2.size
                have hlw := H3.out.low.size
                refine ⟨done, k, n, t, CD, false, KS, longK KS, l, NA, nl, nc, A, l, c, KA3, kl3, kc3, heq.out, rfl, ?_, ?_, ?_⟩
                · exact (H3.out.finish (below_next HBW.out hb2) (fun i hi => by (repeat rw [Below.heap_setCell _ _ _ i (by simp; omega)])) (by simp)).1
                · exact (H3.out.finish (below_next HBW.out hb2) (fun i hi => by (repeat rw [Below.heap_setCell _ _ _ i (by simp; omega)])) (by simp)).2
                · (repeat' refine Below.setCell ?_ (by simp <;> omega) _)
                  exact below_next (below_next H3.out.low HBW.out) hb2
/-- What plan answers of a null. -/
theorem plan_nullV : PlanV nullV := fun _ _ A l c bm w hM hK =>
  plan_step 1 0 ⟨#[]⟩ [] (fun h => by rw [show V.mk 1 0 ⟨#[]⟩ [] = nullV from rfl, plan_null] at h; cases h) (fun v hv => by have := bulk_pos v; simp [bulk, bulkL, ByteArray.size] at hv; omega) (by decide) (by decide) (by omega) (by omega) A l c bm w hM hK
/-- What plan answers of any value that may be. -/
theorem plan_all (N : Nat) : ∀ v : V, bulk v ≤ N → mayB v = true → bulk v ≤ 33554432 → PlanV v := by
  induction N with
  | zero => intro v hv; have := bulk_pos v; omega
  | succ N ih =>
    intro v hv hm hb hk hn A l c bm w hM hK
    obtain ⟨k, n, t, ks⟩ := v
    exact plan_step k n t ks (fun _ => plan_nullV) (fun u hu hmu => ih u (by omega) hmu (by omega)) hm hb hk hn A l c bm w hM hK
theorem plan_any (v : V) (hm : mayB v = true) (hb : bulk v ≤ 33554432) : PlanV v := plan_all _ v (Nat.le_refl _) hm hb
end Go.Proofs.YtikjnbognjicdaaDoor.Enc
