/-
  The statement FrameRow, walked: it answers true. Memory that was there stays. No condition.
-/
import Derived.Test.YtemeigdielefiaaFro
import Derived.Test.YtemeigdielefiaaFrs
import Derived.Test.YtemeigdielefiaaFrg
import Derived.Deep.RegionHeld3
import Derived.Deep.DeepCutAuto
namespace Go.Proofs.Ytemeigdielefiaa.frameRow
set_option maxRecDepth 100000
open Go.RowKit Go.Proofs.Ytemeigdielefiaa.Utf Go.Proofs.Ytemeigdielefiaa.Enc Go.Proofs.Ytemeigdielefiaa.Fr

theorem walk_long (A : Option Addr) (n c : Nat) (w : World) (h : 40 < n) :
    Calls Try.prog 8 #[.slice A n c] w fun e w' => e = .returned (.bool true) ∧ Below w.heap.size w w' := by
  have d : decide (40 < (n : Int)) = true := by simp; omega
  clear h
  go_enter Try.func8, Try.ntmps8
  go_wp2_with (go_at_call 9; (with_reducible refine (works_any _).mono ?_); rintro e w1 ⟨rfl, hb1⟩)
  go_ret
  exact ⟨rfl, hb1⟩
set_option maxHeartbeats 4000000 in
theorem walk_main (fs : List (Nat × List Nat)) (A : Option Addr) (n c : Nat) (w : World) (hf : Frs w A n fs) (h : n ≤ 40) :
    Calls Try.prog 8 #[.slice A n c] w fun e w' => e = .returned (.bool true) ∧ Below w.heap.size w w' := by
  have d : decide (40 < (n : Int)) = false := by simp; omega
  have HF := Lib.hid hf
  have hfl := hf.1
  have HFL := Lib.hid hfl
  clear hf hfl
  go_enter Try.func8, Try.ntmps8
  go_wp2
  go_loopw [3, 4] (fun b i wr => ∃ (j : Nat) (A' : Option Addr) (n' c' : Nat), j ≤ n ∧ i = .int .i64 (j : Int) ∧ b = .slice A' n' c' ∧ n' ≤ j * 520 ∧ Own .u8 256 5 wr w.heap.size A' n' c' (rowF (fs.take j)) ∧ (∀ k f, k < j → fs[k]? = some f → f.2.length ≤ 512) ∧ Below w.heap.size w wr) (fun _ i _ => n - (intOf i).toNat)
  case atStart => exact ⟨0, none, 0, 0, Nat.zero_le _, rfl, rfl, by omega, Own.nil _ _ _ _ _, fun k f hk => by omega, Below.refl _ _⟩
  case round =>
    obtain ⟨j, A', n', c', hj, rfl, rfl, hn', ho, hall, hb⟩ := hrel
    have HO := Lib.hid ho
    have HA := Lib.hid hall
    have HB := Lib.hid hb
    clear ho hall hb
    by_cases hlt : j < n
    · obtain ⟨fb, fo, ch, body, BA, bl, bc, e, hfb, hx, p0, p1, hch, hr, hk⟩ := (HF.out.call HB.out).2 j hlt
      subst e
      have d2 : decide ((j : Int) < (n : Int)) = true := by simp; omega
      have i0 : (0 : Int) ≤ (j : Int) := by omega
      have i1 : (j : Int) < (n : Int) := by omega
      have hbl := hr.len
      by_cases hlong : 512 < bl
      · have d3 : decide (512 < (bl : Int)) = true := by simp; omega
        clear hx hr hn' hk hbl
        go_wp2_with (go_at_call 9; (with_reducible refine (works_any _).mono ?_); rintro e w1 ⟨rfl, hb1⟩)
        go_ret
        exact ⟨rfl, bn HB.out hb1⟩
      · have d3 : decide (512 < (bl : Int)) = false := by simp; omega
        have HW := Lib.hid (write_any ch BA bl bc body wr hch hr (by omega))
        have HX := Lib.hid hx
        have HBL := Lib.hid hbl
        have hn0 : n' ≤ 20800 := by omega
        have HN' := Lib.hid hn'
        clear hx hr hn' hk hbl
        go_wp2_with (first
          | (go_at_call 11; (with_reducible refine HW.out.mono ?_); rintro e w1 ⟨A1, n1, c1, rfl, ho1, hb1⟩; have hl1 := ho1.len; rw [layF_length, HBL.out] at hl1; have hr1 := ho1.rd; have ho2 := HO.out.below hb1; have hbw := HB.out.trans (hb1.mono HB.out.size); have hs1 := hbw.size)
          | (at_builtin; refine wpList_app8 (l := layF ch body) (L := rowF (fs.take j)) rfl _ _ rfl rfl ho2 rfl hr1 (by omega) hs1 ?_; intro A2 c2 w2 ho3 hg3)
          | fail)
        have hb3 := hbw.trans (below_grown ho2 hg3 hs1)
        go_roundw
        case rel =>
          have hn1 := HN'.out
          exact ⟨j + 1, A2, n' + n1, c2, by omega, by go_num, rfl, by omega, by rw [rowF_snoc HX.out]; exact ho3, fun k f hk hf => by
            rcases Nat.lt_or_ge k j with h' | h'
            · exact HA.out k f h' hf
            · obtain rfl : k = j := by omega
              have := HX.out.symm.trans hf
              injection this with this
              subst this
              show body.length ≤ 512
              rw [HBL.out]
              omega, hb3⟩
        case measure => simp [intOf]; omega
    · obtain rfl : j = n := by omega
      have d2 : decide ((j : Int) < (j : Int)) = false := by simp
      have e0 : rowF (fs.take j) = rowF (fs.drop 0) := by rw [HFL.out, List.take_length, List.drop_zero]
      have hr0 : Rd .u8 256 wr wr.heap.size A' n' (rowF (fs.drop 0)) := e0 ▸ HO.out.rd
      have hcap := HO.out.cap.1
      have hn0 : n' ≤ 20800 := by omega
      clear e0 hn' hlt hj
      obtain ⟨w0, rfl⟩ : ∃ w0 : World, w0 = wr := ⟨_, rfl⟩
      go_wp2
      go_loopw [3, 5] (fun b i wr => ∃ (k : Nat) (A' : Option Addr) (n' c' : Nat), k ≤ j ∧ i = .int .i64 (k : Int) ∧ b = .slice A' n' c' ∧ n' ≤ c' ∧ n' ≤ 20800 ∧ Rd .u8 256 wr wr.heap.size A' n' (rowF (fs.drop k)) ∧ Below w.heap.size w wr) (fun _ i _ => j - (intOf i).toNat)
      case atStart => exact ⟨0, A', n', c', Nat.zero_le _, rfl, rfl, hcap, hn0, hr0, HB.out⟩
      case round =>
        clear hr0 hcap hn0
        obtain ⟨k, A1, n1, c1, hk, rfl, rfl, hcap, hn0, hr0, hb⟩ := hrel
        have HB1 := Lib.hid hb
        clear hb
        by_cases hlt : k < j
        · obtain ⟨fb, fo, ch, body, BA, bl, bc, e, hfb, hx, p0, p1, hch, hr, hkc⟩ := (HF.out.call HB1.out).2 k hlt
          subst e
          have hbl : body.length ≤ 512 := HA.out k _ hlt hx
          have hbe := hr.len
          rw [hbe] at hbl
          have d3 : decide ((k : Int) < (j : Int)) = true := by simp; omega
          have i0 : (0 : Int) ≤ (k : Int) := by omega
          have i1 : (k : Int) < (j : Int) := by omega
          have hro := rowF_drop hx
          dsimp only at hro
          rw [hro] at hr0
          have hN : nF (layF ch body ++ rowF (fs.drop (k + 1))) = 8 + bl := by rw [layF_nF ch body _ (by omega), hbe]
          have hE : erF (layF ch body ++ rowF (fs.drop (k + 1))) 1024 = 0 := by rw [layF_er ch body _ 1024 (by omega), if_neg (by omega)]
          have hC := layF_ch ch body (rowF (fs.drop (k + 1))) hch
          have hBd := layF_body ch body (rowF (fs.drop (k + 1))) (by omega)
          have hn1 : n1 = 8 + bl + (rowF (fs.drop (k + 1))).length := by rw [← hr0.len, List.length_append, layF_length, hbe]
          have hdr : (layF ch body ++ rowF (fs.drop (k + 1))).drop (8 + bl) = rowF (fs.drop (k + 1)) := by
            rw [List.drop_append_of_le_length (by rw [layF_length]; omega), List.drop_of_length_le (by rw [layF_length]; omega), List.nil_append]
          obtain ⟨m, hm⟩ : ∃ m, 8 + bl = m := ⟨_, rfl⟩
          rw [hm] at hN hn1 hdr
          have HC := Lib.hid (show Calls Try.prog 16 #[.slice A1 n1 c1, .int .u32 1024] wr (Fr.Told ch m bl body wr) from read_ok (most := 1024) ch m bl body wr hr0 hcap (by omega) (by omega) hE hC hN hBd hbe)
          obtain ⟨A5, c5, hc5, _, q1, q2, hcut⟩ := cut_from A1 n1 c1 m (by omega) hcap
          have q1' := fun W => q1 W (m : Int) rfl
          have q2' := fun W => q2 W (m : Int) rfl
          have HR0 := Lib.hid (hdr ▸ hcut wr _ _ hr0)
          have d4 : decide ((m : Int) < 8) = false := by simp; omega
          have d5 : decide ((n1 : Int) < (m : Int)) = false := by simp; omega
          have d4' : decide (m < 8) = false := by simp; omega
          have d5' : decide (n1 < m) = false := by simp; omega
          have HRB := Lib.hid hr
          have HF1 := Lib.hid (HF.out.call HB1.out)
          have HM := Lib.hid hm
          have hn5 : n1 - m ≤ 20800 := by omega
          clear hr0 hr hro hN hE hC hBd hn1 hdr q1 q2 hcut hx hm hbl hbe
          go_upto_region 14 with (go_at_call 16; (with_reducible refine HC.out.mono ?_); rintro e w3 ⟨A4, c4, rfl, ho3, hb3⟩; have hb3' := ba hb3 (.cells #[.int .u16 (ch : Int), .slice A4 bl c4] 25); have HY4 := Lib.hid (show BxF (w3.alloc (.cells #[.int .u16 (ch : Int), .slice A4 bl c4] 25)) w3.heap.size ch A4 bl c4 from heap_alloc_new w3 _); have HO4 := Lib.hid (ho3.rd.call (ba (Below.refl _ _) (.cells #[.int .u16 (ch : Int), .slice A4 bl c4] 25))); have HR4 := Lib.hid (HRB.out.call hb3'); have HT4 := Lib.hid (HR0.out.call hb3'); have HB4 := Lib.hid (HB1.out.trans (hb3'.mono HB1.out.size)); have hp0 := fun wy (h : Below _ _ wy) => (h.cell (p := ⟨fb, fo + k * 2, none⟩) (Nat.lt_of_lt_of_le hfb hb3'.size)).trans ((hb3'.cell (p := ⟨fb, fo + k * 2, none⟩) hfb).trans p0); have hp1 := fun wy (h : Below _ _ wy) => (h.cell (p := ⟨fb, fo + k * 2 + 1, none⟩) (Nat.lt_of_lt_of_le hfb hb3'.size)).trans ((hb3'.cell (p := ⟨fb, fo + k * 2 + 1, none⟩) hfb).trans p1); have HP0 := Lib.hid hp0; have HP1 := Lib.hid hp1; clear hb3 hb3' ho3 hp0 hp1)
          generalize hW4 : w3.alloc (.cells #[.int .u16 (ch : Int), .slice A4 bl c4] 25) = w4 at *
          generalize hg4 : w3.heap.size = g4 at *
          have hS4 : ∀ wy, Below w4.heap.size w4 wy → wy.cell? ⟨g4, 0, none⟩ = some (.int .u16 (ch : Int)) ∧ wy.cell? ⟨g4, 1, none⟩ = some (.slice A4 bl c4) ∧ wy.cell? ⟨fb, fo + k * 2, none⟩ = some (.int .u16 (ch : Int)) ∧ wy.cell? ⟨fb, fo + k * 2 + 1, none⟩ = some (.slice BA bl bc) ∧ Below w4.heap.size w4 wy := fun wy h =>
            ⟨(HY4.out.call h).all.1, (HY4.out.call h).all.2.1, HP0.out wy h, HP1.out wy h, h⟩
          have HS := Lib.hid hS4
          clear hS4 hW4 hg4 p0 p1
          refine wp_region_noPanic ?_
          refine wp_region_held_drew (S := fun wx => wx.cell? ⟨g4, 0, none⟩ = some (.int .u16 (ch : Int)) ∧ wx.cell? ⟨g4, 1, none⟩ = some (.slice A4 bl c4) ∧ wx.cell? ⟨fb, fo + k * 2, none⟩ = some (.int .u16 (ch : Int)) ∧ wx.cell? ⟨fb, fo + k * 2 + 1, none⟩ = some (.slice BA bl bc) ∧ Below w4.heap.size w4 wx) (by kernel_rfl) (by exact HS.out _ (Below.refl _ _).drew) (fun hHeld => ?_)
          (refine wpAnyH_take (i := 0) (oi := ⟨some 46, _, _, _, _, _⟩) (v := ?_) rfl (by kernel_rfl) (by kernel_rfl) (by kernel_rfl) (fun _ _ _ h => h) (Or.inl ⟨by kernel_rfl, ?_⟩) (by assumption) ?_; rotate_left 1; (· intro w hSw; (try dsimp only at hSw); go_simp; (try with_reducible rfl)))
          try simp only [Act.put, List.setIfInBounds_toArray, List.set_cons_zero, List.set_cons_succ]
          (refine wpAnyH_take (i := 1) (oi := ⟨some 47, _, _, _, _, _⟩) (v := ?_) rfl (by kernel_rfl) (by kernel_rfl) (by kernel_rfl) (fun _ _ _ h => h) (Or.inl ⟨by kernel_rfl, ?_⟩) (by assumption) ?_; rotate_left 1; (· intro w hSw; (try dsimp only at hSw); go_simp; (try with_reducible rfl)))
          try simp only [Act.put, List.setIfInBounds_toArray, List.set_cons_zero, List.set_cons_succ]
          (refine wpAnyH_take (i := 2) (oi := ⟨some 48, _, _, _, _, _⟩) (v := ?_) rfl (by kernel_rfl) (by kernel_rfl) (by kernel_rfl) (fun _ _ _ h => h) (Or.inl ⟨by kernel_rfl, ?_⟩) (by assumption) ?_; rotate_left 1; (· intro w hSw; (try dsimp only at hSw); go_simp; (try with_reducible rfl)))
          try simp only [Act.put, List.setIfInBounds_toArray, List.set_cons_zero, List.set_cons_succ]
          (refine wpAnyH_take (i := 3) (oi := ⟨some 49, _, _, _, _, _⟩) (v := ?_) rfl (by kernel_rfl) (by kernel_rfl) (by kernel_rfl) (fun _ _ _ h => h) (Or.inl ⟨by kernel_rfl, ?_⟩) (by assumption) ?_; rotate_left 1; (· intro w hSw; (try dsimp only at hSw); go_simp; (try with_reducible rfl)))
          try simp only [Act.put, List.setIfInBounds_toArray, List.set_cons_zero, List.set_cons_succ]
          (refine wpAnyH_take (i := 4) (oi := ⟨some 50, _, _, _, _, _⟩) (v := ?_) rfl (by kernel_rfl) (by kernel_rfl) (by kernel_rfl) (fun _ _ _ h => h) (Or.inl ⟨by kernel_rfl, ?_⟩) (by assumption) ?_; rotate_left 1; (· intro w hSw; (try dsimp only at hSw); go_simp; (try with_reducible rfl)))
          try simp only [Act.put, List.setIfInBounds_toArray, List.set_cons_zero, List.set_cons_succ]
          (refine wpAnyH_take (i := 5) (oi := ⟨some 51, _, _, _, _, _⟩) (v := ?_) rfl (by kernel_rfl) (by kernel_rfl) (by kernel_rfl) (fun _ _ _ h => h) (Or.inl ⟨by kernel_rfl, ?_⟩) (by assumption) ?_; rotate_left 1; (· intro w hSw; (try dsimp only at hSw); go_simp; (try with_reducible rfl)))
          try simp only [Act.put, List.setIfInBounds_toArray, List.set_cons_zero, List.set_cons_succ]
          (refine wpAnyH_take (i := 6) (oi := ⟨some 52, _, _, _, _, _⟩) (v := ?_) rfl (by kernel_rfl) (by kernel_rfl) (by kernel_rfl) (fun _ _ _ h => h) (Or.inl ⟨by kernel_rfl, ?_⟩) (by assumption) ?_; rotate_left 1; (· intro w hSw; (try dsimp only at hSw); go_simp; (try with_reducible rfl)))
          try simp only [Act.put, List.setIfInBounds_toArray, List.set_cons_zero, List.set_cons_succ]
          (refine wpAnyH_take (i := 7) (oi := ⟨some 53, _, _, _, _, _⟩) (v := ?_) rfl (by kernel_rfl) (by kernel_rfl) (by kernel_rfl) (fun _ _ _ h => h) (Or.inl ⟨by kernel_rfl, ?_⟩) (by assumption) ?_; rotate_left 1; (· intro w hSw; (try dsimp only at hSw); go_simp; (try with_reducible rfl)))
          try simp only [Act.put, List.setIfInBounds_toArray, List.set_cons_zero, List.set_cons_succ]
          (refine wpAnyH_take (i := 8) (oi := ⟨some 54, _, _, _, _, _⟩) (v := ?_) rfl (by kernel_rfl) (by kernel_rfl) (by kernel_rfl) (fun _ _ _ h => h) (Or.inl ⟨by kernel_rfl, ?_⟩) (by assumption) ?_; rotate_left 1; (· intro w hSw; (try dsimp only at hSw); go_simp; (try with_reducible rfl)))
          try simp only [Act.put, List.setIfInBounds_toArray, List.set_cons_zero, List.set_cons_succ]
          (refine wpAnyH_take (i := 9) (oi := ⟨some 55, _, _, _, _, _⟩) (v := ?_) rfl (by kernel_rfl) (by kernel_rfl) (by kernel_rfl) (fun _ _ _ h => h) (Or.inl ⟨by kernel_rfl, ?_⟩) (by assumption) ?_; rotate_left 1; (· intro w hSw; (try dsimp only at hSw); go_simp; (try with_reducible rfl)))
          try simp only [Act.put, List.setIfInBounds_toArray, List.set_cons_zero, List.set_cons_succ]
          (refine wpAnyH_take (i := 10) (oi := ⟨some 56, _, _, _, _, _⟩) (v := ?_) rfl (by kernel_rfl) (by kernel_rfl) (by kernel_rfl) (fun _ _ _ h => h) (Or.inl ⟨by kernel_rfl, ?_⟩) (by assumption) ?_; rotate_left 1; (· intro w hSw; (try dsimp only at hSw); go_simp; (try with_reducible rfl)))
          try simp only [Act.put, List.setIfInBounds_toArray, List.set_cons_zero, List.set_cons_succ]
          (refine wpAnyH_take (i := 11) (oi := ⟨some 57, _, _, _, _, _⟩) (v := ?_) rfl (by kernel_rfl) (by kernel_rfl) (by kernel_rfl) (fun _ _ _ h => h) (Or.inl ⟨by kernel_rfl, ?_⟩) (by assumption) ?_; rotate_left 1; (· intro w hSw; (try dsimp only at hSw); go_simp; (try with_reducible rfl)))
          try simp only [Act.put, List.setIfInBounds_toArray, List.set_cons_zero, List.set_cons_succ]
          (refine wpAnyH_take (i := 12) (oi := ⟨some 58, _, _, _, _, _⟩) (v := ?_) rfl (by kernel_rfl) (by kernel_rfl) (by kernel_rfl) (fun _ _ _ h => h) (Or.inl ⟨by kernel_rfl, ?_⟩) (by assumption) ?_; rotate_left 1; (· intro w hSw; (try dsimp only at hSw); go_simp; (try with_reducible rfl)))
          try simp only [Act.put, List.setIfInBounds_toArray, List.set_cons_zero, List.set_cons_succ]
          (refine wpAnyH_take (i := 13) (oi := ⟨some 59, _, _, _, _, _⟩) (v := ?_) rfl (by kernel_rfl) (by kernel_rfl) (by kernel_rfl) (fun _ _ _ h => h) (Or.inl ⟨by kernel_rfl, ?_⟩) (by assumption) ?_; rotate_left 1; (· intro w hSw; (try dsimp only at hSw); go_simp; (try with_reducible rfl)))
          try simp only [Act.put, List.setIfInBounds_toArray, List.set_cons_zero, List.set_cons_succ]
          (refine wpAnyH_take (i := 14) (oi := ⟨some 60, _, _, _, _, _⟩) (v := ?_) rfl (by kernel_rfl) (by kernel_rfl) (by kernel_rfl) (fun _ _ _ h => h) (Or.inl ⟨by kernel_rfl, ?_⟩) (by assumption) ?_; rotate_left 1; (· intro w hSw; (try dsimp only at hSw); go_simp; (try with_reducible rfl)))
          try simp only [Act.put, List.setIfInBounds_toArray, List.set_cons_zero, List.set_cons_succ]
          (refine wpAnyH_take (i := 15) (oi := ⟨some 61, _, _, _, _, _⟩) (v := ?_) rfl (by kernel_rfl) (by kernel_rfl) (by kernel_rfl) (fun _ _ _ h => h) (Or.inl ⟨by kernel_rfl, ?_⟩) (by assumption) ?_; rotate_left 1; (· intro w hSw; (try dsimp only at hSw); go_simp; (try with_reducible rfl)))
          try simp only [Act.put, List.setIfInBounds_toArray, List.set_cons_zero, List.set_cons_succ]
          (refine wpAnyH_take (i := 16) (oi := ⟨some 62, _, _, _, _, _⟩) (v := ?_) rfl (by kernel_rfl) (by kernel_rfl) (by kernel_rfl) (fun _ _ _ h => h) (Or.inl ⟨by kernel_rfl, ?_⟩) (by assumption) ?_; rotate_left 1; (· intro w hSw; (try dsimp only at hSw); go_simp; (try with_reducible rfl)))
          try simp only [Act.put, List.setIfInBounds_toArray, List.set_cons_zero, List.set_cons_succ]
          (refine wpAnyH_take (i := 17) (oi := ⟨some 63, _, _, _, _, _⟩) (v := ?_) rfl (by kernel_rfl) (by kernel_rfl) (by kernel_rfl) (fun _ _ _ h => h) (Or.inl ⟨by kernel_rfl, ?_⟩) (by assumption) ?_; rotate_left 1; (· intro w hSw; (try dsimp only at hSw); go_simp; (try with_reducible rfl)))
          try simp only [Act.put, List.setIfInBounds_toArray, List.set_cons_zero, List.set_cons_succ]
          (refine wpAnyH_ready (rs := [18]) (by kernel_rfl) (by simp) ?_; refine AllReadyH.cons (o := ⟨some 64, _, _, _, _, _⟩) rfl (fun K hK => ?_) AllReadyH.nil; go_simp; (go_at_call 18; (with_reducible refine (same_yes _ _ ch A4 BA bl c4 bc body _ (Rd.call HO4.out hHeld.2.2.2.2) (Rd.call HR4.out hHeld.2.2.2.2) (Nat.le_refl _) (Nat.le_refl _)).mono ?_); rintro e w7 ⟨rfl, hb7⟩; have hb8 := bn hHeld.2.2.2.2 hb7); go_wp2_with fail; refine hK.out _ _ ?_ (fun hHeld => ?_); (· exact (by with_reducible first | assumption | exact HS.out _ (by with_reducible assumption) | exact HS.out _ (bn (by with_reducible assumption) (by with_reducible assumption)))); clear hK K)
          try simp only [Act.put, List.setIfInBounds_toArray, List.set_cons_zero, List.set_cons_succ]
          (refine wpAnyH_take (i := 19) (oi := ⟨some 65, _, _, _, _, _⟩) (v := ?_) rfl (by kernel_rfl) (by kernel_rfl) (by kernel_rfl) (fun _ _ _ h => h) (Or.inl ⟨by kernel_rfl, ?_⟩) (by assumption) ?_; rotate_left 1; (· intro w hSw; (try dsimp only at hSw); go_simp; (try with_reducible rfl)))
          try simp only [Act.put, List.setIfInBounds_toArray, List.set_cons_zero, List.set_cons_succ]
          (refine wpAnyH_take (i := 20) (oi := ⟨some 66, _, _, _, _, _⟩) (v := ?_) rfl (by kernel_rfl) (by kernel_rfl) (by kernel_rfl) (fun _ _ _ h => h) (Or.inl ⟨by kernel_rfl, ?_⟩) (by assumption) ?_; rotate_left 1; (· intro w hSw; (try dsimp only at hSw); go_simp; (try with_reducible rfl)))
          try simp only [Act.put, List.setIfInBounds_toArray, List.set_cons_zero, List.set_cons_succ]
          refine wpAnyH_done (by kernel_rfl) ?_ _
          refine NoPanic.normal ?_
          have hr7 := HT4.out.call hb8
          have hbw7 := bn HB4.out hb8
          have HK := Lib.hid (show k + 1 ≤ j by omega)
          clear hHeld
          go_wp2
          go_roundw
          case rel => exact ⟨k + 1, A5, n1 - m, c5, HK.out, by go_num, rfl, hc5, hn5, hr7, hbw7⟩
          case measure => simp [intOf]; omega
        · obtain rfl : k = j := by omega
          have hz : rowF (fs.drop k) = [] := by rw [List.drop_of_length_le (by have := HFL.out; omega)]; rfl
          rw [hz] at hr0
          obtain rfl : 0 = n1 := hr0.len
          clear hr0 hz
          go_wp2_with (go_at_call 9; (with_reducible refine (works_any _).mono ?_); rintro e w1 ⟨rfl, hb1⟩)
          go_ret
          exact ⟨rfl, bn HB1.out hb1⟩
theorem walk (fs : List (Nat × List Nat)) (A : Option Addr) (n c : Nat) (w : World) (hf : Frs w A n fs) :
    Calls Try.prog 8 #[.slice A n c] w fun e w' => e = .returned (.bool true) ∧ Below w.heap.size w w' := by
  by_cases h : 40 < n
  · exact walk_long A n c w h
  · exact walk_main fs A n c w hf (by omega)
end Go.Proofs.Ytemeigdielefiaa.frameRow
