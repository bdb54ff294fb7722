/-
  The statement FrameBack, walked: it answers true. Memory that was there stays. No condition.
-/
import Derived.Test.YtemeigdielefiaaFrx
import Derived.Test.YtemeigdielefiaaFrs
namespace Go.Proofs.Ytemeigdielefiaa.frameBack
set_option maxRecDepth 100000
open Go.RowKit Go.Proofs.Ytemeigdielefiaa.Utf Go.Proofs.Ytemeigdielefiaa.Enc Go.Proofs.Ytemeigdielefiaa.Fr

theorem walk_long (ch : Nat) (A : Option Addr) (n c : Nat) (A' : Option Addr) (n' c' most cut : Nat) (w : World) (h : 8192 < n ∨ 4096 < n') :
    Calls Try.prog 5 #[.agg #[.int .u16 (ch : Int), .slice A n c], .slice A' n' c', .int .u32 (most : Int), .int .u16 (cut : Int)] w fun e w' => e = .returned (.bool true) ∧ Below w.heap.size w w' := by
  have hb0 : Below w.heap.size w (w.alloc (.cells #[.int .u16 (ch : Int), .slice A n c] 25)) := ba (Below.refl _ _) _
  by_cases h1 : 8192 < n
  · have d : decide (8192 < (n : Int)) = true := by simp; omega
    clear h h1
    go_enter Try.func5, Try.ntmps5
    go_wp2_with (go_at_call 9; (with_reducible refine (works_any _).mono ?_); rintro e w1 ⟨rfl, hb1⟩)
    go_ret
    exact ⟨rfl, bn hb0 hb1⟩
  · have d : decide (8192 < (n : Int)) = false := by simp; omega
    have d2 : decide (4096 < (n' : Int)) = true := by simp; omega
    clear h h1
    go_enter Try.func5, Try.ntmps5
    go_wp2_with (go_at_call 9; (with_reducible refine (works_any _).mono ?_); rintro e w1 ⟨rfl, hb1⟩)
    go_ret
    exact ⟨rfl, bn hb0 hb1⟩
set_option maxHeartbeats 4000000 in
theorem walk_main (ch : Nat) (A : Option Addr) (n c : Nat) (b : List Nat) (A' : Option Addr) (n' c' : Nat) (b' : List Nat) (most cut : Nat) (w : World) (hch : ch < 65536) (hr : Rd .u8 256 w w.heap.size A n b) (hr' : Rd .u8 256 w w.heap.size A' n' b') (hm : most < 4294967296) (hcut : cut < 65536) (hn : n ≤ 8192) (hn' : n' ≤ 4096) :
    Calls Try.prog 5 #[.agg #[.int .u16 (ch : Int), .slice A n c], .slice A' n' c', .int .u32 (most : Int), .int .u16 (cut : Int)] w fun e w' => e = .returned (.bool true) ∧ Below w.heap.size w w' := by
  have hb0 : Below w.heap.size w (w.alloc (.cells #[.int .u16 (ch : Int), .slice A n c] 25)) := ba (Below.refl _ _) _
  have hx0 : BxF (w.alloc (.cells #[.int .u16 (ch : Int), .slice A n c] 25)) w.heap.size ch A n c := heap_alloc_new w _
  have HB0 := Lib.hid hb0
  have HX0 := Lib.hid hx0
  have hr0 := hr.call hb0
  have HR' := Lib.hid (hr'.call hb0)
  have HRF := Lib.hid hr
  have HW := Lib.hid (write_any ch A n c b _ hch hr0 (by omega))
  have hl := hr.len
  have hl' := hr'.len
  have hLL : (layF ch b).length = 8 + n := by rw [layF_length, hl]
  have hE : erF (layF ch b ++ b') most = if most < 8 + b.length then 6 else 0 := layF_er ch b b' most (by omega)
  have hN : nF (layF ch b ++ b') = 8 + n := by rw [layF_nF ch b b' (by omega), hl]
  have hC : chF (layF ch b ++ b') = ch := layF_ch ch b b' hch
  have hBd : bodyF (layF ch b ++ b') = b := layF_body ch b b' (by omega)
  have hE' : ∀ k, k < 8 + n → ¬ most < 8 + n → erF ((layF ch b).take k) most = 7 := fun k hk hmost => by
    have e0 := layF_er ch b [] most (by omega)
    have n0 := layF_nF ch b [] (by omega)
    rw [List.append_nil, if_neg (by omega)] at e0
    rw [List.append_nil] at n0
    exact erF_cut e0 (by omega)
  rw [hl] at hE
  have HE := Lib.hid hE
  have HE' := Lib.hid hE'
  have HN := Lib.hid hN
  have HC := Lib.hid hC
  have HBd := Lib.hid hBd
  have HLB := Lib.hid hl
  have hLy := layF_byte ch b hr.lim
  have HLy := Lib.hid hLy
  clear hE hE' hN hC hBd hr hr' hb0 hx0 hLy
  have d1 : decide (8192 < (n : Int)) = false := by simp; omega
  have d2 : decide (4096 < (n' : Int)) = false := by simp; omega
  generalize layF ch b = L at *
  obtain ⟨M, hM⟩ : ∃ M, 8 + n = M := ⟨_, rfl⟩
  have hMi : IntKind.i64.wrap (8 + (n : Int)) = (M : Int) := by rw [show 8 + (n : Int) = (M : Int) by omega]; exact IntWalk.i64_in _ (by omega)
  have hMu : IntKind.u64.wrap (M : Int) = (M : Int) := by simp only [IntKind.wrap, IntKind.bits, IntKind.signed]; simp; omega
  have hmu : IntKind.u64.wrap (most : Int) = (most : Int) := by simp only [IntKind.wrap, IntKind.bits, IntKind.signed]; simp; omega
  rw [hM] at hLL HE HE' HN
  have HM := Lib.hid hM
  clear hM
  have hM8 : 8 ≤ M ∧ M ≤ 8200 := by have := HM.out; omega
  obtain ⟨hM8, hM9⟩ := hM8
  go_enter Try.func5, Try.ntmps5
  have t1 : True := trivial
  have t2 : True := trivial
  go_wp2_with fail
  refine HW.out.mono ?_
  rintro e w1 ⟨A1, n1, c1, rfl, ho1, hb1⟩
  obtain rfl : M = n1 := by rw [← hLL]; exact ho1.len
  have hX1 := HX0.out.call hb1
  obtain ⟨x0, x1, _, _⟩ := hX1.all
  have HX1 := Lib.hid hX1
  have HB1 := Lib.hid (bn HB0.out hb1)
  have HR1 := Lib.hid (HR'.out.call hb1)
  have HO1 := Lib.hid ho1
  have hcap1 := ho1.cap.1
  have hrd1 := ho1.rd
  clear hb1 ho1 hX1
  go_wp2_with (first
    | (at_builtin; have _t := t1; refine wpList_app8 (l := L) (L := []) rfl _ _ rfl rfl (Own.nil .u8 256 5 w1 w1.heap.size) rfl hrd1 (by omega) (Nat.le_refl _) ?_; clear t1 _t; intro A2 c2 w2 ho2 hg2; simp only [Nat.zero_add, List.nil_append] at ho2; have hb2 := below_grown (Own.nil .u8 256 5 w1 w1.heap.size) hg2 (Nat.le_refl _); have hrd2 := HR1.out.call hb2; have hs2 := hb2.size)
    | (at_builtin; have _t := t2; refine wpList_app8 (l := b') (L := L) rfl _ _ rfl rfl ho2 rfl hrd2 (by omega) hs2 ?_; clear t2 _t; intro A3 c3 w3 ho3 hg3; have hb3 := hb2.trans (below_grown ho2 hg3 hs2); have hcap3 := ho3.cap.1; have hrd3 := ho3.rd)
    | fail)
  have HB3 := Lib.hid (bn HB1.out hb3)
  have HX3 := Lib.hid (HX1.out.call hb3)
  have HO3 := Lib.hid (HO1.out.below hb3)
  clear hb2 hb3 hg2 hg3 ho2 hrd2 hs2 hrd1 HR1
  by_cases hmost : most < M
  · have hE0 : erF (L ++ b') most = 6 := by rw [HE.out, if_pos hmost]
    have d : decide (most < M) = true := by simpa using hmost
    (with_reducible refine (read_no6 w3 hrd3 hcap3 (by omega) hm hE0).mono ?_)
    rintro e w4 ⟨rfl, hb4⟩
    have HB4 := Lib.hid (bn HB3.out hb4)
    clear hb4
    go_wp2_with (first
      | (go_at_call 18; (with_reducible refine (same_zero _).mono ?_); rintro e w5 ⟨rfl, hb5⟩; have HB5 := Lib.hid (bn (ba HB4.out _) hb5); clear hb5)
      | (go_at_call 9; (with_reducible refine (works_any _).mono ?_); rintro e w6 ⟨rfl, hb6⟩)
      | fail)
    go_ret
    exact ⟨rfl, bn HB5.out hb6⟩
  · have hE0 : erF (L ++ b') most = 0 := by rw [HE.out, if_neg hmost]
    have d : decide (most < M) = false := by simpa using hmost
    obtain ⟨K, hK⟩ : ∃ K, cut % M = K := ⟨_, rfl⟩
    have hKlt : K < M := by rw [← hK]; exact Nat.mod_lt _ (by omega)
    clear hMi
    have K3 := Lib.hid (show wrap64 (M : Int) = (M : Int) from by unfold wrap64; omega)
    have k4 : (M == 0) = false := by simp; omega
    have k5 : ¬ M = 0 := by omega
    have K6 := Lib.hid (show IntKind.i64.wrap (cut : Int) = (cut : Int) from by rw [IntKind.wrap_i64]; omega)
    have k7 : ((M : Int) == 0) = false := by simp; omega
    obtain ⟨q1, q2⟩ := cut_to A1 M c1 K (by omega) hcap1
    have q1' := fun W => q1 W (K : Int) rfl
    have q2' := fun W => q2 W (K : Int) rfl
    have HE7 := Lib.hid (HE'.out K hKlt hmost)
    have hKc : K ≤ c1 := by omega
    have hKn : K ≤ 1099511627776 := by omega
    have hKM : K ≤ M := by omega
    have K1 := Lib.hid (show (cut : Int).tmod (M : Int) = (K : Int) from by rw [← hK]; exact Int.ofNat_tmod cut M)
    have K2 := Lib.hid (show (cut : Int) % (M : Int) = (K : Int) from by rw [← hK]; exact Int.natCast_emod cut M |>.symm)
    clear hK q1 q2 HE'
    (with_reducible refine (read_ok ch M n b w3 hrd3 hcap3 (by omega) hm hE0 HC.out HN.out HBd.out HLB.out).mono ?_)
    rintro e w4 ⟨A4, c4, rfl, ho4, hb4⟩
    have hx4 : BxF (w4.alloc (.cells #[.int .u16 (ch : Int), .slice A4 n c4] 25)) w4.heap.size ch A4 n c4 := heap_alloc_new w4 _
    have hbb : Below w3.heap.size w3 (w4.alloc (.cells #[.int .u16 (ch : Int), .slice A4 n c4] 25)) := ba hb4 _
    have HX4 := Lib.hid hx4
    have HX5 := Lib.hid (HX3.out.call hbb)
    have HB5 := Lib.hid (bn HB3.out hbb)
    have HR4 := Lib.hid (ho4.rd.call (ba (Below.refl _ _) (.cells #[.int .u16 (ch : Int), .slice A4 n c4] 25)))
    have hrK := (HO3.out.rd.call hbb).take (k := K) hKM
    clear hb4 hbb hx4 ho4 hrd3
    have HrK := Lib.hid hrK
    clear hrK
    have k1 := K1.out
    have k2 := K2.out
    have k3 := K3.out
    have k6 := K6.out
    have HRD : Hid (∀ wx, Rd .u8 256 wx wx.heap.size A1 K (L.take K) → Calls Try.prog 16 #[.slice A1 K c1, .int .u32 (most : Int)] wx (Says (.tuple #[.agg #[.int .u16 0, .slice none 0 0], .int .i64 0, .int .i64 7]) wx)) := Lib.hid fun wx h => read_no7 wx h hKc hKn hm HE7.out
    go_wp2_with (first
      | (go_at_call 16; (with_reducible refine (HRD.out _ HrK.out).mono ?_); rintro e w5 ⟨rfl, hb5⟩; have hb5' := ba hb5 (.cells #[.int .u16 0, .slice none 0 0] 25); have hX6 := HX4.out.call hb5'; have hX7 := HX5.out.call hb5'; obtain ⟨y0, y1, _, _⟩ := hX6.all; obtain ⟨z0, z1, _, _⟩ := hX7.all; have hR6 := HR4.out.call hb5'; have HB6 := Lib.hid (bn HB5.out hb5'); have hRf := HRF.out.call (bn HB5.out hb5'); clear hb5 hb5' hX6 hX7 k1 k2)
      | (go_at_call 18; (with_reducible refine (same_yes _ _ ch A A4 n c c4 b _ hRf hR6 (Nat.le_refl _) (Nat.le_refl _)).mono ?_); rintro e w7 ⟨rfl, hb7⟩; have HB7 := Lib.hid (bn HB6.out hb7); clear hb7)
      | (go_at_call 9; (with_reducible refine (works_any _).mono ?_); rintro e w8 ⟨rfl, hb8⟩)
      | fail)
    go_ret
    exact ⟨rfl, bn HB7.out hb8⟩
theorem walk (ch : Nat) (A : Option Addr) (n c : Nat) (b : List Nat) (A' : Option Addr) (n' c' : Nat) (b' : List Nat) (most cut : Nat) (w : World) (hch : ch < 65536) (hr : Rd .u8 256 w w.heap.size A n b) (hr' : Rd .u8 256 w w.heap.size A' n' b') (_ : n' ≤ c') (hm : most < 4294967296) (hcut : cut < 65536) :
    Calls Try.prog 5 #[.agg #[.int .u16 (ch : Int), .slice A n c], .slice A' n' c', .int .u32 (most : Int), .int .u16 (cut : Int)] w fun e w' => e = .returned (.bool true) ∧ Below w.heap.size w w' := by
  by_cases h : 8192 < n ∨ 4096 < n'
  · exact walk_long ch A n c A' n' c' most cut w h
  · exact walk_main ch A n c b A' n' c' b' most cut w hch hr hr' hm hcut (by omega) (by omega)
end Go.Proofs.Ytemeigdielefiaa.frameBack
