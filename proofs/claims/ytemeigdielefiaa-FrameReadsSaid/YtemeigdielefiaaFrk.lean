/-
  Contracts of the document's Lay behind any bytes, of CopyBytes, of the document's Write and Read of a frame (layer 11). Memory that was there stays. Condition: at most 2^20 bytes (Lay, Write), 2^40 (CopyBytes, Read).
-/
import Derived.Test.YtemeigdielefiaaFrs
namespace Go.Proofs.Ytemeigdielefiaa.Fr
set_option maxRecDepth 100000
open Go.RowKit Go.Proofs.Ytemeigdielefiaa.Utf Go.Proofs.Ytemeigdielefiaa.Enc

theorem ba2 {a w : World} {B : Nat} (h : Below B a w) (o : Obj) (hB : B ≤ a.heap.size := by omega) : Below B a (w.alloc o) := h.alloc (Nat.le_trans hB h.size) o
set_option maxHeartbeats 800000 in
theorem xlay_on (A : Option Addr) (n c : Nat) (l : List Nat) (X m : Nat) (hm : m ≤ 8) (hX : X < 18446744073709551616) (w : World) (hr : Rd .u8 256 w w.heap.size A n l) (hn : n ≤ 1048576) : Calls Try.prog 20 #[.slice A n c, .int .u64 (X : Int), .int .i64 (m : Int)] w (GivesL w.heap.size (l ++ be X m) w) := by
  have ho0 : Own .u8 256 5 (w.alloc (.cells #[] 5)) w.heap.size (some ⟨w.heap.size, 0, none⟩) 0 0 [] := own_lit8 w w.heap.size 0 [] rfl (by simp) (by unfold maxLen; omega) (Nat.le_refl _)
  have hr0 : Rd .u8 256 (w.alloc (.cells #[] 5)) w.heap.size A n l := hr.alloc (Nat.le_refl _) _
  have hb0 : Below w.heap.size w (w.alloc (.cells #[] 5)) := (Below.refl _ _).alloc (Nat.le_refl _) _
  have d8 : decide ((m : Int) ≤ 8) = true := decide_eq_true (by omega)
  go_enter Try.func20, Try.ntmps20
  go_wp2_with (at_builtin; refine wpList_app8 (l := l) (L := []) rfl _ _ rfl rfl ho0 rfl hr0 (by omega) hb0.size ?_; intro A2 c2 w2 hown2 hgrow2)
  simp only [Nat.zero_add, List.nil_append] at hown2
  have hb2 := hb0.trans (below_grown ho0 hgrow2 hb0.size)
  clear hr0 hb0 hgrow2 hr
  go_loopw [7, 8] (fun b i wr => ∃ A' n' c' L j, j ≤ m ∧ n' + j = n + m ∧ b = .slice A' n' c' ∧ i = .int .i64 (j : Int) ∧ Own .u8 256 5 wr w.heap.size A' n' c' L ∧ L ++ be X j = l ++ be X m ∧ Below w.heap.size w wr) (fun _ i _ => (intOf i).toNat)
  case atStart => exact ⟨A2, n, c2, l, m, Nat.le_refl _, by omega, rfl, rfl, hown2, rfl, hb2⟩
  case round =>
    obtain ⟨A', n', c', L, j, hj, hnj, rfl, rfl, ho, hL, hb⟩ := hrel
    have HL := Lib.hid hL
    have HN := Lib.hid hnj
    have hn' : n' ≤ 1048584 := by omega
    clear hL hnj
    by_cases hj0 : j = 0
    · subst hj0
      go_wp2
      go_ret
      exact GivesL.mk rfl (by simpa [be] using HL.out) ho hb
    · obtain ⟨i, rfl⟩ : ∃ i, j = i + 1 := ⟨j - 1, by omega⟩
      clear hj0
      obtain ⟨wo, rfl⟩ : ∃ wo : World, wo = wr := ⟨_, rfl⟩
      have d0 : decide ((0 : Int) < ((i + 1 : Nat) : Int)) = true := by simp
      have hs1 := hb.size
      go_wp2
      go_loop [9, 10] (fun y t => ∃ q : Nat, q ≤ i ∧ t = .int .i64 ((q : Int) + 1) ∧ y = .int .u64 (X / 256 ^ q : Nat)) (fun _ t => i + 1 - (intOf t).toNat)
      case atStart => exact ⟨0, Nat.zero_le _, rfl, by simp⟩
      case round =>
        obtain ⟨q, hq, rfl, rfl⟩ := hrel
        have hdv := div_step X q
        have HD := Lib.hid hdv
        clear hdv
        have hyX : X / 256 ^ q < 18446744073709551616 := Nat.lt_of_le_of_lt (Nat.div_le_self _ _) hX
        by_cases hlt : q < i
        · generalize X / 256 ^ q = y at *
          go_wp2
          exact ⟨⟨q + 1, by omega, by go_num, by rw [HD.out]⟩, by simp [intOf]; omega⟩
        · obtain rfl : q = i := by omega
          have HU : Hid (be X (q + 1) = X / 256 ^ q % 256 :: be X q) := Lib.hid rfl
          clear HD hlt
          generalize X / 256 ^ q = y at *
          obtain ⟨z, hz⟩ : ∃ z : Nat, z = y % 256 := ⟨_, rfl⟩
          have hz256 : z < 256 := by omega
          have hzy : (y : Int) % 256 = (z : Int) := by omega
          have hzt : (y : Int).tmod 256 = (z : Int) := by rw [Int.tmod_eq_emod_of_nonneg (by omega)]; omega
          rw [← hz] at HU
          clear hz
          go_wp2_with (at_builtin; refine wpList_app8 (l := [z]) (B := wo.heap.size + 1) rfl _ _ rfl rfl (ho.alloc _) rfl (rd_new _ _ _ hz256 (by rfl)) (by omega) (by simp; omega) ?_; intro A2 c2 w2 hown2 hgrow2)
          go_roundw
          case rel =>
            have hN := HN.out
            refine ⟨A2, n' + 1, c2, _, q, by omega, by omega, rfl, ?_, hown2, ?_, ?_⟩
            · congr 1
            · rw [← HL.out, HU.out, List.append_assoc]; rfl
            · exact (hb.alloc (by omega) _).trans (below_grown (ho.alloc _) hgrow2 (by simp; omega))
          case measure => simp [intOf]


set_option maxHeartbeats 800000 in
theorem copy_any (A : Option Addr) (n c : Nat) (l : List Nat) (w : World) (hr : Rd .u8 256 w w.heap.size A n l) (hn : n ≤ 1099511627776) : Calls Try.prog 27 #[.slice A n c] w (GivesL w.heap.size l w) := by
  obtain ⟨i0, hi, hz0, hz1, hz2⟩ := info_parts info5
  have HR := Lib.hid hr
  have HL := Lib.hid hr.len
  go_enter Try.func27, Try.ntmps27
  go_wp2_with (at_make; refine wpList_make_nb (K := .u8) (M := 256) w rfl _ _ 23 rfl w.heap.size i0 Try.underlying23 hi hz0 (by omega) hz1 .i64 .i64 (n : Int) n rfl rfl rfl (by rw [hz2]; omega) (by unfold maxLen; omega) (Nat.le_refl _) ?_; intro w1 hown1 hgrow1)
  have hb1 : Below w.heap.size w w1 := (Below.refl _ _).grown hgrow1 (Nat.le_refl _) (fun _ h => by cases h)
  clear hgrow1 hr
  go_loopw [3, 4] (fun b i wr => ∃ (j : Nat) (A' : Option Addr) (c' : Nat), j ≤ n ∧ i = .int .i64 (j : Int) ∧ b = .slice A' j c' ∧ Own .u8 256 5 wr w.heap.size A' j c' (l.take j) ∧ Below w.heap.size w wr) (fun _ i _ => n - (intOf i).toNat)
  case atStart => exact ⟨0, _, _, Nat.zero_le _, rfl, rfl, by simpa using hown1, hb1⟩
  case round =>
    clear hown1 hb1
    obtain ⟨j, A', c', hj, rfl, rfl, ho, hb⟩ := hrel
    by_cases hlt : j < n
    · have d : decide ((j : Int) < (n : Int)) = true := by simp; omega
      have i0' : (0 : Int) ≤ (j : Int) := by omega
      have i1' : (j : Int) < (n : Int) := by omega
      obtain ⟨b, o, x, rfl, hbl, hx, hx2, hcell⟩ := (HR.out.below hb).at_ hlt
      have hnew := rd_new wr (x : Int) x hx2 rfl
      have hs1 := hb.size
      have HX := Lib.hid hx
      have HO := Lib.hid (ho.alloc (.cells #[.int .u8 (x : Int)] 5))
      have HN := Lib.hid hnew
      clear hx hnew ho
      go_wp2_with (at_builtin; refine wpList_app8 (l := [x]) (B := wr.heap.size + 1) rfl _ _ rfl rfl HO.out rfl HN.out (by omega) (by simp; omega) ?_; intro A2 c2 w2 hown2 hgrow2)
      go_roundw
      case rel => exact ⟨j + 1, A2, c2, by omega, by go_num, rfl, by rw [List.take_add_one, HX.out]; exact hown2, (ba2 hb _).trans (below_grown HO.out hgrow2 (by simp; omega))⟩
      case measure => simp [intOf]; omega
    · obtain rfl : j = n := by omega
      have d : decide ((j : Int) < (j : Int)) = false := by simp
      have hl : l.take j = l := List.take_of_length_le (by rw [HL.out]; omega)
      rw [hl] at ho
      have HO := Lib.hid ho
      clear ho hl
      go_wp2
      go_ret
      exact GivesL.mk rfl rfl HO.out hb
set_option maxHeartbeats 2000000 in
theorem xwrite_any (ch : Nat) (A : Option Addr) (n c : Nat) (b : List Nat) (w : World) (hch : ch < 65536) (hr : Rd .u8 256 w w.heap.size A n b) (hn : n ≤ 1048576) : Calls Try.prog 13 #[.agg #[.int .u16 (ch : Int), .slice A n c]] w (GivesL w.heap.size (layF ch b) w) := by
  have hl := hr.len
  have hx0 : BxF (w.alloc (.cells #[.int .u16 (ch : Int), .slice A n c] 25)) w.heap.size ch A n c := heap_alloc_new w _
  have hb0 : Below w.heap.size w (w.alloc (.cells #[.int .u16 (ch : Int), .slice A n c] 25)) := ba (Below.refl _ _) _
  have HX0 := Lib.hid hx0
  have HB0 := Lib.hid hb0
  have HR := Lib.hid hr
  have HLy : Hid (layF ch b = be (8 + n) 4 ++ [2, 0] ++ be ch 2 ++ b) := Lib.hid (by unfold layF; rw [hl])
  clear hx0 hb0 hr hl
  obtain ⟨M, hM⟩ : ∃ M, 8 + n = M := ⟨_, rfl⟩
  have hMi : 8 + (n : Int) = (M : Int) := by omega
  have hMl : M < 18446744073709551616 := by omega
  rw [hM] at HLy
  have hwc : IntKind.u64.wrap (ch : Int) = (ch : Int) := by simp only [IntKind.wrap, IntKind.bits, IntKind.signed]; simp; omega
  have t1 : True := trivial
  have t2 : True := trivial
  have hwM : IntKind.u64.wrap (M : Int) = (M : Int) := by simp only [IntKind.wrap, IntKind.bits, IntKind.signed]; simp; omega
  have hwI : IntKind.i64.wrap (M : Int) = (M : Int) := by rw [IntKind.wrap_i64]; omega
  have HC2 := Lib.hid (fun A n c l wx (h : Rd .u8 256 wx wx.heap.size A n l) (hn : n ≤ 1048576) => (show Calls Try.prog 20 #[.slice A n c, .int .u64 (ch : Int), .int .i64 2] wx (GivesL wx.heap.size (l ++ be ch 2) wx) from xlay_on A n c l ch 2 (by omega) (by omega) wx h hn))
  clear hM
  go_enter Try.func13, Try.ntmps13
  go_wp2_with fail
  (with_reducible refine (xlay_4 M hMl _).mono ?_)
  rintro e w1 ⟨A1, n1, c1, rfl, ho1, hb1⟩
  obtain rfl : 4 = n1 := by have := ho1.len; rw [be_length] at this; exact this
  have HB1 := Lib.hid (HB0.out.trans (hb1.mono HB0.out.size))
  have HX1 := Lib.hid (HX0.out.call hb1)
  have hz0 : w.heap.size < (w.alloc (.cells #[.int .u16 (ch : Int), .slice A n c] 25)).heap.size := by simp
  have ho1' := ho1.alloc (.cells #[.int .u8 2, .int .u8 0] 5)
  have hrl : Rd .u8 256 (w1.alloc (.cells #[.int .u8 2, .int .u8 0] 5)) (w1.heap.size + 1) (some ⟨w1.heap.size, 0, none⟩) 2 [2, 0] := rd_lit8 w1 [2, 0] 2 rfl (by intro x hx; simp at hx; omega)
  have hs1 : (w.alloc (.cells #[.int .u16 (ch : Int), .slice A n c] 25)).heap.size ≤ (w1.alloc (.cells #[.int .u8 2, .int .u8 0] 5)).heap.size := (ba2 hb1 _ (Nat.le_refl _)).size
  have hb1' := ba2 hb1 (.cells #[.int .u8 2, .int .u8 0] 5) (Nat.le_refl _)
  clear ho1
  go_upto_region 2 with (at_builtin; refine wpList_app8 (l := [2, 0]) (L := be M 4) rfl _ _ rfl rfl ho1' rfl hrl (by omega) hs1 ?_; intro A2 c2 w2 ho2 hg2)
  have hbx := hb1'.trans (below_grown ho1' hg2 hs1)
  have HB2 := Lib.hid (HB0.out.trans (hbx.mono (by omega)))
  have hx2 := HX0.out.call hbx
  have HX2 := Lib.hid hx2
  obtain ⟨x0, x1, _, _⟩ := hx2.all
  have hrd2 := ho2.rd
  clear hb1 hb1' hbx hx2 ho1' hrl hs1 hg2 hz0 ho2
  go_wp2_with fail
  (with_reducible refine (HC2.out A2 6 c2 _ w2 hrd2 (by omega)).mono ?_)
  rintro e w3 ⟨A3, n3, c3, rfl, ho3, hb3⟩
  have hx3 := HX2.out.call hb3
  obtain ⟨x0, x1, _, hg3⟩ := hx3.all
  have hr3 := HR.out.below (HB2.out.trans (hb3.mono HB2.out.size))
  have hs3 := hb3.size
  have hn3 : n3 ≤ 8 := by
    have := ho3.len
    simp [be_length] at this
    omega
  clear hrd2
  go_wp2_with (at_builtin; refine wpList_app8 (l := b) (L := be M 4 ++ [2, 0] ++ be ch 2) rfl _ _ rfl rfl ho3 rfl hr3 (by omega) hs3 ?_; intro A4 c4 w4 ho4 hg4)
  go_ret
  exact GivesL.mk rfl HLy.out.symm (ho4.mono HB2.out.size) (HB2.out.trans ((hb3.trans (below_grown ho3 hg4 hs3)).mono HB2.out.size))
end Go.Proofs.Ytemeigdielefiaa.Fr
