/-
  The statement TableAll, walked: it answers true. Memory that was there stays. Condition: a slice of less than 2^63 steps.
-/
import Derived.Test.YtnbofokdhkoglaaTbw
import Derived.Test.YtnbofokdhkoglaaTbl
import Derived.Test.YtnbofokdhkoglaaTba
import Derived.Deep.RegionHeld3
import Derived.Deep.RegionLaw
import Derived.Deep.QuietTactic
import Derived.BigQuiet
namespace Go.Proofs.Ytnbofokdhkoglaa.tableAll
set_option maxRecDepth 100000
open Go.RowKit Go.Proofs.Ytnbofokdhkoglaa.Utf Go.Proofs.Ytnbofokdhkoglaa.Tb

/-- How many of the first so many are held. -/
def cntT (L : List Bool) (j : Nat) : Nat := ((List.range j).filter fun i => L.getD i false).length
theorem cnt_succ (L : List Bool) (j : Nat) : cntT L (j + 1) = cntT L j + if hasT L (j : Int) then 1 else 0 := by
  unfold cntT
  rw [List.range_succ, List.filter_append, List.length_append, hasT_nat]
  congr 1
  cases h : L.getD j false
  · rw [List.filter_cons_of_neg (p := fun i => L.getD i false) (by rw [h]; simp)]
    simp
  · rw [List.filter_cons_of_pos (p := fun i => L.getD i false) h]
    simp
theorem cnt_all (L : List Bool) : cntT L L.length = (allT L).length := rfl
theorem cnt_le (L : List Bool) (j : Nat) : cntT L j ≤ j := by
  unfold cntT
  refine Nat.le_trans (List.length_filter_le _ _) ?_
  simp
/-- What All told, of which the first so many were written over. -/
def RowJ (L : List Bool) (N j : Nat) (A : Option Addr) (B : Nat) (w : World) : Prop := 0 < N → ∃ g cur, A = some ⟨g, 0, none⟩ ∧ B ≤ g ∧ w.heap[g]? = some (.cells cur 3 (0, 0)) ∧ (∀ k x, j ≤ k → (intT L)[k]? = some x → cur[k]? = some (.int .i64 x)) ∧ ∀ k, k < j → cur[k]? = some (.int .i64 (-7))
theorem row_of {L : List Bool} {B N : Nat} {v : Value} {w : World} (hN : (allT L).length = N) (h : w.ownsRow B 3 1 v (allT L).length ((intT L).map encZ)) : ∃ A c, v = .slice A N c ∧ RowJ L N 0 A B w := by
  subst hN
  rcases h.2 with ⟨rfl, h0⟩ | ⟨g, cap, cur, rfl, hB, hg, _, _, _, hcur⟩
  · exact ⟨none, 0, by rw [h0], fun h => by omega⟩
  · refine ⟨_, _, rfl, fun _ => ⟨g, cur, rfl, hB, hg, fun k x _ hx => ?_, fun k hk => by omega⟩⟩
    have hk : k < (intT L).length := (List.getElem?_eq_some_iff.1 hx).1
    rw [int_len] at hk
    have h1 : (cur.toList.take ((allT L).length * 1))[k]? = some (.int .i64 x) := by rw [hcur, List.getElem?_map, hx]; rfl
    rw [List.getElem?_take_of_lt (by omega)] at h1
    simpa using h1
theorem RowJ.call {L : List Bool} {N j B : Nat} {A : Option Addr} {w w' : World} (h : RowJ L N j A B w) (hb : Below w.heap.size w w') : RowJ L N j A B w' := fun hn => by
  obtain ⟨g, cur, e, hB, hg, h1, h2⟩ := h hn
  exact ⟨g, cur, e, hB, (hb.block g (Array.getElem?_eq_some_iff.1 hg).1).trans hg, h1, h2⟩
theorem RowJ.set {L : List Bool} {N j B g : Nat} {cur : Array Value} {w : World} {x : Int} (hB : B ≤ g) (hg : w.heap[g]? = some (.cells cur 3 (0, 0))) (h1 : ∀ k x, j ≤ k → (intT L)[k]? = some x → cur[k]? = some (.int .i64 x)) (h2 : ∀ k, k < j → cur[k]? = some (.int .i64 (-7))) (hx : (intT L)[j]? = some x) :
    RowJ L N (j + 1) (some ⟨g, 0, none⟩) B (w.setCell ⟨g, j, none⟩ (.int .i64 (-7))) := fun _ => by
  have hj := h1 j x (Nat.le_refl _) hx
  have hlt : j < cur.size := (Array.getElem?_eq_some_iff.1 hj).1
  refine ⟨g, cur.setIfInBounds j (.int .i64 (-7)), rfl, hB, by simp [World.setCell, Array.getElem?_modify, hg], fun k y hk hy => ?_, fun k hk => ?_⟩
  · rw [Array.getElem?_setIfInBounds_ne (by omega)]
    exact h1 k y (by omega) hy
  · by_cases hkj : k = j
    · subst hkj
      rw [Array.getElem?_setIfInBounds_self_of_lt hlt]
    · rw [Array.getElem?_setIfInBounds_ne (by omega)]
      exact h2 k (by omega)
set_option maxHeartbeats 4000000 in
theorem walk (n : Nat) (ss : List (Int × Int)) (A : Option Addr) (l c : Nat) (w : World) (hn : n < 256) (hr : Stp w w.heap.size A l ss) (hc : l ≤ 9223372036854775807) :
    Calls Try.prog 6 #[.int .u8 (n : Int), .slice A l c] w fun e w' => e = .returned (.bool true) ∧ Below w.heap.size w w' := by
  have HR := Lib.hid hr
  have HN := Lib.hid (fun wx => new_yes n wx (by omega))
  clear hr
  by_cases hbig : 300 < l
  · have d1 : decide (300 < (l : Int)) = true := by simp; omega
    go_enter Try.func6, Try.ntmps6
    go_wp2_with (first
      | (go_at_call 8; (with_reducible refine (works13_any _).mono ?_); rintro e w2 ⟨rfl, hb2⟩)
      | fail)
    go_ret
    exact ⟨rfl, hb2⟩
  · have d1 : decide (300 < (l : Int)) = false := by simp; omega
    go_enter Try.func6, Try.ntmps6
    go_wp2_with (first
      | (go_at_call 9; (with_reducible refine (HN.out _).mono ?_); rintro e w1 ⟨p, b, rfl, t1, hp, hq, hb1⟩; have HT1 := Lib.hid t1; have HB1 := Lib.hid (And.intro hp (And.intro hq hb1)); clear t1 hp hq hb1)
      | fail)
    go_loopw [7] (fun i wr => ∃ (j : Nat) (L : List Bool), j ≤ l ∧ i = .int .i64 (j : Int) ∧ L.length = n + 1 ∧ Tin wr p b L ∧ Below w.heap.size w wr) (fun i _ => l - (Go.RowKit.intOf i).toNat)
    case atStart => exact ⟨0, noneT n, by omega, rfl, by simp [noneT], HT1.out, HB1.out.2.2⟩
    case round =>
      obtain ⟨j, L, hj, rfl, hL, t, hb⟩ := hrel
      have HT := Lib.hid t
      have HB := Lib.hid hb
      have HL := Lib.hid hL
      by_cases hlt : j < l
      · obtain ⟨sb, so, k, x, rfl, hsb, _, c0, c1, wk, wx⟩ := (HR.out.call hb).2 j hlt
        have d2 : decide ((j : Int) < (l : Int)) = true := by simpa using hlt
        have i0 : (0 : Int) ≤ (j : Int) := by omega
        have i1 : (j : Int) < (l : Int) := by omega
        have HD := Lib.hid (do_any k x wr t wx)
        unfold DoV at HD
        clear t hb hL wk wx hsb
        go_wp2_with (first
          | (go_at_call 11; (with_reducible refine HD.out.mono ?_); rintro e w2 ⟨rfl, t2, o2⟩)
          | fail)
        go_roundw
        case rel => exact ⟨j + 1, rowT L k x, by omega, by go_num, by rw [len_row]; exact HL.out, t2, HB.out.trans (Off.bo o2 HB.out.size HB1.out.1 HB1.out.2.1)⟩
        case measure => simp [Go.RowKit.intOf]; omega
      · obtain rfl : j = l := by omega
        have d2 : decide ((j : Int) < (j : Int)) = false := by simp
        obtain ⟨N, hN⟩ : ∃ N, (allT L).length = N := ⟨_, rfl⟩
        have HNN := Lib.hid hN
        have HA := Lib.hid (all_any wr t)
        obtain ⟨B0, hB0⟩ : ∃ B0, wr.heap.size = B0 := ⟨_, rfl⟩
        have HB0 := Lib.hid hB0
        have HPL := Lib.hid (And.intro (hB0 ▸ t.plt) (hB0 ▸ t.blt))
        have HNB : N ≤ 256 := by have := all_len L; omega
        clear t hb hL hlt hN hB0
        go_wp2_with (first
          | (go_at_call 17; (with_reducible refine HA.out.mono ?_); rintro e w3 ⟨v, rfl, hrow, hb3⟩; obtain ⟨A3, c3, rfl, hrow3⟩ := row_of HNN.out hrow; have HT3 := Lib.hid (HT.out.call hb3); have HB3 := Lib.hid (bt HB.out HB.out.size hb3); have HRW := Lib.hid (HB0.out ▸ hrow3); clear hrow hrow3 hb3)
          | fail)
        go_loopw [9] (fun i wy => ∃ (m : Nat), m ≤ N ∧ i = .int .i64 (m : Int) ∧ RowJ L N m A3 B0 wy ∧ Tin wy p b L ∧ Below w.heap.size w wy) (fun i _ => N - (Go.RowKit.intOf i).toNat)
        case atStart => exact ⟨0, by omega, rfl, HRW.out, HT3.out, HB3.out⟩
        case round =>
          obtain ⟨m, hm, rfl, hrw, t4, hb4⟩ := hrel
          have HT4 := Lib.hid t4
          have HB4 := Lib.hid hb4
          by_cases hlt : m < N
          · have d3 : decide ((m : Int) < (N : Int)) = true := by simpa using hlt
            obtain ⟨g, cur, rfl, hBg, hg, h1, h2⟩ := hrw (by omega)
            obtain ⟨x, hx⟩ : ∃ x, (intT L)[m]? = some x := ⟨_, List.getElem?_eq_getElem (by rw [int_len, HNN.out]; exact hlt)⟩
            have hhx := mem_int.1 (List.mem_of_getElem? hx)
            obtain ⟨x0, x1⟩ := hasT_in hhx
            have hwx : (Lit.int .i64 x).wf = true := by have := HL.out; simp [Lit.wf, IntKind.min, IntKind.max, IntKind.signed, IntKind.bits]; omega
            have hgl : g < wr.heap.size := (Array.getElem?_eq_some_iff.1 hg).1
            have HH := Lib.hid (fun wx (tx : Tin wx p b L) => by have := has_any x wx tx hwx; rw [hhx] at this; exact this)
            have HSET := Lib.hid (fun w5 (h5 : Below wr.heap.size wr w5) => RowJ.set (N := N) hBg ((h5.block g hgl).trans hg) h1 h2 hx)
            have HF := Lib.hid (fun w5 (h5 : Below wr.heap.size wr w5) => frz_of (j := m) ((h5.block g hgl).trans hg))
            have HGL := Lib.hid hgl
            have HBG := Lib.hid hBg
            have HBW := Lib.hid (show w.heap.size ≤ B0 by have := HB.out.size; have := HB0.out; omega)
            have hcm : wr.cell? ⟨g, m, none⟩ = some (.int .i64 x) := (cell_of_row _ _ _ _ _ _ hg).trans (h1 m x (Nat.le_refl _) hx)
            have dx : decide ((n : Int) < x) = false := by have := HL.out; simp; omega
            have iw : IntKind.i64.wrap (n : Int) = (n : Int) := IntWalk.i64_in _ (by omega)
            have dy : decide (x ≤ -7) = false := by simp; omega
            have i0 : (0 : Int) ≤ (m : Int) := by omega
            have i1 : (m : Int) < (N : Int) := by omega
            have hH0 : Below wr.heap.size wr wr.drew := (Below.refl _ _).drew
            have hc0 := hH0
            have H5 := Lib.hid (HH.out wr.drew (HT4.out.call hH0))
            rcases Nat.eq_zero_or_pos m with hm0 | hm0
            · subst hm0
              have HCELL := Lib.hid (show ∀ wx : World, Below wr.heap.size wr wx → wx.cell? ⟨g, 0, none⟩ = some (.int .i64 x) from fun wx h => (h.cell (p := ⟨g, 0, none⟩) hgl).trans hcm)
              clear t4 hb4 hg h1 h2 hhx hwx hgl hx hBg hrw hcm
              go_upto_region 14 with fail
              refine wp_region_noPanic ?_
              refine wp_region_held_drew (S := fun wx => Below wr.heap.size wr wx) (by kernel_rfl) (by exact hH0) (fun hHeld => ?_)
              (refine wpAnyH_take (i := 0) (oi := ⟨some 48, _, _, _, _, _⟩) (v := ?_) rfl (by kernel_rfl) (by kernel_rfl) (by kernel_rfl) (fun _ _ _ h => h) (Or.inl ⟨by kernel_rfl, ?_⟩) (by assumption) ?_; rotate_left 1; (· intro wx hSw; (try dsimp only at hSw); go_simp; (try with_reducible rfl)))
              try simp only [Act.put, List.setIfInBounds_toArray, List.set_cons_zero, List.set_cons_succ]
              (refine wpAnyH_take (i := 1) (oi := ⟨some 49, _, _, _, _, _⟩) (v := ?_) rfl (by kernel_rfl) (by kernel_rfl) (by kernel_rfl) (fun _ _ _ h => h) (Or.inl ⟨by kernel_rfl, ?_⟩) (by assumption) ?_; rotate_left 1; (· intro wx hSw; (try dsimp only at hSw); go_simp; (try with_reducible rfl)))
              try simp only [Act.put, List.setIfInBounds_toArray, List.set_cons_zero, List.set_cons_succ]
              (refine wpAnyH_take (i := 2) (oi := ⟨some 50, _, _, _, _, _⟩) (v := ?_) rfl (by kernel_rfl) (by kernel_rfl) (by kernel_rfl) (fun _ _ _ h => h) (Or.inl ⟨by kernel_rfl, ?_⟩) (by assumption) ?_; rotate_left 1; (· intro wx hSw; (try dsimp only at hSw); go_simp; (try with_reducible rfl)))
              try simp only [Act.put, List.setIfInBounds_toArray, List.set_cons_zero, List.set_cons_succ]
              (refine wpAnyH_take (i := 3) (oi := ⟨some 51, _, _, _, _, _⟩) (v := ?_) rfl (by kernel_rfl) (by kernel_rfl) (by kernel_rfl) (fun _ _ _ h => h) (Or.inl ⟨by kernel_rfl, ?_⟩) (by assumption) ?_; rotate_left 1; (· intro wx hSw; (try dsimp only at hSw); go_simp; (try with_reducible rfl)))
              try simp only [Act.put, List.setIfInBounds_toArray, List.set_cons_zero, List.set_cons_succ]
              (refine wpAnyH_take (i := 4) (oi := ⟨some 52, _, _, _, _, _⟩) (v := ?_) rfl (by kernel_rfl) (by kernel_rfl) (by kernel_rfl) (fun _ _ _ h => h) (Or.inl ⟨by kernel_rfl, ?_⟩) (by assumption) ?_; rotate_left 1; (· intro wx hSw; (try dsimp only at hSw); have hq := HCELL.out _ hSw; go_simp; (try with_reducible rfl)))
              try simp only [Act.put, List.setIfInBounds_toArray, List.set_cons_zero, List.set_cons_succ]
              (refine wpAnyH_ready (rs := [5]) (by kernel_rfl) (by simp) ?_; refine AllReadyH.cons (o := ⟨some 53, _, _, _, _, _⟩) rfl (fun K hK => ?_) AllReadyH.nil; go_simp; (go_at_call 13; (with_reducible refine (HH.out _ (HT4.out.call (by with_reducible assumption))).mono ?_); rintro e w5 ⟨rfl, hb5⟩); go_wp2_with fail; refine hK.out _ _ ?_ (fun hHeld => ?_); (· exact (by with_reducible exact bn (by assumption) (by assumption))); clear hK K)
              try simp only [Act.put, List.setIfInBounds_toArray, List.set_cons_zero, List.set_cons_succ]
              (refine wpAnyH_take (i := 6) (oi := ⟨some 54, _, _, _, _, _⟩) (v := ?_) rfl (by kernel_rfl) (by kernel_rfl) (by kernel_rfl) (fun _ _ _ h => h) (Or.inl ⟨by kernel_rfl, ?_⟩) (by assumption) ?_; rotate_left 1; (· intro wx hSw; (try dsimp only at hSw); go_simp; (try with_reducible rfl)))
              try simp only [Act.put, List.setIfInBounds_toArray, List.set_cons_zero, List.set_cons_succ]
              (refine wpAnyH_take (i := 7) (oi := ⟨some 55, _, _, _, _, _⟩) (v := ?_) rfl (by kernel_rfl) (by kernel_rfl) (by kernel_rfl) (fun _ _ _ h => h) (Or.inl ⟨by kernel_rfl, ?_⟩) (by assumption) ?_; rotate_left 1; (· intro wx hSw; (try dsimp only at hSw); go_simp; (try with_reducible rfl)))
              try simp only [Act.put, List.setIfInBounds_toArray, List.set_cons_zero, List.set_cons_succ]
              (refine wpAnyH_take (i := 8) (oi := ⟨some 56, _, _, _, _, _⟩) (v := ?_) rfl (by kernel_rfl) (by kernel_rfl) (by kernel_rfl) (fun _ _ _ h => h) (Or.inl ⟨by kernel_rfl, ?_⟩) (by assumption) ?_; rotate_left 1; (· intro wx hSw; (try dsimp only at hSw); go_simp; (try with_reducible rfl)))
              try simp only [Act.put, List.setIfInBounds_toArray, List.set_cons_zero, List.set_cons_succ]
              (refine wpAnyH_take (i := 9) (oi := ⟨some 57, _, _, _, _, _⟩) (v := ?_) rfl (by kernel_rfl) (by kernel_rfl) (by kernel_rfl) (fun _ _ _ h => h) (Or.inl ⟨by kernel_rfl, ?_⟩) (by assumption) ?_; rotate_left 1; (· intro wx hSw; (try dsimp only at hSw); go_simp; (try with_reducible rfl)))
              try simp only [Act.put, List.setIfInBounds_toArray, List.set_cons_zero, List.set_cons_succ]
              (refine wpAnyH_take (i := 10) (oi := ⟨some 58, _, _, _, _, _⟩) (v := ?_) rfl (by kernel_rfl) (by kernel_rfl) (by kernel_rfl) (fun _ _ _ h => h) (Or.inl ⟨by kernel_rfl, ?_⟩) (by assumption) ?_; rotate_left 1; (· intro wx hSw; (try dsimp only at hSw); go_simp; (try with_reducible rfl)))
              try simp only [Act.put, List.setIfInBounds_toArray, List.set_cons_zero, List.set_cons_succ]
              (refine wpAnyH_take (i := 11) (oi := ⟨some 59, _, _, _, _, _⟩) (v := undef) rfl (by kernel_rfl) (by kernel_rfl) (by kernel_rfl) (fun _ _ _ h => h) (Or.inr ⟨by kernel_rfl, rfl⟩) (by assumption) ?_)
              try simp only [Act.put, List.setIfInBounds_toArray, List.set_cons_zero, List.set_cons_succ]
              (refine wpAnyH_take (i := 12) (oi := ⟨some 60, _, _, _, _, _⟩) (v := undef) rfl (by kernel_rfl) (by kernel_rfl) (by kernel_rfl) (fun _ _ _ h => h) (Or.inr ⟨by kernel_rfl, rfl⟩) (by assumption) ?_)
              try simp only [Act.put, List.setIfInBounds_toArray, List.set_cons_zero, List.set_cons_succ]
              (refine wpAnyH_take (i := 13) (oi := ⟨some 61, _, _, _, _, _⟩) (v := undef) rfl (by kernel_rfl) (by kernel_rfl) (by kernel_rfl) (fun _ _ _ h => h) (Or.inr ⟨by kernel_rfl, rfl⟩) (by assumption) ?_)
              try simp only [Act.put, List.setIfInBounds_toArray, List.set_cons_zero, List.set_cons_succ]
              (refine wpAnyH_take (i := 14) (oi := ⟨some 62, _, _, _, _, _⟩) (v := undef) rfl (by kernel_rfl) (by kernel_rfl) (by kernel_rfl) (fun _ _ _ h => h) (Or.inr ⟨by kernel_rfl, rfl⟩) (by assumption) ?_)
              try simp only [Act.put, List.setIfInBounds_toArray, List.set_cons_zero, List.set_cons_succ]
              (refine wpAnyH_take (i := 15) (oi := ⟨some 63, _, _, _, _, _⟩) (v := undef) rfl (by kernel_rfl) (by kernel_rfl) (by kernel_rfl) (fun _ _ _ h => h) (Or.inr ⟨by kernel_rfl, rfl⟩) (by assumption) ?_)
              try simp only [Act.put, List.setIfInBounds_toArray, List.set_cons_zero, List.set_cons_succ]
              (refine wpAnyH_take (i := 16) (oi := ⟨some 64, _, _, _, _, _⟩) (v := undef) rfl (by kernel_rfl) (by kernel_rfl) (by kernel_rfl) (fun _ _ _ h => h) (Or.inr ⟨by kernel_rfl, rfl⟩) (by assumption) ?_)
              try simp only [Act.put, List.setIfInBounds_toArray, List.set_cons_zero, List.set_cons_succ]
              (refine wpAnyH_take (i := 17) (oi := ⟨some 65, _, _, _, _, _⟩) (v := undef) rfl (by kernel_rfl) (by kernel_rfl) (by kernel_rfl) (fun _ _ _ h => h) (Or.inr ⟨by kernel_rfl, rfl⟩) (by assumption) ?_)
              try simp only [Act.put, List.setIfInBounds_toArray, List.set_cons_zero, List.set_cons_succ]
              (refine wpAnyH_take (i := 18) (oi := ⟨some 66, _, _, _, _, _⟩) (v := undef) rfl (by kernel_rfl) (by kernel_rfl) (by kernel_rfl) (fun _ _ _ h => h) (Or.inr ⟨by kernel_rfl, rfl⟩) (by assumption) ?_)
              try simp only [Act.put, List.setIfInBounds_toArray, List.set_cons_zero, List.set_cons_succ]
              (refine wpAnyH_take (i := 19) (oi := ⟨some 67, _, _, _, _, _⟩) (v := undef) rfl (by kernel_rfl) (by kernel_rfl) (by kernel_rfl) (fun _ _ _ h => h) (Or.inr ⟨by kernel_rfl, rfl⟩) (by assumption) ?_)
              try simp only [Act.put, List.setIfInBounds_toArray, List.set_cons_zero, List.set_cons_succ]
              (refine wpAnyH_take (i := 20) (oi := ⟨some 68, _, _, _, _, _⟩) (v := undef) rfl (by kernel_rfl) (by kernel_rfl) (by kernel_rfl) (fun _ _ _ h => h) (Or.inr ⟨by kernel_rfl, rfl⟩) (by assumption) ?_)
              try simp only [Act.put, List.setIfInBounds_toArray, List.set_cons_zero, List.set_cons_succ]
              (refine wpAnyH_take (i := 21) (oi := ⟨some 69, _, _, _, _, _⟩) (v := ?_) rfl (by kernel_rfl) (by kernel_rfl) (by kernel_rfl) (fun _ _ _ h => h) (Or.inl ⟨by kernel_rfl, ?_⟩) (by assumption) ?_; rotate_left 1; (· intro wx hSw; (try dsimp only at hSw); go_simp; (try with_reducible rfl)))
              try simp only [Act.put, List.setIfInBounds_toArray, List.set_cons_zero, List.set_cons_succ]
              (refine wpAnyH_take (i := 22) (oi := ⟨some 70, _, _, _, _, _⟩) (v := ?_) rfl (by kernel_rfl) (by kernel_rfl) (by kernel_rfl) (fun _ _ _ h => h) (Or.inl ⟨by kernel_rfl, ?_⟩) (by assumption) ?_; rotate_left 1; (· intro wx hSw; (try dsimp only at hSw); go_simp; (try with_reducible rfl)))
              try simp only [Act.put, List.setIfInBounds_toArray, List.set_cons_zero, List.set_cons_succ]
              (refine wpAnyH_take (i := 23) (oi := ⟨some 71, _, _, _, _, _⟩) (v := ?_) rfl (by kernel_rfl) (by kernel_rfl) (by kernel_rfl) (fun _ _ _ h => h) (Or.inl ⟨by kernel_rfl, ?_⟩) (by assumption) ?_; rotate_left 1; (· intro wx hSw; (try dsimp only at hSw); go_simp; (try with_reducible rfl)))
              try simp only [Act.put, List.setIfInBounds_toArray, List.set_cons_zero, List.set_cons_succ]
              (refine wpAnyH_take (i := 24) (oi := ⟨some 72, _, _, _, _, _⟩) (v := ?_) rfl (by kernel_rfl) (by kernel_rfl) (by kernel_rfl) (fun _ _ _ h => h) (Or.inl ⟨by kernel_rfl, ?_⟩) (by assumption) ?_; rotate_left 1; (· intro wx hSw; (try dsimp only at hSw); go_simp; (try with_reducible rfl)))
              try simp only [Act.put, List.setIfInBounds_toArray, List.set_cons_zero, List.set_cons_succ]
              (refine wpAnyH_take (i := 25) (oi := ⟨some 73, _, _, _, _, _⟩) (v := ?_) rfl (by kernel_rfl) (by kernel_rfl) (by kernel_rfl) (fun _ _ _ h => h) (Or.inl ⟨by kernel_rfl, ?_⟩) (by assumption) ?_; rotate_left 1; (· intro wx hSw; (try dsimp only at hSw); go_simp; (try with_reducible rfl)))
              try simp only [Act.put, List.setIfInBounds_toArray, List.set_cons_zero, List.set_cons_succ]
              (refine wpAnyH_take (i := 26) (oi := ⟨some 74, _, _, _, _, _⟩) (v := ?_) rfl (by kernel_rfl) (by kernel_rfl) (by kernel_rfl) (fun _ _ _ h => h) (Or.inl ⟨by kernel_rfl, ?_⟩) (by assumption) ?_; rotate_left 1; (· intro wx hSw; (try dsimp only at hSw); go_simp; (try with_reducible rfl)))
              try simp only [Act.put, List.setIfInBounds_toArray, List.set_cons_zero, List.set_cons_succ]
              (refine wpAnyH_take (i := 27) (oi := ⟨some 75, _, _, _, _, _⟩) (v := ?_) rfl (by kernel_rfl) (by kernel_rfl) (by kernel_rfl) (fun _ _ _ h => h) (Or.inl ⟨by kernel_rfl, ?_⟩) (by assumption) ?_; rotate_left 1; (· intro wx hSw; (try dsimp only at hSw); have hq := HCELL.out _ hSw; go_simp; (try with_reducible rfl)))
              try simp only [Act.put, List.setIfInBounds_toArray, List.set_cons_zero, List.set_cons_succ]
              (refine wpAnyH_take (i := 28) (oi := ⟨some 76, _, _, _, _, _⟩) (v := ?_) rfl (by kernel_rfl) (by kernel_rfl) (by kernel_rfl) (fun _ _ _ h => h) (Or.inl ⟨by kernel_rfl, ?_⟩) (by assumption) ?_; rotate_left 1; (· intro wx hSw; (try dsimp only at hSw); go_simp; (try with_reducible rfl)))
              try simp only [Act.put, List.setIfInBounds_toArray, List.set_cons_zero, List.set_cons_succ]
              (refine wpAnyH_take (i := 29) (oi := ⟨some 77, _, _, _, _, _⟩) (v := ?_) rfl (by kernel_rfl) (by kernel_rfl) (by kernel_rfl) (fun _ _ _ h => h) (Or.inl ⟨by kernel_rfl, ?_⟩) (by assumption) ?_; rotate_left 1; (· intro wx hSw; (try dsimp only at hSw); go_simp; (try with_reducible rfl)))
              try simp only [Act.put, List.setIfInBounds_toArray, List.set_cons_zero, List.set_cons_succ]
              (refine wpAnyH_take (i := 30) (oi := ⟨some 78, _, _, _, _, _⟩) (v := ?_) rfl (by kernel_rfl) (by kernel_rfl) (by kernel_rfl) (fun _ _ _ h => h) (Or.inl ⟨by kernel_rfl, ?_⟩) (by assumption) ?_; rotate_left 1; (· intro wx hSw; (try dsimp only at hSw); go_simp; (try with_reducible rfl)))
              try simp only [Act.put, List.setIfInBounds_toArray, List.set_cons_zero, List.set_cons_succ]
              (refine wpAnyH_take (i := 31) (oi := ⟨some 79, _, _, _, _, _⟩) (v := ?_) rfl (by kernel_rfl) (by kernel_rfl) (by kernel_rfl) (fun _ _ _ h => h) (Or.inl ⟨by kernel_rfl, ?_⟩) (by assumption) ?_; rotate_left 1; (· intro wx hSw; (try dsimp only at hSw); go_simp; (try with_reducible rfl)))
              try simp only [Act.put, List.setIfInBounds_toArray, List.set_cons_zero, List.set_cons_succ]
              refine wpAnyH_done (by kernel_rfl) ?_ _
              refine NoPanic.normal ?_
              have hq := HCELL.out _ hHeld
              have fq := HF.out _ hHeld
              go_wp2
              have hs := HSET.out _ hHeld
              have ho : Off (fun i => i = g) w5 (w5.setCell ⟨g, 0, none⟩ (.int .i64 (-7))) := Off.set _ _ _ rfl
              have hp1 := HPL.out
              have hg1 := HBG.out
              refine ⟨⟨0 + 1, by omega, by first | rfl | simp, hs, (HT4.out.call hHeld).off ho (by omega) (by omega), ?_⟩, by simp [Go.RowKit.intOf]; omega⟩
              exact (bt HB4.out HB4.out.size hHeld).trans (ho.below (Nat.le_trans HB4.out.size hHeld.size) fun i hi e => by have := HBW.out; have e' : i = g := e; omega)
            · obtain ⟨q, rfl⟩ : ∃ q, m = q + 1 := ⟨m - 1, by omega⟩
              have hcq : wr.cell? ⟨g, q, none⟩ = some (.int .i64 (-7)) := (cell_of_row _ _ _ _ _ _ hg).trans (h2 q (by omega))
              have HCELL := Lib.hid (show ∀ wx : World, Below wr.heap.size wr wx → wx.cell? ⟨g, q + 1, none⟩ = some (.int .i64 x) ∧ wx.cell? ⟨g, q, none⟩ = some (.int .i64 (-7)) from fun wx h => ⟨(h.cell (p := ⟨g, q + 1, none⟩) hgl).trans hcm, (h.cell (p := ⟨g, q, none⟩) hgl).trans hcq⟩)
              have i2 : (q : Int) < (N : Int) := by omega
              have i3 : decide ((0 : Int) < ((q + 1 : Nat) : Int)) = true := by simp
              have i5 : (0 : Int) ≤ (q : Int) + 1 := by omega
              have i6 : (q : Int) + 1 < (N : Int) := by omega
              have i7 : IntKind.i64.wrap (q : Int) = (q : Int) := IntWalk.i64_in _ (by omega)
              clear t4 hb4 hg h1 h2 hhx hwx hgl hx hBg hrw hcm hcq
              go_upto_region 14 with fail
              refine wp_region_noPanic ?_
              refine wp_region_held_drew (S := fun wx => Below wr.heap.size wr wx) (by kernel_rfl) (by exact hH0) (fun hHeld => ?_)
              (refine wpAnyH_take (i := 0) (oi := ⟨some 48, _, _, _, _, _⟩) (v := ?_) rfl (by kernel_rfl) (by kernel_rfl) (by kernel_rfl) (fun _ _ _ h => h) (Or.inl ⟨by kernel_rfl, ?_⟩) (by assumption) ?_; rotate_left 1; (· intro wx hSw; (try dsimp only at hSw); go_simp; (try with_reducible rfl)))
              try simp only [Act.put, List.setIfInBounds_toArray, List.set_cons_zero, List.set_cons_succ]
              (refine wpAnyH_take (i := 1) (oi := ⟨some 49, _, _, _, _, _⟩) (v := ?_) rfl (by kernel_rfl) (by kernel_rfl) (by kernel_rfl) (fun _ _ _ h => h) (Or.inl ⟨by kernel_rfl, ?_⟩) (by assumption) ?_; rotate_left 1; (· intro wx hSw; (try dsimp only at hSw); go_simp; (try with_reducible rfl)))
              try simp only [Act.put, List.setIfInBounds_toArray, List.set_cons_zero, List.set_cons_succ]
              (refine wpAnyH_take (i := 2) (oi := ⟨some 50, _, _, _, _, _⟩) (v := ?_) rfl (by kernel_rfl) (by kernel_rfl) (by kernel_rfl) (fun _ _ _ h => h) (Or.inl ⟨by kernel_rfl, ?_⟩) (by assumption) ?_; rotate_left 1; (· intro wx hSw; (try dsimp only at hSw); go_simp; (try with_reducible rfl)))
              try simp only [Act.put, List.setIfInBounds_toArray, List.set_cons_zero, List.set_cons_succ]
              (refine wpAnyH_take (i := 3) (oi := ⟨some 51, _, _, _, _, _⟩) (v := ?_) rfl (by kernel_rfl) (by kernel_rfl) (by kernel_rfl) (fun _ _ _ h => h) (Or.inl ⟨by kernel_rfl, ?_⟩) (by assumption) ?_; rotate_left 1; (· intro wx hSw; (try dsimp only at hSw); go_simp; (try with_reducible rfl)))
              try simp only [Act.put, List.setIfInBounds_toArray, List.set_cons_zero, List.set_cons_succ]
              (refine wpAnyH_take (i := 4) (oi := ⟨some 52, _, _, _, _, _⟩) (v := ?_) rfl (by kernel_rfl) (by kernel_rfl) (by kernel_rfl) (fun _ _ _ h => h) (Or.inl ⟨by kernel_rfl, ?_⟩) (by assumption) ?_; rotate_left 1; (· intro wx hSw; (try dsimp only at hSw); have hq := (HCELL.out _ hSw).1; go_simp; (try with_reducible rfl)))
              try simp only [Act.put, List.setIfInBounds_toArray, List.set_cons_zero, List.set_cons_succ]
              (refine wpAnyH_ready (rs := [5]) (by kernel_rfl) (by simp) ?_; refine AllReadyH.cons (o := ⟨some 53, _, _, _, _, _⟩) rfl (fun K hK => ?_) AllReadyH.nil; go_simp; (go_at_call 13; (with_reducible refine (HH.out _ (HT4.out.call (by with_reducible assumption))).mono ?_); rintro e w5 ⟨rfl, hb5⟩); go_wp2_with fail; refine hK.out _ _ ?_ (fun hHeld => ?_); (· exact (by with_reducible exact bn (by assumption) (by assumption))); clear hK K)
              try simp only [Act.put, List.setIfInBounds_toArray, List.set_cons_zero, List.set_cons_succ]
              (refine wpAnyH_take (i := 6) (oi := ⟨some 54, _, _, _, _, _⟩) (v := ?_) rfl (by kernel_rfl) (by kernel_rfl) (by kernel_rfl) (fun _ _ _ h => h) (Or.inl ⟨by kernel_rfl, ?_⟩) (by assumption) ?_; rotate_left 1; (· intro wx hSw; (try dsimp only at hSw); go_simp; (try with_reducible rfl)))
              try simp only [Act.put, List.setIfInBounds_toArray, List.set_cons_zero, List.set_cons_succ]
              (refine wpAnyH_take (i := 7) (oi := ⟨some 55, _, _, _, _, _⟩) (v := ?_) rfl (by kernel_rfl) (by kernel_rfl) (by kernel_rfl) (fun _ _ _ h => h) (Or.inl ⟨by kernel_rfl, ?_⟩) (by assumption) ?_; rotate_left 1; (· intro wx hSw; (try dsimp only at hSw); go_simp; (try with_reducible rfl)))
              try simp only [Act.put, List.setIfInBounds_toArray, List.set_cons_zero, List.set_cons_succ]
              (refine wpAnyH_take (i := 8) (oi := ⟨some 56, _, _, _, _, _⟩) (v := ?_) rfl (by kernel_rfl) (by kernel_rfl) (by kernel_rfl) (fun _ _ _ h => h) (Or.inl ⟨by kernel_rfl, ?_⟩) (by assumption) ?_; rotate_left 1; (· intro wx hSw; (try dsimp only at hSw); go_simp; (try with_reducible rfl)))
              try simp only [Act.put, List.setIfInBounds_toArray, List.set_cons_zero, List.set_cons_succ]
              (refine wpAnyH_take (i := 9) (oi := ⟨some 57, _, _, _, _, _⟩) (v := ?_) rfl (by kernel_rfl) (by kernel_rfl) (by kernel_rfl) (fun _ _ _ h => h) (Or.inl ⟨by kernel_rfl, ?_⟩) (by assumption) ?_; rotate_left 1; (· intro wx hSw; (try dsimp only at hSw); go_simp; (try with_reducible rfl)))
              try simp only [Act.put, List.setIfInBounds_toArray, List.set_cons_zero, List.set_cons_succ]
              (refine wpAnyH_take (i := 10) (oi := ⟨some 58, _, _, _, _, _⟩) (v := ?_) rfl (by kernel_rfl) (by kernel_rfl) (by kernel_rfl) (fun _ _ _ h => h) (Or.inl ⟨by kernel_rfl, ?_⟩) (by assumption) ?_; rotate_left 1; (· intro wx hSw; (try dsimp only at hSw); go_simp; (try with_reducible rfl)))
              try simp only [Act.put, List.setIfInBounds_toArray, List.set_cons_zero, List.set_cons_succ]
              (refine wpAnyH_take (i := 11) (oi := ⟨some 59, _, _, _, _, _⟩) (v := ?_) rfl (by kernel_rfl) (by kernel_rfl) (by kernel_rfl) (fun _ _ _ h => h) (Or.inl ⟨by kernel_rfl, ?_⟩) (by assumption) ?_; rotate_left 1; (· intro wx hSw; (try dsimp only at hSw); go_simp; (try with_reducible rfl)))
              try simp only [Act.put, List.setIfInBounds_toArray, List.set_cons_zero, List.set_cons_succ]
              (refine wpAnyH_take (i := 12) (oi := ⟨some 60, _, _, _, _, _⟩) (v := ?_) rfl (by kernel_rfl) (by kernel_rfl) (by kernel_rfl) (fun _ _ _ h => h) (Or.inl ⟨by kernel_rfl, ?_⟩) (by assumption) ?_; rotate_left 1; (· intro wx hSw; (try dsimp only at hSw); go_simp; (try with_reducible rfl)))
              try simp only [Act.put, List.setIfInBounds_toArray, List.set_cons_zero, List.set_cons_succ]
              (refine wpAnyH_take (i := 13) (oi := ⟨some 61, _, _, _, _, _⟩) (v := ?_) rfl (by kernel_rfl) (by kernel_rfl) (by kernel_rfl) (fun _ _ _ h => h) (Or.inl ⟨by kernel_rfl, ?_⟩) (by assumption) ?_; rotate_left 1; (· intro wx hSw; (try dsimp only at hSw); go_simp; (try with_reducible rfl)))
              try simp only [Act.put, List.setIfInBounds_toArray, List.set_cons_zero, List.set_cons_succ]
              (refine wpAnyH_take (i := 14) (oi := ⟨some 62, _, _, _, _, _⟩) (v := ?_) rfl (by kernel_rfl) (by kernel_rfl) (by kernel_rfl) (fun _ _ _ h => h) (Or.inl ⟨by kernel_rfl, ?_⟩) (by assumption) ?_; rotate_left 1; (· intro wx hSw; (try dsimp only at hSw); go_simp; (try with_reducible rfl)))
              try simp only [Act.put, List.setIfInBounds_toArray, List.set_cons_zero, List.set_cons_succ]
              (refine wpAnyH_take (i := 15) (oi := ⟨some 63, _, _, _, _, _⟩) (v := ?_) rfl (by kernel_rfl) (by kernel_rfl) (by kernel_rfl) (fun _ _ _ h => h) (Or.inl ⟨by kernel_rfl, ?_⟩) (by assumption) ?_; rotate_left 1; (· intro wx hSw; (try dsimp only at hSw); have hq := (HCELL.out _ hSw).2; go_simp; (try with_reducible rfl)))
              try simp only [Act.put, List.setIfInBounds_toArray, List.set_cons_zero, List.set_cons_succ]
              (refine wpAnyH_take (i := 16) (oi := ⟨some 64, _, _, _, _, _⟩) (v := ?_) rfl (by kernel_rfl) (by kernel_rfl) (by kernel_rfl) (fun _ _ _ h => h) (Or.inl ⟨by kernel_rfl, ?_⟩) (by assumption) ?_; rotate_left 1; (· intro wx hSw; (try dsimp only at hSw); go_simp; (try with_reducible rfl)))
              try simp only [Act.put, List.setIfInBounds_toArray, List.set_cons_zero, List.set_cons_succ]
              (refine wpAnyH_take (i := 17) (oi := ⟨some 65, _, _, _, _, _⟩) (v := ?_) rfl (by kernel_rfl) (by kernel_rfl) (by kernel_rfl) (fun _ _ _ h => h) (Or.inl ⟨by kernel_rfl, ?_⟩) (by assumption) ?_; rotate_left 1; (· intro wx hSw; (try dsimp only at hSw); go_simp; (try with_reducible rfl)))
              try simp only [Act.put, List.setIfInBounds_toArray, List.set_cons_zero, List.set_cons_succ]
              (refine wpAnyH_take (i := 18) (oi := ⟨some 66, _, _, _, _, _⟩) (v := ?_) rfl (by kernel_rfl) (by kernel_rfl) (by kernel_rfl) (fun _ _ _ h => h) (Or.inl ⟨by kernel_rfl, ?_⟩) (by assumption) ?_; rotate_left 1; (· intro wx hSw; (try dsimp only at hSw); go_simp; (try with_reducible rfl)))
              try simp only [Act.put, List.setIfInBounds_toArray, List.set_cons_zero, List.set_cons_succ]
              (refine wpAnyH_take (i := 19) (oi := ⟨some 67, _, _, _, _, _⟩) (v := ?_) rfl (by kernel_rfl) (by kernel_rfl) (by kernel_rfl) (fun _ _ _ h => h) (Or.inl ⟨by kernel_rfl, ?_⟩) (by assumption) ?_; rotate_left 1; (· intro wx hSw; (try dsimp only at hSw); have hq := (HCELL.out _ hSw).1; go_simp; (try with_reducible rfl)))
              try simp only [Act.put, List.setIfInBounds_toArray, List.set_cons_zero, List.set_cons_succ]
              (refine wpAnyH_take (i := 20) (oi := ⟨some 68, _, _, _, _, _⟩) (v := ?_) rfl (by kernel_rfl) (by kernel_rfl) (by kernel_rfl) (fun _ _ _ h => h) (Or.inl ⟨by kernel_rfl, ?_⟩) (by assumption) ?_; rotate_left 1; (· intro wx hSw; (try dsimp only at hSw); go_simp; (try with_reducible rfl)))
              try simp only [Act.put, List.setIfInBounds_toArray, List.set_cons_zero, List.set_cons_succ]
              (refine wpAnyH_take (i := 21) (oi := ⟨some 69, _, _, _, _, _⟩) (v := ?_) rfl (by kernel_rfl) (by kernel_rfl) (by kernel_rfl) (fun _ _ _ h => h) (Or.inl ⟨by kernel_rfl, ?_⟩) (by assumption) ?_; rotate_left 1; (· intro wx hSw; (try dsimp only at hSw); go_simp; (try with_reducible rfl)))
              try simp only [Act.put, List.setIfInBounds_toArray, List.set_cons_zero, List.set_cons_succ]
              (refine wpAnyH_take (i := 22) (oi := ⟨some 70, _, _, _, _, _⟩) (v := ?_) rfl (by kernel_rfl) (by kernel_rfl) (by kernel_rfl) (fun _ _ _ h => h) (Or.inl ⟨by kernel_rfl, ?_⟩) (by assumption) ?_; rotate_left 1; (· intro wx hSw; (try dsimp only at hSw); go_simp; (try with_reducible rfl)))
              try simp only [Act.put, List.setIfInBounds_toArray, List.set_cons_zero, List.set_cons_succ]
              (refine wpAnyH_take (i := 23) (oi := ⟨some 71, _, _, _, _, _⟩) (v := ?_) rfl (by kernel_rfl) (by kernel_rfl) (by kernel_rfl) (fun _ _ _ h => h) (Or.inl ⟨by kernel_rfl, ?_⟩) (by assumption) ?_; rotate_left 1; (· intro wx hSw; (try dsimp only at hSw); go_simp; (try with_reducible rfl)))
              try simp only [Act.put, List.setIfInBounds_toArray, List.set_cons_zero, List.set_cons_succ]
              (refine wpAnyH_take (i := 24) (oi := ⟨some 72, _, _, _, _, _⟩) (v := ?_) rfl (by kernel_rfl) (by kernel_rfl) (by kernel_rfl) (fun _ _ _ h => h) (Or.inl ⟨by kernel_rfl, ?_⟩) (by assumption) ?_; rotate_left 1; (· intro wx hSw; (try dsimp only at hSw); go_simp; (try with_reducible rfl)))
              try simp only [Act.put, List.setIfInBounds_toArray, List.set_cons_zero, List.set_cons_succ]
              (refine wpAnyH_take (i := 25) (oi := ⟨some 73, _, _, _, _, _⟩) (v := ?_) rfl (by kernel_rfl) (by kernel_rfl) (by kernel_rfl) (fun _ _ _ h => h) (Or.inl ⟨by kernel_rfl, ?_⟩) (by assumption) ?_; rotate_left 1; (· intro wx hSw; (try dsimp only at hSw); go_simp; (try with_reducible rfl)))
              try simp only [Act.put, List.setIfInBounds_toArray, List.set_cons_zero, List.set_cons_succ]
              (refine wpAnyH_take (i := 26) (oi := ⟨some 74, _, _, _, _, _⟩) (v := ?_) rfl (by kernel_rfl) (by kernel_rfl) (by kernel_rfl) (fun _ _ _ h => h) (Or.inl ⟨by kernel_rfl, ?_⟩) (by assumption) ?_; rotate_left 1; (· intro wx hSw; (try dsimp only at hSw); go_simp; (try with_reducible rfl)))
              try simp only [Act.put, List.setIfInBounds_toArray, List.set_cons_zero, List.set_cons_succ]
              (refine wpAnyH_take (i := 27) (oi := ⟨some 75, _, _, _, _, _⟩) (v := ?_) rfl (by kernel_rfl) (by kernel_rfl) (by kernel_rfl) (fun _ _ _ h => h) (Or.inl ⟨by kernel_rfl, ?_⟩) (by assumption) ?_; rotate_left 1; (· intro wx hSw; (try dsimp only at hSw); have hq := (HCELL.out _ hSw).1; go_simp; (try with_reducible rfl)))
              try simp only [Act.put, List.setIfInBounds_toArray, List.set_cons_zero, List.set_cons_succ]
              (refine wpAnyH_take (i := 28) (oi := ⟨some 76, _, _, _, _, _⟩) (v := ?_) rfl (by kernel_rfl) (by kernel_rfl) (by kernel_rfl) (fun _ _ _ h => h) (Or.inl ⟨by kernel_rfl, ?_⟩) (by assumption) ?_; rotate_left 1; (· intro wx hSw; (try dsimp only at hSw); go_simp; (try with_reducible rfl)))
              try simp only [Act.put, List.setIfInBounds_toArray, List.set_cons_zero, List.set_cons_succ]
              (refine wpAnyH_take (i := 29) (oi := ⟨some 77, _, _, _, _, _⟩) (v := ?_) rfl (by kernel_rfl) (by kernel_rfl) (by kernel_rfl) (fun _ _ _ h => h) (Or.inl ⟨by kernel_rfl, ?_⟩) (by assumption) ?_; rotate_left 1; (· intro wx hSw; (try dsimp only at hSw); go_simp; (try with_reducible rfl)))
              try simp only [Act.put, List.setIfInBounds_toArray, List.set_cons_zero, List.set_cons_succ]
              (refine wpAnyH_take (i := 30) (oi := ⟨some 78, _, _, _, _, _⟩) (v := ?_) rfl (by kernel_rfl) (by kernel_rfl) (by kernel_rfl) (fun _ _ _ h => h) (Or.inl ⟨by kernel_rfl, ?_⟩) (by assumption) ?_; rotate_left 1; (· intro wx hSw; (try dsimp only at hSw); go_simp; (try with_reducible rfl)))
              try simp only [Act.put, List.setIfInBounds_toArray, List.set_cons_zero, List.set_cons_succ]
              (refine wpAnyH_take (i := 31) (oi := ⟨some 79, _, _, _, _, _⟩) (v := ?_) rfl (by kernel_rfl) (by kernel_rfl) (by kernel_rfl) (fun _ _ _ h => h) (Or.inl ⟨by kernel_rfl, ?_⟩) (by assumption) ?_; rotate_left 1; (· intro wx hSw; (try dsimp only at hSw); go_simp; (try with_reducible rfl)))
              try simp only [Act.put, List.setIfInBounds_toArray, List.set_cons_zero, List.set_cons_succ]
              refine wpAnyH_done (by kernel_rfl) ?_ _
              refine NoPanic.normal ?_
              have hq := (HCELL.out _ hHeld).1
              have fq := HF.out _ hHeld
              go_wp2
              have hs := HSET.out _ hHeld
              have ho : Off (fun i => i = g) w5 (w5.setCell ⟨g, (q + 1), none⟩ (.int .i64 (-7))) := Off.set _ _ _ rfl
              have hp1 := HPL.out
              have hg1 := HBG.out
              refine ⟨⟨(q + 1) + 1, by omega, by first | rfl | simp, hs, (HT4.out.call hHeld).off ho (by omega) (by omega), ?_⟩, by simp [Go.RowKit.intOf]; omega⟩
              exact (bt HB4.out HB4.out.size hHeld).trans (ho.below (Nat.le_trans HB4.out.size hHeld.size) fun i hi e => by have := HBW.out; have e' : i = g := e; omega)
          · obtain rfl : m = N := by omega
            have d3 : decide ((m : Int) < (m : Int)) = false := by simp
            clear t4 hb4 hrw hlt
            go_wp2_with fail
            go_loopw [10, 11] (fun cnt k wy => ∃ (q : Nat), q ≤ n + 1 ∧ cnt = .int .i64 (cntT L q : Int) ∧ k = .int .i64 (q : Int) ∧ Tin wy p b L ∧ Below w.heap.size w wy) (fun _ k _ => n + 1 - (Go.RowKit.intOf k).toNat)
            case atStart => exact ⟨0, by omega, rfl, rfl, HT4.out, HB4.out⟩
            case round =>
              obtain ⟨q, hq, rfl, rfl, t5, hb5⟩ := hrel
              have HB5 := Lib.hid hb5
              have HT5 := Lib.hid t5
              by_cases hlt : q ≤ n
              · have d4 : decide ((q : Int) ≤ (n : Int)) = true := by simpa using hlt
                have hwq : (Lit.int .i64 (q : Int)).wf = true := by simp [Lit.wf, IntKind.min, IntKind.max, IntKind.signed, IntKind.bits]; omega
                have HH := has_any (q : Int) wr t5 hwq
                have hs := cnt_succ L q
                have hcq := cnt_le L q
                cases hh : hasT L (q : Int)
                · rw [hh] at HH hs
                  have hs' : cntT L (q + 1) = cntT L q := by simpa using hs
                  have HS := Lib.hid hs'
                  have HHH := Lib.hid HH
                  generalize cntT L q = cq at *
                  clear t5 hb5 HH hs hs' hh hwq
                  go_wp2_with (first
                    | (go_at_call 13; (with_reducible refine HHH.out.mono ?_); rintro e w6 ⟨rfl, hb6⟩)
                    | fail)
                  go_roundw
                  case rel => exact ⟨q + 1, by omega, by rw [HS.out], by go_num, HT5.out.call hb6, bt HB5.out HB5.out.size hb6⟩
                  case measure => simp [Go.RowKit.intOf]; omega
                · rw [hh] at HH hs
                  have hs' : cntT L (q + 1) = cntT L q + 1 := by simpa using hs
                  have HS := Lib.hid hs'
                  have HHH := Lib.hid HH
                  generalize cntT L q = cq at *
                  clear t5 hb5 HH hs hs' hh hwq
                  go_wp2_with (first
                    | (go_at_call 13; (with_reducible refine HHH.out.mono ?_); rintro e w6 ⟨rfl, hb6⟩)
                    | fail)
                  go_roundw
                  case rel => exact ⟨q + 1, by omega, by rw [HS.out]; go_num, by go_num, HT5.out.call hb6, bt HB5.out HB5.out.size hb6⟩
                  case measure => simp [Go.RowKit.intOf]; omega
              · obtain rfl : q = n + 1 := by omega
                have d4 : decide (((n + 1 : Nat) : Int) ≤ (n : Int)) = false := by simp; omega
                have hc0 : cntT L (n + 1) = m := by rw [← HL.out, cnt_all]; exact HNN.out
                have HCt := Lib.hid (fun wx (tx : Tin wx p b L) => by have := tcount_any wx tx; rw [HNN.out] at this; exact this)
                rw [hc0]
                clear t5 hb5 hc0
                go_wp2_with (first
                  | (go_at_call 18; (with_reducible refine (HCt.out _ HT5.out).mono ?_); rintro e w6 ⟨rfl, rfl⟩)
                  | (go_at_call 8; (with_reducible refine (works13_any _).mono ?_); rintro e w7 ⟨rfl, hb7⟩)
                  | fail)
                go_ret
                exact ⟨rfl, bt HB5.out HB5.out.size hb7⟩
end Go.Proofs.Ytnbofokdhkoglaa.tableAll
