/-
  Contract of the document's Lay: new memory that holds the bytes and, behind them, the number's. Condition: fewer than 2^46 bytes come in.
-/
import Derived.Test.YtaennednmkbihaaLay
namespace Go.Proofs.Ytaennednmkbihaa.Oct
open Go.RowKit

theorem div_step (X i : Nat) : ((X / 256 ^ i : Nat) : Int) / 256 = ((X / 256 ^ (i + 1) : Nat) : Int) := by
  rw [Nat.pow_succ, ← Nat.div_div_eq_div_mul]; simp

theorem byte_of (X i : Nat) : ((X / 256 ^ i : Nat) : Int) % 256 = ((UInt8.ofNat (X / 256 ^ i)).toNat : Int) := by simp

theorem rlay_any (A : Option Addr) (n c : Nat) (l : List UInt8) (X : Nat) (k : Int) (w : World) (hr : Rd w w.heap.size A n l) (hn : n ≤ 70368744177664) (hX : X < 18446744073709551616) :
    Calls Try.prog 14 #[.slice A n c, .int .u64 X, .int .i64 k] w (Gives w.heap.size (l ++ be X (wd k)) w) := by
  have ho0 : Own (w.alloc (.cells #[] 5)) w.heap.size (some ⟨w.heap.size, 0, none⟩) 0 0 [] := own_lit w w.heap.size 0 [] rfl (by unfold maxLen; omega) (Nat.le_refl _)
  have hr0 : Rd (w.alloc (.cells #[] 5)) w.heap.size A n l := hr.alloc (Nat.le_refl _) _
  have hb0 : Below w.heap.size w (w.alloc (.cells #[] 5)) := (Below.refl _ _).alloc (Nat.le_refl _) _
  by_cases h1 : k ≤ 0
  · have e : wd k = 0 := by unfold wd; split <;> omega
    rw [e]
    clear e
    go_enter Try.func14, Try.ntmps14
    go_wp2_with (at_builtin; refine wpList_app (l := l) (L := []) rfl _ _ rfl rfl ho0 rfl hr0 (by omega) hb0.size ?_; intro A2 c2 w2 hown2 hgrow2)
    refine wp_loop_rounds 1 ?_
    rw [rounds_succ]
    go_wp2
    go_ret
    simp only [Nat.zero_add, List.nil_append] at hown2
    exact Gives.mk rfl (by simp [be]) hown2 (hb0.trans (below_grown ho0 hgrow2 hb0.size))
  by_cases h2 : 8 < k
  · have e : wd k = 0 := by unfold wd; split <;> omega
    rw [e]
    clear e
    go_enter Try.func14, Try.ntmps14
    go_wp2_with (at_builtin; refine wpList_app (l := l) (L := []) rfl _ _ rfl rfl ho0 rfl hr0 (by omega) hb0.size ?_; intro A2 c2 w2 hown2 hgrow2)
    refine wp_loop_rounds 1 ?_
    rw [rounds_succ]
    go_wp2
    go_ret
    simp only [Nat.zero_add, List.nil_append] at hown2
    exact Gives.mk rfl (by simp [be]) hown2 (hb0.trans (below_grown ho0 hgrow2 hb0.size))
  obtain ⟨m, rfl⟩ := Int.eq_ofNat_of_zero_le (a := k) (by omega)
  have e : wd (m : Int) = m := by unfold wd; rw [if_pos (by omega)]; simp
  rw [e]
  clear e
  have d8 : decide ((m : Int) ≤ 8) = true := by simp; omega
  go_enter Try.func14, Try.ntmps14
  go_wp2_with (at_builtin; refine wpList_app (l := l) (L := []) rfl _ _ rfl rfl ho0 rfl hr0 (by omega) hb0.size ?_; intro A2 c2 w2 hown2 hgrow2)
  simp only [Nat.zero_add, List.nil_append] at hown2
  have hb2 := hb0.trans (below_grown ho0 hgrow2 hb0.size)
  clear hr0 hb0 hgrow2
  go_loopw [7, 8] (fun b i wr => ∃ A' n' c' L j, j ≤ m ∧ n' + j = n + m ∧ b = .slice A' n' c' ∧ i = .int .i64 (j : Int) ∧ Own wr w.heap.size A' n' c' L ∧ L ++ be X j = l ++ be X m ∧ Below w.heap.size w wr) (fun _ i _ => (intOf i).toNat)
  case atStart => exact ⟨A2, n, c2, l, m, Nat.le_refl _, rfl, rfl, rfl, hown2, rfl, hb2⟩
  case round =>
    obtain ⟨A', n', c', L, j, hj, hnj, rfl, rfl, ho, hL, hb⟩ := hrel
    have HL := Lib.hid hL
    have HN := Lib.hid hnj
    have hn' : n' ≤ 140737488355328 - 1 ∨ j = 0 := by omega
    clear hL hnj
    by_cases hj0 : j = 0
    · subst hj0
      go_wp2
      go_ret
      exact Gives.mk rfl (by simpa [be] using HL.out) ho hb
    · obtain ⟨i, rfl⟩ : ∃ i, j = i + 1 := ⟨j - 1, by omega⟩
      clear hj0
      obtain ⟨wo, rfl⟩ : ∃ wo : World, wo = wr := ⟨_, rfl⟩
      have d0 : decide ((0 : Int) < ((i + 1 : Nat) : Int)) = true := by simp
      have hs1 := hb.size
      go_wp2
      go_loop [9, 10] (fun y t => ∃ q : Nat, q ≤ i ∧ t = .int .i64 ((q : Int) + 1) ∧ y = .int .u64 (X / 256 ^ q : Nat)) (fun _ t => i + 1 - (intOf t).toNat)
      case atStart => exact ⟨0, Nat.zero_le _, rfl, by simp⟩
      case round =>
        obtain ⟨q, hq, rfl, rfl⟩ := hrel
        have hdv := div_step X q
        have HD := Lib.hid hdv
        clear hdv
        have hyX : X / 256 ^ q < 18446744073709551616 := Nat.lt_of_le_of_lt (Nat.div_le_self _ _) hX
        by_cases hlt : q < i
        · generalize X / 256 ^ q = y at *
          go_wp2
          exact ⟨⟨q + 1, by omega, by go_num, by rw [HD.out]⟩, by simp [intOf]; omega⟩
        · obtain rfl : q = i := by omega
          have HB := Lib.hid (byte_of X q)
          have HU : Hid (be X (q + 1) = UInt8.ofNat (X / 256 ^ q) :: be X q) := Lib.hid rfl
          clear HD hlt
          generalize UInt8.ofNat (X / 256 ^ q) = by' at *
          generalize X / 256 ^ q = y at *
          go_wp2_with (at_builtin; refine wpList_app (l := [by']) (B := wo.heap.size + 1) rfl _ _ rfl rfl (ho.alloc _) rfl (rd_new _ _ _ HB.out) (by omega) (by simp; omega) ?_; intro A2 c2 w2 hown2 hgrow2)
          go_roundw
          case rel =>
            have hN := HN.out
            refine ⟨A2, n' + 1, c2, _, q, by omega, by omega, rfl, ?_, hown2, ?_, ?_⟩
            · congr 1
            · rw [← HL.out, HU.out, List.append_assoc]; rfl
            · exact (hb.alloc (by omega) _).trans (below_grown (ho.alloc _) hgrow2 (by simp; omega))
          case measure => simp [intOf]
end Go.Proofs.Ytaennednmkbihaa.Oct
