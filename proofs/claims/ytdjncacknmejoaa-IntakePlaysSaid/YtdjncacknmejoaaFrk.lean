/-
  Contracts of the document's Lay behind any bytes, of CopyBytes, of the document's Write and Read of a frame (layer 11). Memory that was there stays. Condition: at most 2^20 bytes (Lay, Write), 2^40 (CopyBytes, Read).
-/
import Derived.Test.YtdjncacknmejoaaFrs
namespace Go.Proofs.Ytdjncacknmejoaa.Fr
set_option maxRecDepth 100000
open Go.RowKit Go.Proofs.Ytdjncacknmejoaa.Utf Go.Proofs.Ytdjncacknmejoaa.Enc

theorem ba2 {a w : World} {B : Nat} (h : Below B a w) (o : Obj) (hB : B ≤ a.heap.size := by omega) : Below B a (w.alloc o) := h.alloc (Nat.le_trans hB h.size) o
set_option maxHeartbeats 800000 in
theorem copy_any (A : Option Addr) (n c : Nat) (l : List Nat) (w : World) (hr : Rd .u8 256 w w.heap.size A n l) (hn : n ≤ 1099511627776) : Calls Try.prog 41 #[.slice A n c] w (GivesL w.heap.size l w) := by
  obtain ⟨i0, hi, hz0, hz1, hz2⟩ := info_parts info5
  have HR := Lib.hid hr
  have HL := Lib.hid hr.len
  go_enter Try.func41, Try.ntmps41
  go_wp2_with (at_make; refine wpList_make_nb (K := .u8) (M := 256) w rfl _ _ 24 rfl w.heap.size i0 Try.underlying24 hi hz0 (by omega) hz1 .i64 .i64 (n : Int) n rfl rfl rfl (by rw [hz2]; omega) (by unfold maxLen; omega) (Nat.le_refl _) ?_; intro w1 hown1 hgrow1)
  have hb1 : Below w.heap.size w w1 := (Below.refl _ _).grown hgrow1 (Nat.le_refl _) (fun _ h => by cases h)
  clear hgrow1 hr
  go_loopw [3, 4] (fun b i wr => ∃ (j : Nat) (A' : Option Addr) (c' : Nat), j ≤ n ∧ i = .int .i64 (j : Int) ∧ b = .slice A' j c' ∧ Own .u8 256 5 wr w.heap.size A' j c' (l.take j) ∧ Below w.heap.size w wr) (fun _ i _ => n - (intOf i).toNat)
  case atStart => exact ⟨0, _, _, Nat.zero_le _, rfl, rfl, by simpa using hown1, hb1⟩
  case round =>
    clear hown1 hb1
    obtain ⟨j, A', c', hj, rfl, rfl, ho, hb⟩ := hrel
    by_cases hlt : j < n
    · have d : decide ((j : Int) < (n : Int)) = true := by simp; omega
      have i0' : (0 : Int) ≤ (j : Int) := by omega
      have i1' : (j : Int) < (n : Int) := by omega
      obtain ⟨b, o, x, rfl, hbl, hx, hx2, hcell⟩ := (HR.out.below hb).at_ hlt
      have hnew := rd_new wr (x : Int) x hx2 rfl
      have hs1 := hb.size
      have HX := Lib.hid hx
      have HO := Lib.hid (ho.alloc (.cells #[.int .u8 (x : Int)] 5))
      have HN := Lib.hid hnew
      clear hx hnew ho
      go_wp2_with (at_builtin; refine wpList_app8 (l := [x]) (B := wr.heap.size + 1) rfl _ _ rfl rfl HO.out rfl HN.out (by omega) (by simp; omega) ?_; intro A2 c2 w2 hown2 hgrow2)
      go_roundw
      case rel => exact ⟨j + 1, A2, c2, by omega, by go_num, rfl, by rw [List.take_add_one, HX.out]; exact hown2, (ba2 hb _).trans (below_grown HO.out hgrow2 (by simp; omega))⟩
      case measure => simp [intOf]; omega
    · obtain rfl : j = n := by omega
      have d : decide ((j : Int) < (j : Int)) = false := by simp
      have hl : l.take j = l := List.take_of_length_le (by rw [HL.out]; omega)
      rw [hl] at ho
      have HO := Lib.hid ho
      clear ho hl
      go_wp2
      go_ret
      exact GivesL.mk rfl rfl HO.out hb
end Go.Proofs.Ytdjncacknmejoaa.Fr
