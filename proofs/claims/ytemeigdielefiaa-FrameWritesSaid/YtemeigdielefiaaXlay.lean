/-
  Contracts of the document's Lay and LayPiece behind nothing: new memory that holds the number's bytes; a piece behind its length. Conditions: at most 8 bytes; a piece whose length fits its width.
-/
import Derived.Test.YtemeigdielefiaaOctL
namespace Go.Proofs.Ytemeigdielefiaa.Enc
set_option maxRecDepth 100000
open Go.RowKit Go.Proofs.Ytemeigdielefiaa.Utf

theorem div_step (X i : Nat) : ((X / 256 ^ i : Nat) : Int) / 256 = ((X / 256 ^ (i + 1) : Nat) : Int) := by
  rw [Nat.pow_succ, ← Nat.div_div_eq_div_mul]; simp
theorem byte_mod (Y : Nat) : (Y : Int) % 256 = ((Y % 256 : Nat) : Int) := by simp

set_option maxHeartbeats 800000 in
theorem xlay_any (X m : Nat) (hm : m ≤ 8) (hX : X < 18446744073709551616) (w : World) : Calls Try.prog 20 #[.slice none 0 0, .int .u64 (X : Int), .int .i64 (m : Int)] w (GivesL w.heap.size (be X m) w) := by
  have ho0 : Own .u8 256 5 (w.alloc (.cells #[] 5)) w.heap.size (some ⟨w.heap.size, 0, none⟩) 0 0 [] := own_lit8 w w.heap.size 0 [] rfl (by simp) (by unfold maxLen; omega) (Nat.le_refl _)
  have hr0 : Rd .u8 256 (w.alloc (.cells #[] 5)) w.heap.size none 0 [] := Rd.zero _ _ _ _ _
  have hb0 : Below w.heap.size w (w.alloc (.cells #[] 5)) := (Below.refl _ _).alloc (Nat.le_refl _) _
  have d8 : decide ((m : Int) ≤ 8) = true := decide_eq_true (by omega)
  go_enter Try.func20, Try.ntmps20
  go_wp2_with (at_builtin; refine wpList_app8 (l := []) (L := []) rfl _ _ rfl rfl ho0 rfl hr0 (by omega) hb0.size ?_; intro A2 c2 w2 hown2 hgrow2)
  simp only [Nat.zero_add, List.nil_append] at hown2
  have hb2 := hb0.trans (below_grown ho0 hgrow2 hb0.size)
  clear hr0 hb0 hgrow2
  go_loopw [7, 8] (fun b i wr => ∃ A' n' c' L j, j ≤ m ∧ n' + j = m ∧ b = .slice A' n' c' ∧ i = .int .i64 (j : Int) ∧ Own .u8 256 5 wr w.heap.size A' n' c' L ∧ L ++ be X j = be X m ∧ Below w.heap.size w wr) (fun _ i _ => (intOf i).toNat)
  case atStart => exact ⟨A2, 0, c2, [], m, Nat.le_refl _, by omega, rfl, rfl, hown2, rfl, hb2⟩
  case round =>
    obtain ⟨A', n', c', L, j, hj, hnj, rfl, rfl, ho, hL, hb⟩ := hrel
    have HL := Lib.hid hL
    have HN := Lib.hid hnj
    have hn' : n' ≤ 8 := by omega
    clear hL hnj
    by_cases hj0 : j = 0
    · subst hj0
      go_wp2
      go_ret
      exact GivesL.mk rfl (by simpa [be] using HL.out) ho hb
    · obtain ⟨i, rfl⟩ : ∃ i, j = i + 1 := ⟨j - 1, by omega⟩
      clear hj0
      obtain ⟨wo, rfl⟩ : ∃ wo : World, wo = wr := ⟨_, rfl⟩
      have d0 : decide ((0 : Int) < ((i + 1 : Nat) : Int)) = true := by simp
      have hs1 := hb.size
      go_wp2
      go_loop [9, 10] (fun y t => ∃ q : Nat, q ≤ i ∧ t = .int .i64 ((q : Int) + 1) ∧ y = .int .u64 (X / 256 ^ q : Nat)) (fun _ t => i + 1 - (intOf t).toNat)
      case atStart => exact ⟨0, Nat.zero_le _, rfl, by simp⟩
      case round =>
        obtain ⟨q, hq, rfl, rfl⟩ := hrel
        have hdv := div_step X q
        have HD := Lib.hid hdv
        clear hdv
        have hyX : X / 256 ^ q < 18446744073709551616 := Nat.lt_of_le_of_lt (Nat.div_le_self _ _) hX
        by_cases hlt : q < i
        · generalize X / 256 ^ q = y at *
          go_wp2
          exact ⟨⟨q + 1, by omega, by go_num, by rw [HD.out]⟩, by simp [intOf]; omega⟩
        · obtain rfl : q = i := by omega
          have HU : Hid (be X (q + 1) = X / 256 ^ q % 256 :: be X q) := Lib.hid rfl
          clear HD hlt
          generalize X / 256 ^ q = y at *
          obtain ⟨z, hz⟩ : ∃ z : Nat, z = y % 256 := ⟨_, rfl⟩
          have hz256 : z < 256 := by omega
          have hzy : (y : Int) % 256 = (z : Int) := by omega
          have hzt : (y : Int).tmod 256 = (z : Int) := by rw [Int.tmod_eq_emod_of_nonneg (by omega)]; omega
          rw [← hz] at HU
          clear hz
          go_wp2_with (at_builtin; refine wpList_app8 (l := [z]) (B := wo.heap.size + 1) rfl _ _ rfl rfl (ho.alloc _) rfl (rd_new _ _ _ hz256 (by rfl)) (by omega) (by simp; omega) ?_; intro A2 c2 w2 hown2 hgrow2)
          go_roundw
          case rel =>
            have hN := HN.out
            refine ⟨A2, n' + 1, c2, _, q, by omega, by omega, rfl, ?_, hown2, ?_, ?_⟩
            · congr 1
            · rw [← HL.out, HU.out, List.append_assoc]; rfl
            · exact (hb.alloc (by omega) _).trans (below_grown (ho.alloc _) hgrow2 (by simp; omega))
          case measure => simp [intOf]

/-- The call answers new memory that holds l, and no error. -/
def GivesX (base : Nat) (l : List Nat) (w : World) (e : Ending) (w' : World) : Prop := ∃ A n c, e = .returned (.tuple #[.slice A n c, .int .i64 0]) ∧ Own .u8 256 5 w' base A n c l ∧ Below base w w'
theorem xlay_1 (X : Nat) (hX : X < 18446744073709551616) (w : World) : Calls Try.prog 20 #[.slice none 0 0, .int .u64 (X : Int), .int .i64 1] w (GivesL w.heap.size (be X 1) w) := xlay_any X 1 (by omega) hX w
theorem xlay_4 (X : Nat) (hX : X < 18446744073709551616) (w : World) : Calls Try.prog 20 #[.slice none 0 0, .int .u64 (X : Int), .int .i64 4] w (GivesL w.heap.size (be X 4) w) := xlay_any X 4 (by omega) hX w
end Go.Proofs.Ytemeigdielefiaa.Enc
