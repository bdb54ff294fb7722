/-
  Contracts of octet.Lay, octet.Signed (of one byte), encode.layNumber, encode.width: the bytes of a number, in new memory. Condition: fewer than 2^46 bytes come in.
-/
import Derived.Test.YtdjncacknmejoaaMem
import Derived.Laws.BitsAllLaws
namespace Go.Proofs.Ytdjncacknmejoaa.Enc
open Go.RowKit Go.Proofs.Ytdjncacknmejoaa.Utf

/-- The k lowest bytes of X, the one that counts most first. -/
def be (X : Nat) : Nat → List Nat
  | 0 => []
  | k + 1 => X / 256 ^ k % 256 :: be X k
theorem be_length (X : Nat) : ∀ k, (be X k).length = k
  | 0 => rfl
  | k + 1 => by simp [be, be_length X k]
theorem be_byte (X : Nat) : ∀ k, ∀ x ∈ be X k, x < 256
  | 0, _, h => by cases h
  | k + 1, x, h => by
    simp only [be, List.mem_cons] at h
    rcases h with rfl | h
    · omega
    · exact be_byte X k x h

/-- The call answers new memory (from base on) that holds l, and leaves all below base as it was. -/
def GivesL (base : Nat) (l : List Nat) (w : World) (e : Ending) (w' : World) : Prop := ∃ A n c, e = .returned (.slice A n c) ∧ Own .u8 256 5 w' base A n c l ∧ Below base w w'
theorem GivesL.mk {base n c : Nat} {A : Option Addr} {l l' : List Nat} {w w' : World} {e : Ending} (he : e = .returned (.slice A n c)) (hl : l' = l) (ho : Own .u8 256 5 w' base A n c l') (hb : Below base w w') : GivesL base l w e w' := by
  subst hl
  exact ⟨A, n, c, he, ho, hb⟩

theorem pow256 (k : Nat) : 256 ^ k = 2 ^ (8 * k) := by rw [show (256 : Nat) = 2 ^ 8 from rfl, ← Nat.pow_mul]
theorem shr_byte (X j : Nat) : ((X : Int) / 2 ^ (8 * j)) % 256 = ((X / 256 ^ j % 256 : Nat) : Int) := by
  rw [pow256]
  have h : ((X : Int) / 2 ^ (8 * j)) = ((X / 2 ^ (8 * j) : Nat) : Int) := by simp
  rw [h]
  simp
theorem rd_new (w : World) (z : Int) (b : Nat) (hb : b < 256) (h : z = (b : Int)) : Rd .u8 256 (w.alloc (.cells #[.int .u8 z] 5)) (w.heap.size + 1) (some ⟨w.heap.size, 0, none⟩) 1 [b] := by
  subst h
  exact rd_lit8 w [b] 1 rfl (by intro x hx; simp at hx; omega)

set_option maxRecDepth 100000 in
theorem room_any (k : Nat) (w : World) (hk : k ≤ 70368744177664) :
    Calls Try.prog 52 #[.slice none 0 0, .int .i64 k] w (GivesL w.heap.size [] w) := by
  obtain ⟨i0, hi, hz0, hz1, hz2⟩ := info_parts info5
  have hr : Rd .u8 256 w w.heap.size none 0 [] := Rd.zero _ _ _ _ _
  go_enter Try.func52, Try.ntmps52
  go_wp2_with (first
    | (at_make; refine wpList_make_nb (K := .u8) (M := 256) w rfl _ _ 24 rfl w.heap.size i0 Try.underlying24 hi hz0 (by omega) hz1 .i64 .i64 (k : Int) k rfl rfl (by omega) (by rw [hz2]; omega) (by unfold maxLen; omega) (Nat.le_refl _) ?_; intro w1 hown1' hgrow1; have hb1 : Below w.heap.size w w1 := (Below.refl _ _).grown hgrow1 (Nat.le_refl _) (fun _ h => by cases h); have hr1 := hr.below hb1; have hs1 := hb1.size)
    | (at_builtin; refine wpList_app8 (l := []) (L := []) rfl _ _ rfl rfl hown1' rfl hr1 (by omega) hs1 ?_; intro A2 c2 w2 hown2 hgrow2))
  go_ret
  simp only [Nat.zero_add, List.nil_append] at hown2
  exact GivesL.mk rfl rfl hown2 (hb1.trans (below_grown hown1' hgrow2 hs1))

set_option maxRecDepth 100000 in
theorem layn_any (base : Nat) (A : Option Addr) (n c : Nat) (l : List Nat) (X k : Nat) (w : World) (hown : Own .u8 256 5 w base A n c l) (hbase : base ≤ w.heap.size) (hn : n ≤ 1048576) (hk : k ≤ 8) :
    Calls Try.prog 51 #[.slice A n c, .int .u64 X, .int .i64 k] w (GivesL base (l ++ be X k) w) := by
  go_enter Try.func51, Try.ntmps51
  go_wp2
  go_loopw [0, 7] (fun b i wr => ∃ A' n' c' L j, j ≤ k ∧ n' + j = n + k ∧ b = .slice A' n' c' ∧ i = .int .i64 ((j : Int) - 1) ∧ Own .u8 256 5 wr base A' n' c' L ∧ L ++ be X j = l ++ be X k ∧ Below base w wr) (fun _ i _ => (intOf i + 1).toNat)
  case atStart => exact ⟨A, n, c, l, k, Nat.le_refl _, rfl, rfl, rfl, hown, rfl, Below.refl _ _⟩
  case round =>
    obtain ⟨A', n', c', L, j, hj, hnj, rfl, rfl, ho, hL, hb⟩ := hrel
    have HL := Lib.hid hL
    have HN := Lib.hid hnj
    have hn' : n' ≤ 2097152 := by omega
    clear hL hnj
    by_cases hj0 : j = 0
    · subst hj0
      go_wp2
      go_ret
      exact GivesL.mk rfl (by simpa [be] using HL.out) ho hb
    · obtain ⟨i, rfl⟩ : ∃ i, j = i + 1 := ⟨j - 1, by omega⟩
      have hsb := shr_byte X i
      have HS := Lib.hid hsb
      clear hsb hj0
      have hs1 := hb.size
      go_wp2_with (at_builtin; refine wpList_app8 (l := [X / 256 ^ i % 256]) (B := wr.heap.size + 1) rfl _ _ rfl rfl (ho.alloc _) rfl (rd_new _ _ _ (Nat.mod_lt _ (by omega)) HS.out) (by omega) (by simp; omega) ?_; intro A2 c2 w2 hown2 hgrow2)
      go_roundw
      case rel =>
        have hN := HN.out
        refine ⟨A2, n' + 1, c2, _, i, by omega, by omega, rfl, ?_, hown2, ?_, ?_⟩
        · congr 1
        · rw [← HL.out, be, List.append_assoc]; rfl
        · exact (hb.alloc (by omega) _).trans (below_grown (ho.alloc _) hgrow2 (by simp; omega))
      case measure => simp [intOf]

/-- octet.Lay behind nothing. -/
theorem lay_any (X k : Nat) (hk : k ≤ 8) (w : World) : Calls Try.prog 49 #[.slice none 0 0, .int .u64 X, .int .i64 k] w (GivesL w.heap.size (be X k) w) := by
  go_enter Try.func49, Try.ntmps49
  go_wp2_with fail
  refine (room_any k _ (by omega)).mono ?_
  rintro e w1 ⟨A1, n1, c1, rfl, ho, hb⟩
  go_wp2_with fail
  refine (layn_any w.heap.size A1 n1 c1 [] X k w1 ho hb.size (by have := ho.len; simp at this; omega) (by omega)).mono ?_
  rintro e w2 ⟨A2, n2, c2, rfl, ho2, hb2⟩
  go_wp2
  go_ret
  exact GivesL.mk rfl (by simp) ho2 (hb.trans hb2)

/-- The sign of one byte. -/
def sg1 (X : Nat) : Nat := if X % 256 < 128 then X % 256 else X % 256 + 18446744073709551360
theorem sg_lit (X : Nat) : (IntKind.u64.wrap (wrap64 (IntKind.u64.wrap (X * 2 ^ 56)) / 2 ^ 56)) = (sg1 X : Int) := by
  unfold wrap64
  simp only [IntKind.wrap, IntKind.bits, IntKind.signed]
  unfold sg1
  by_cases h : X % 256 < 128
  · rw [if_pos h]
    simp
    omega
  · rw [if_neg h]
    simp
    omega
/-- How many bytes the number has with which a code's data begin. -/
def wid (c : Nat) : Nat := if c / 16 = 4 then 0 else if c / 16 < 10 then 2 ^ (c / 16 - 5) else if c / 16 % 2 = 0 then 1 else 4
end Go.Proofs.Ytdjncacknmejoaa.Enc
