/-
  Contracts of octet.room, octet.layNumber and octet.Lay: new memory that holds the bytes and, behind them, the number's. Condition: fewer than 2^46 bytes come in.
-/
import Derived.Test.YtaennednmkbihaaMem
import Derived.Outline
namespace Go.Proofs.Ytaennednmkbihaa.Oct
open Go.RowKit

/-- The call answers new memory (from base on) that holds l, and leaves all below base as it was. -/
def Gives (base : Nat) (l : List UInt8) (w : World) (e : Ending) (w' : World) : Prop := ∃ A n c, e = .returned (.slice A n c) ∧ Own w' base A n c l ∧ Below base w w'

theorem Gives.mk {base n c : Nat} {A : Option Addr} {l l' : List UInt8} {w w' : World} {e : Ending} (he : e = .returned (.slice A n c)) (hl : l' = l) (ho : Own w' base A n c l') (hb : Below base w w') : Gives base l w e w' := by
  subst hl
  exact ⟨A, n, c, he, ho, hb⟩

theorem room_any (A : Option Addr) (n c k : Nat) (l : List UInt8) (w : World) (hr : Rd w w.heap.size A n l) (hn : n ≤ 70368744177664) (hk : k ≤ 70368744177664) :
    Calls Try.prog 24 #[.slice A n c, .int .i64 k] w (Gives w.heap.size l w) := by
  obtain ⟨i0, hi, hz0, hz1, hz2⟩ := info_parts info5
  go_enter Try.func24, Try.ntmps24
  go_wp2_with (first
    | (at_make; refine wpList_make_own w rfl _ _ 22 rfl w.heap.size 5 i0 (.int .u8 0) 1 Try.underlying22 hi hz0 hz1 .i64 .i64 (↑n + ↑k) (n + k) rfl rfl (by omega) (by rw [hz2]; omega) (by unfold maxLen; omega) (Nat.le_refl _) ?_; intro w1 hown1 hgrow1; have hb1 : Below w.heap.size w w1 := (Below.refl _ _).grown hgrow1 (Nat.le_refl _) (fun _ h => by cases h); have hr1 := hr.below hb1; have hs1 := hb1.size)
    | (at_builtin; refine wpList_app (l := l) (L := []) rfl _ _ rfl rfl hown1 rfl hr1 (by omega) hs1 ?_; intro A2 c2 w2 hown2 hgrow2))
  go_ret
  simp only [Nat.zero_add, List.nil_append] at hown2
  have hown1' : Own w1 w.heap.size (some ⟨w.heap.size, 0, none⟩) 0 (n + k) [] := hown1
  exact Gives.mk rfl rfl hown2 (hb1.trans (below_grown hown1' hgrow2 hs1))

theorem shr_byte (X j : Nat) : ((X : Int) / 2 ^ (8 * j)) % 256 = ((UInt8.ofNat (X / 256 ^ j)).toNat : Int) := by
  rw [pow256]
  have h : ((X : Int) / 2 ^ (8 * j)) = ((X / 2 ^ (8 * j) : Nat) : Int) := by simp
  rw [h]
  simp

theorem rd_new (w : World) (z : Int) (b : UInt8) (h : z = (b.toNat : Int)) : Rd (w.alloc (.cells #[.int .u8 z] 5)) (w.heap.size + 1) (some ⟨w.heap.size, 0, none⟩) 1 [b] := by
  subst h
  exact rd_lit w [b] 1 rfl

theorem layn_any (base : Nat) (A : Option Addr) (n c : Nat) (l : List UInt8) (X k : Nat) (w : World) (hown : Own w base A n c l) (hbase : base ≤ w.heap.size) (hn : n ≤ 140737488355320) (hk : k ≤ 8) :
    Calls Try.prog 23 #[.slice A n c, .int .u64 X, .int .i64 k] w (Gives base (l ++ be X k) w) := by
  go_enter Try.func23, Try.ntmps23
  go_wp2
  go_loopw [0, 7] (fun b i wr => ∃ A' n' c' L j, j ≤ k ∧ n' + j = n + k ∧ b = .slice A' n' c' ∧ i = .int .i64 ((j : Int) - 1) ∧ Own wr base A' n' c' L ∧ L ++ be X j = l ++ be X k ∧ Below base w wr) (fun _ i _ => (intOf i + 1).toNat)
  case atStart => exact ⟨A, n, c, l, k, Nat.le_refl _, rfl, rfl, rfl, hown, rfl, Below.refl _ _⟩
  case round =>
    obtain ⟨A', n', c', L, j, hj, hnj, rfl, rfl, ho, hL, hb⟩ := hrel
    have HL := Lib.hid hL
    have HN := Lib.hid hnj
    have hn' : n' ≤ 140737488355328 - 1 ∨ j = 0 := by omega
    clear hL hnj
    by_cases hj0 : j = 0
    · subst hj0
      go_wp2
      go_ret
      exact Gives.mk rfl (by simpa [be] using HL.out) ho hb
    · obtain ⟨i, rfl⟩ : ∃ i, j = i + 1 := ⟨j - 1, by omega⟩
      have hsb := shr_byte X i
      have HS := Lib.hid hsb
      clear hsb hj0
      have hs1 := hb.size
      go_wp2_with (at_builtin; refine wpList_app (l := [UInt8.ofNat (X / 256 ^ i)]) (B := wr.heap.size + 1) rfl _ _ rfl rfl (ho.alloc _) rfl (rd_new _ _ _ HS.out) (by omega) (by simp; omega) ?_; intro A2 c2 w2 hown2 hgrow2)
      go_roundw
      case rel =>
        have hN := HN.out
        refine ⟨A2, n' + 1, c2, _, i, by omega, by omega, rfl, ?_, hown2, ?_, ?_⟩
        · congr 1
        · rw [← HL.out, be, List.append_assoc]; rfl
        · exact (hb.alloc (by omega) _).trans (below_grown (ho.alloc _) hgrow2 (by simp; omega))
      case measure => simp [intOf]

/-- Lay: bytes with a number of a width behind them, in new memory; of a width that no number has, the bytes alone. -/
def wd (k : Int) : Nat := if 0 ≤ k ∧ k ≤ 8 then k.toNat else 0

theorem lay_any (A : Option Addr) (n c : Nat) (l : List UInt8) (X : Nat) (k : Int) (w : World) (hr : Rd w w.heap.size A n l) (hn : n ≤ 70368744177664) :
    Calls Try.prog 11 #[.slice A n c, .int .u64 X, .int .i64 k] w (Gives w.heap.size (l ++ be X (wd k)) w) := by
  by_cases h1 : k < 0
  · have e : wd k = 0 := by unfold wd; rw [if_neg (by omega)]
    rw [e]
    clear e
    go_enter Try.func11, Try.ntmps11
    go_wp2_with fail
    refine (room_any A n c 0 l _ hr hn (by omega)).mono ?_
    rintro e w1 ⟨A1, n1, c1, rfl, ho, hb⟩
    go_wp2_with fail
    refine (layn_any w.heap.size A1 n1 c1 l X 0 w1 ho hb.size (by have := ho.len; have := hr.len; omega) (by omega)).mono ?_
    rintro e w2 ⟨A2, n2, c2, rfl, ho2, hb2⟩
    go_wp2
    go_ret
    exact Gives.mk rfl rfl ho2 (hb.trans hb2)
  by_cases h2 : 8 < k
  · have e : wd k = 0 := by unfold wd; rw [if_neg (by omega)]
    rw [e]
    clear e
    go_enter Try.func11, Try.ntmps11
    go_wp2_with fail
    refine (room_any A n c 0 l _ hr hn (by omega)).mono ?_
    rintro e w1 ⟨A1, n1, c1, rfl, ho, hb⟩
    go_wp2_with fail
    refine (layn_any w.heap.size A1 n1 c1 l X 0 w1 ho hb.size (by have := ho.len; have := hr.len; omega) (by omega)).mono ?_
    rintro e w2 ⟨A2, n2, c2, rfl, ho2, hb2⟩
    go_wp2
    go_ret
    exact Gives.mk rfl rfl ho2 (hb.trans hb2)
  obtain ⟨m, rfl⟩ := Int.eq_ofNat_of_zero_le (a := k) (by omega)
  have e : wd (m : Int) = m := by unfold wd; rw [if_pos (by omega)]; simp
  rw [e]
  clear e
  go_enter Try.func11, Try.ntmps11
  go_wp2_with fail
  refine (room_any A n c m l _ hr hn (by omega)).mono ?_
  rintro e w1 ⟨A1, n1, c1, rfl, ho, hb⟩
  go_wp2_with fail
  refine (layn_any w.heap.size A1 n1 c1 l X m w1 ho hb.size (by have := ho.len; have := hr.len; omega) (by omega)).mono ?_
  rintro e w2 ⟨A2, n2, c2, rfl, ho2, hb2⟩
  go_wp2
  go_ret
  exact Gives.mk rfl rfl ho2 (hb.trans hb2)
end Go.Proofs.Ytaennednmkbihaa.Oct
