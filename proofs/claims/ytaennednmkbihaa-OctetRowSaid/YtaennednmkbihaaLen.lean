/-
  Contracts of octet.cutter's length, and of its cut where there is no piece. Condition: fewer than 2^40 bytes come in.
-/
import Derived.Test.YtaennednmkbihaaLayp
import Derived.Test.YtaennednmkbihaaTell
import Derived.Deep.RegionWith
import Derived.Deep.QuietTactic
import Derived.BigQuiet
import Derived.Deep.RegionHeld3
import Derived.Outline
namespace Go.Proofs.Ytaennednmkbihaa.Oct
open Go.RowKit

theorem told_some (l : List UInt8) (h : l.length ≤ 8) : told l = .tuple #[.int .u64 (tl l : Nat), .bool true] := by unfold told; rw [if_pos h]

theorem length_short (A : Option Addr) (n c k m : Nat) (w : World) (hnk : n < k) :
    Calls Try.prog 27 #[.agg #[.slice A n c, .int .i64 k, .int .i64 m]] w fun e w' => e = .returned (.tuple #[.int .i64 0, .bool false]) ∧ Below w.heap.size w w' := by
  go_enter Try.func27, Try.ntmps27
  go_wp2
  go_ret2
  exact ⟨rfl, (Below.refl _ _).alloc (Nat.le_refl _) _⟩

theorem length_any (A : Option Addr) (n c k m : Nat) (l : List UInt8) (w : World) (hr : Rd w w.heap.size A n l) (hk : k ≤ 8) (hkn : k ≤ n) (hnc : n ≤ c) (hn : n ≤ 1099511627776) (hm : m ≤ 2147483647) (t : Nat) (ht : tl (l.take k) = t) :
    Calls Try.prog 27 #[.agg #[.slice A n c, .int .i64 k, .int .i64 m]] w fun e w' => e = .returned (if m < t ∨ n - k < t then .tuple #[.int .i64 0, .bool false] else .tuple #[.int .i64 t, .bool true]) ∧ Below w.heap.size w w' := by
  have htk := Lib.hid (told_some (l.take k) (by rw [List.length_take]; omega))
  have hlt := tl_lt (l.take k)
  have htb : t < 18446744073709551616 := by
    have h1 : (256 : Nat) ^ (l.take k).length ≤ 256 ^ 8 := Nat.pow_le_pow_right (by omega) (by rw [List.length_take]; omega)
    omega
  have HT := Lib.hid ht
  clear ht hlt
  by_cases h1 : m < t
  · rw [if_pos (.inl h1)]
    go_enter Try.func27, Try.ntmps27
    go_wp2_with (go_at_call 12; refine (tell_any (w.heap.size) A k c (l.take k) _ ((hr.take hkn).alloc (Nat.le_refl _) _)).mono ?_; rw [htk.out, HT.out]; rintro e w' ⟨rfl, rfl⟩)
    go_ret2
    exact ⟨rfl, (Below.refl _ _).alloc (Nat.le_refl _) _⟩
  by_cases h2 : n - k < t
  · rw [if_pos (.inr h2)]
    go_enter Try.func27, Try.ntmps27
    go_wp2_with (go_at_call 12; refine (tell_any (w.heap.size) A k c (l.take k) _ ((hr.take hkn).alloc (Nat.le_refl _) _)).mono ?_; rw [htk.out, HT.out]; rintro e w' ⟨rfl, rfl⟩)
    go_ret2
    exact ⟨rfl, (Below.refl _ _).alloc (Nat.le_refl _) _⟩
  rw [if_neg (by omega)]
  go_enter Try.func27, Try.ntmps27
  go_wp2_with (go_at_call 12; refine (tell_any (w.heap.size) A k c (l.take k) _ ((hr.take hkn).alloc (Nat.le_refl _) _)).mono ?_; rw [htk.out, HT.out]; rintro e w' ⟨rfl, rfl⟩)
  go_ret2
  exact ⟨rfl, (Below.refl _ _).alloc (Nat.le_refl _) _⟩

/-- The call answers two slices of new memory, and an error's number. -/
def GivesP (base : Nat) (p r : List UInt8) (err : Int) (w : World) (e : Ending) (w' : World) : Prop :=
  ∃ A n c A' n' c', e = .returned (.tuple #[.slice A n c, .slice A' n' c', .int .i64 err]) ∧ Own w' base A n c p ∧ Own w' base A' n' c' r ∧ Below base w w'

theorem box3 {w w1 : World} {x y z : Value} {T : TypeId} (hb : Below (w.alloc (.cells #[x, y, z] T)).heap.size (w.alloc (.cells #[x, y, z] T)) w1) :
    w1.cell? ⟨w.heap.size, 0, none⟩ = some x ∧ w1.cell? ⟨w.heap.size, 1, none⟩ = some y ∧ w1.cell? ⟨w.heap.size, 2, none⟩ = some z ∧ w.heap.size + 1 ≤ w1.heap.size ∧ Below w.heap.size w w1 :=
  ⟨(hb.cell (p := ⟨w.heap.size, 0, none⟩) (by simp)).trans (by simp), (hb.cell (p := ⟨w.heap.size, 1, none⟩) (by simp)).trans (by simp), (hb.cell (p := ⟨w.heap.size, 2, none⟩) (by simp)).trans (by simp), by simpa using hb.size, ((Below.refl _ _).alloc (Nat.le_refl _) _).trans (hb.mono (by simp))⟩

theorem cut_short (A : Option Addr) (n c k m : Nat) (w : World) (hnk : n < k) :
    Calls Try.prog 26 #[.agg #[.slice A n c, .int .i64 k, .int .i64 m], .func (.func 27) #[.agg #[.slice A n c, .int .i64 k, .int .i64 m]] #[]] w (GivesP w.heap.size [] [] 7 w) := by
  go_enter Try.func26, Try.ntmps26
  go_wp2_with (go_at_call 27; refine (length_short A n c k m _ hnk).mono ?_; rintro e w1 ⟨rfl, hb⟩)
  go_ret3
  exact ⟨none, 0, 0, none, 0, 0, rfl, World.ownsRow_nil _ _ 5 1, World.ownsRow_nil _ _ 5 1, ((Below.refl _ _).alloc (Nat.le_refl _) _).trans (hb.mono (by simp))⟩

theorem cut_bad (A : Option Addr) (n c k m : Nat) (l : List UInt8) (w : World) (hr : Rd w w.heap.size A n l) (hk : k ≤ 8) (hkn : k ≤ n) (hnc : n ≤ c) (hn : n ≤ 1099511627776) (hm : m ≤ 2147483647) (t : Nat) (ht : tl (l.take k) = t) (h : m < t ∨ n - k < t) :
    Calls Try.prog 26 #[.agg #[.slice A n c, .int .i64 k, .int .i64 m], .func (.func 27) #[.agg #[.slice A n c, .int .i64 k, .int .i64 m]] #[]] w (GivesP w.heap.size [] [] 7 w) := by
  have H := Lib.hid h
  have HT := Lib.hid ht
  clear h ht
  go_enter Try.func26, Try.ntmps26
  go_wp2_with (go_at_call 27; refine (length_any A n c k m l _ ((hr.alloc (Nat.le_refl _) _).mono (by simp)) hk hkn hnc hn hm t HT.out).mono ?_; rw [if_pos H.out]; rintro e w1 ⟨rfl, hb⟩)
  go_ret3
  exact ⟨none, 0, 0, none, 0, 0, rfl, World.ownsRow_nil _ _ 5 1, World.ownsRow_nil _ _ 5 1, ((Below.refl _ _).alloc (Nat.le_refl _) _).trans (hb.mono (by simp))⟩

end Go.Proofs.Ytaennednmkbihaa.Oct
