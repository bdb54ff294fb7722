/-
  Contracts of the document's Items and Depth of a value. Memory that was there stays. Condition: a value of bulk at most 2^40.
-/
import Derived.Test.YtdbcdabijolagaaDoorTree
import Derived.WalkLawsBesides
namespace Go.Proofs.YtdbcdabijolagaaDoor.Val
open Go.RowKit Go.Proofs.YtdbcdabijolagaaDoor.Utf V

/-- What a call's own box holds, behind whatever left old memory alone. -/
theorem box_kept {wr w' : World} {b o : Nat} {v : Value} (h : wr.cell? ⟨b, o, none⟩ = some v) (hb : Below wr.heap.size wr w') (hlt : b < wr.heap.size) : w'.cell? ⟨b, o, none⟩ = some v := (hb.cell (p := ⟨b, o, none⟩) hlt).trans h
theorem ret_int {k : IntKind} {a b : Int} (h : a = b) : Ending.returned (.int k a) = .returned (.int k b) := by rw [h]
theorem below_next {w wr w' : World} (hb : Below w.heap.size w wr) (h : Below wr.heap.size wr w') : Below w.heap.size w w' := hb.trans (h.mono hb.size)

set_option maxHeartbeats 400000 in
theorem xitems_any (N : Nat) : ∀ (k n : Nat) (t : ByteArray) (ks : List V) (A : Option Addr) (l c : Nat) (w : World), bulkL ks ≤ N → N ≤ 1099511627776 → Kd w ks A l c →
    Calls Tryd.prog 31 #[.agg #[.int .u8 k, .int .u64 n, .string t, .slice A l c]] w fun e w' => e = .returned (.int .i64 ((itemsL ks + 1 : Nat) : Int)) ∧ Below w.heap.size w w' := by
  induction N using Nat.strongRecOn with
  | ind N ih =>
  intro k n t ks A l c w hN hN2 hK
  have hl1 : l ≤ ks.length := Nat.le_of_eq hK.len
  have hl2 : ks.length ≤ l := Nat.le_of_eq hK.len.symm
  have hlb := length_bulk ks
  have hil := itemsL_le ks
  have IH := Lib.hid ih
  clear ih
  go_enter Tryd.func31, Tryd.ntmps31
  go_wp2
  go_loopw [3, 4] (fun m i wr => ∃ j : Nat, j ≤ l ∧ i = .int .i64 j ∧ m = .int .i64 ((itemsL (ks.take j) + 1 : Nat) : Int) ∧ wr.cell? ⟨w.heap.size, 3, none⟩ = some (.slice A l c) ∧ w.heap.size < wr.heap.size ∧ Below w.heap.size w wr) (fun _ i _ => l - (intOf i).toNat)
  case atStart =>
    exact ⟨0, Nat.zero_le _, rfl, rfl, by simp, by simp, (Below.refl _ _).alloc (Nat.le_refl _) _⟩
  case round =>
    obtain ⟨j, hj, rfl, rfl, hc, hsz, hb⟩ := hrel
    by_cases hlt : j < l
    · have hK2 := hK.call hb
      obtain ⟨b, o, k', n', t', ks', A', l', c', rfl, hb', hx, h0, h1, h2, h3, _, _, hK'⟩ := hK2.at_ hlt
      have hbk := at_bulk hx
      simp only [bulk] at hbk
      have HT := Lib.hid (itemsL_take hx)
      have htl := itemsL_take_le ks (j + 1)
      have htl2 : itemsL (ks.take j) + itemsL ks' + 1 ≤ itemsL ks := by have := HT.out; simp only [items] at this; omega
      clear hx
      go_wp2_with fail
      refine (IH.out (bulkL ks') (by omega) k' n' t' ks' A' l' c' wr (Nat.le_refl _) (by omega) hK').mono ?_
      rintro e w2 ⟨rfl, hb2⟩
      have hc2 := box_kept hc hb2 hsz
      have hb3 := below_next hb hb2
      have hs2 := hb2.size
      go_wp2
      go_roundw
      case rel => exact ⟨j + 1, by omega, by go_num, by rw [HT.out]; simp only [items]; go_num, hc2, by omega, hb3⟩
      case measure => simp [intOf]; omega
    · have HE : Hid (ks.take j = ks) := Lib.hid (List.take_of_length_le (by omega))
      go_wp2
      go_ret
      exact ⟨by rw [HE.out]; rfl, hb⟩
set_option maxHeartbeats 400000 in
theorem xdepth_any (N : Nat) : ∀ (k n : Nat) (t : ByteArray) (ks : List V) (A : Option Addr) (l c : Nat) (w : World), bulkL ks ≤ N → N ≤ 1099511627776 → Kd w ks A l c →
    Calls Tryd.prog 29 #[.agg #[.int .u8 k, .int .u64 n, .string t, .slice A l c]] w fun e w' => e = .returned (.int .i64 ((depthL ks + 1 : Nat) : Int)) ∧ Below w.heap.size w w' := by
  induction N using Nat.strongRecOn with
  | ind N ih =>
  intro k n t ks A l c w hN hN2 hK
  have hl1 : l ≤ ks.length := Nat.le_of_eq hK.len
  have hl2 : ks.length ≤ l := Nat.le_of_eq hK.len.symm
  have hlb := length_bulk ks
  have hil := itemsL_le ks
  have hdl := depthL_le ks
  have IH := Lib.hid ih
  clear ih
  go_enter Tryd.func29, Tryd.ntmps29
  go_wp2
  go_loopw [3, 4] (fun m i wr => ∃ j : Nat, j ≤ l ∧ i = .int .i64 j ∧ m = .int .i64 ((depthL (ks.take j) : Nat) : Int) ∧ wr.cell? ⟨w.heap.size, 3, none⟩ = some (.slice A l c) ∧ w.heap.size < wr.heap.size ∧ Below w.heap.size w wr) (fun _ i _ => l - (intOf i).toNat)
  case atStart =>
    exact ⟨0, Nat.zero_le _, rfl, rfl, by simp, by simp, (Below.refl _ _).alloc (Nat.le_refl _) _⟩
  case round =>
    obtain ⟨j, hj, rfl, rfl, hc, hsz, hb⟩ := hrel
    by_cases hlt : j < l
    · have hK2 := hK.call hb
      obtain ⟨b, o, k', n', t', ks', A', l', c', rfl, hb', hx, h0, h1, h2, h3, _, _, hK'⟩ := hK2.at_ hlt
      have hbk := at_bulk hx
      simp only [bulk] at hbk
      have HT := Lib.hid (depthL_take hx)
      have htl := depthL_take_le ks (j + 1)
      have htl2 : depthL ks' + 1 ≤ depthL ks := by have := HT.out; simp only [depth] at this; omega
      have htl3 := depthL_take_le ks j
      clear hx
      go_wp2_with fail
      refine (IH.out (bulkL ks') (by omega) k' n' t' ks' A' l' c' wr (Nat.le_refl _) (by omega) hK').mono ?_
      rintro e w2 ⟨rfl, hb2⟩
      have hc2 := box_kept hc hb2 hsz
      have hb3 := below_next hb hb2
      have hs2 := hb2.size
      go_wp2
      go_roundw
      case rel => exact ⟨j + 1, by omega, by go_num, by rw [HT.out]; simp only [depth]; go_num, hc2, by omega, hb3⟩
      case measure => simp [intOf]; omega
    · have HE : Hid (ks.take j = ks) := Lib.hid (List.take_of_length_le (by omega))
      have hq : depthL (ks.take j) ≤ 1099511627776 := by have := depthL_take_le ks j; omega
      go_wp2
      go_ret
      exact ⟨ret_int (by rw [HE.out]; omega), hb⟩
end Go.Proofs.YtdbcdabijolagaaDoor.Val
