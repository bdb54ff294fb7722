/-
  Contract of Large: have values more parts and text than so? Memory that was there stays. Condition: values of bulk at most 2^40.
-/
import Derived.Test.YtobnbgbijdhjjaaGreatDoorStack
import Derived.Deep.RegionWith
namespace Go.Proofs.YtobnbgbijdhjjaaGreatDoor.Val
open Go.RowKit Go.Proofs.YtobnbgbijdhjjaaGreatDoor.Utf V

def big : V → Nat
  | .mk _ _ t ks => itemsL ks + 1 + t.size / 8
def bigL : List V → Nat
  | [] => 0
  | v :: r => big v + bigL r
theorem big_le (v : V) : big v ≤ bulk v := by
  cases v with
  | mk k n t ks =>
    have := itemsL_le ks
    simp only [big, bulk]
    omega
theorem bigL_le : ∀ l : List V, bigL l ≤ bulkL l
  | [] => by simp [bigL, bulkL]
  | v :: r => by have := big_le v; have := bigL_le r; simp only [bigL, bulkL]; omega
theorem bigL_append (a b : List V) : bigL (a ++ b) = bigL a + bigL b := by
  induction a with
  | nil => simp [bigL]
  | cons x a ih => simp only [List.cons_append, bigL, ih]; omega
theorem bigL_take {l : List V} {i : Nat} {v : V} (h : l[i]? = some v) : bigL (l.take (i + 1)) = bigL (l.take i) + big v := by
  rw [take_snoc h, bigL_append]; simp [bigL]
theorem bigL_take_le (l : List V) (i : Nat) : bigL (l.take i) ≤ bigL l := by
  have h := bigL_append (l.take i) (l.drop i)
  rw [List.take_append_drop] at h
  omega

set_option maxRecDepth 100000 in
set_option maxHeartbeats 800000 in
theorem large_any (ks : List V) (A : Option Addr) (l c : Nat) (w : World) (hN : bulkL ks ≤ 1099511627776) (hK : Kd w ks A l c) :
    Calls Tryz.prog 4 #[.slice A l c] w (GivesB (decide (8192 < bigL ks)) w) := by
  have hl1 : l ≤ ks.length := Nat.le_of_eq hK.len
  have hl2 : ks.length ≤ l := Nat.le_of_eq hK.len.symm
  have hlb := length_bulk ks
  have hbb := bigL_le ks
  go_enter Tryz.func4, Tryz.ntmps4
  go_wp2
  go_loopw [3, 4] (fun m i wr => ∃ j : Nat, j ≤ l ∧ i = .int .i64 j ∧ m = .int .i64 ((bigL (ks.take j) : Nat) : Int) ∧ Below w.heap.size w wr) (fun _ i _ => l - (intOf i).toNat)
  case atStart => exact ⟨0, Nat.zero_le _, rfl, rfl, Below.refl _ _⟩
  case round =>
    obtain ⟨j, hj, rfl, rfl, hb⟩ := hrel
    by_cases hlt : j < l
    · have hK2 := hK.call hb
      obtain ⟨b, o, k', n', t', ks', A', l', c', rfl, hb', hx, h0, h1, h2, h3, _, _, hK'⟩ := hK2.at_ hlt
      have hbk := at_bulk hx
      simp only [bulk] at hbk
      have HT := Lib.hid (bigL_take hx)
      have htl := bigL_take_le ks (j + 1)
      have htl2 : bigL (ks.take j) + (itemsL ks' + 1 + t'.size / 8) ≤ bigL ks := by have := HT.out; simp only [big] at this; omega
      have HBK : Hid (bulkL ks' ≤ 1099511627776) := Lib.hid (by omega)
      have HKD : Hid (Kd wr.drew ks' A' l' c') := Lib.hid (hK'.drew)
      have HB := Lib.hid hb
      clear hx hK2 hK' hb
      go_wp2_with fail
      go_region_with ((go_at_call 11; refine (xitems_any (bulkL ks') k' n' t' ks' A' l' c' wr.drew (Nat.le_refl _) (by exact HBK.out) (by exact HKD.out)).mono ?_; rintro e w2 ⟨rfl, hb2⟩; have h2' := (hb2.cell (p := ⟨b, o + j * 4 + 2, none⟩) hb').trans h2; have HB2 := Lib.hid hb2; clear hb2))
      all_goals (go_wp2; go_roundw; (case rel => exact ⟨j + 1, by omega, by go_num, by rw [HT.out]; simp only [big]; go_num, below_next HB.out ((Below.refl _ wr).drew.trans HB2.out)⟩); (case measure => (simp [intOf]; omega)))
    · have HE : Hid (ks.take j = ks) := Lib.hid (List.take_of_length_le (by omega))
      go_wp2
      go_ret
      refine ⟨?_, hb⟩
      rw [HE.out]
      go_num
end Go.Proofs.YtobnbgbijdhjjaaGreatDoor.Val
