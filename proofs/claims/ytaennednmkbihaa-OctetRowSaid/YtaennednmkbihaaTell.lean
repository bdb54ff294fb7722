/-
  Contracts of octet.Tell and of the document's Tell: the number that bytes are, or that they are too many; memory stays.
-/
import Derived.Test.YtaennednmkbihaaMem
import Derived.Outline
namespace Go.Proofs.Ytaennednmkbihaa.Oct
open Go.RowKit

theorem tl_take (l : List UInt8) (k : Nat) (c : UInt8) (h : l[k]? = some c) : tl (l.take (k + 1)) = tl (l.take k) * 256 + c.toNat := by
  rw [List.take_add_one, h]
  exact tl_snoc _ _

theorem tl_or (t : Nat) (c : UInt8) (ht : t < 72057594037927936) : bits .or .u64 ((t : Int) * 256) (c.toNat : Int) = ((t * 256 + c.toNat : Nat) : Int) := by
  have hc : c.toNat < 256 := c.toNat_lt
  have e : (t : Int) * 256 = ((t * 256 : Nat) : Int) := by simp
  rw [e, u64_or_nat _ _ (by omega) (by omega), nat_join 8 (t * 256) c.toNat (by omega) hc]

theorem pow_small (k : Nat) (h : k < 8) : 256 ^ k ≤ 72057594037927936 := by
  have : (256 : Nat) ^ k ≤ 256 ^ 7 := Nat.pow_le_pow_right (by omega) (by omega)
  omega

/-- What Tell answers of l. -/
def told (l : List UInt8) : Value := if l.length ≤ 8 then .tuple #[.int .u64 (tl l : Nat), .bool true] else .tuple #[.int .u64 0, .bool false]

theorem tell_any (B : Nat) (A : Option Addr) (n c : Nat) (l : List UInt8) (w : World) (hr : Rd w B A n l) :
    Calls Try.prog 12 #[.slice A n c] w fun e w' => e = .returned (told l) ∧ w = w' := by
  by_cases h8 : 8 < n
  · have e : told l = .tuple #[.int .u64 0, .bool false] := by unfold told; rw [if_neg (by rw [hr.len]; omega)]
    rw [e]
    clear e
    go_enter Try.func12, Try.ntmps12
    go_wp2
    go_ret2
    exact ⟨rfl, rfl⟩
  · have e : told l = .tuple #[.int .u64 (tl l : Nat), .bool true] := by unfold told; rw [if_pos (by rw [hr.len]; omega)]
    rw [e]
    clear e
    have d : decide (8 < (n : Int)) = false := by simp; omega
    go_enter Try.func12, Try.ntmps12
    go_wp2
    go_loop [4, 12] (fun x i => ∃ k : Nat, k ≤ n ∧ i = .int .i64 k ∧ x = .int .u64 (tl (l.take k) : Nat)) (fun _ i => n - (intOf i).toNat)
    case atStart => exact ⟨0, Nat.zero_le _, rfl, rfl⟩
    case round =>
      obtain ⟨k, hk, rfl, rfl⟩ := hrel
      by_cases hlt : k < n
      · obtain ⟨b, o, c', rfl, hb, hx, hc⟩ := hr.at_ hlt
        have HT := Lib.hid (tl_take l k c' hx)
        have ht : tl (l.take k) < 72057594037927936 := by
          have h1 := tl_lt (l.take k)
          have h2 := pow_small k (by omega)
          rw [List.length_take, Nat.min_eq_left (by rw [hr.len]; omega)] at h1
          omega
        have hcc : c'.toNat < 256 := c'.toNat_lt
        generalize tl (l.take k) = t at *
        have HS := Lib.hid (tl_or t c' ht)
        clear hx
        go_wp2
        exact ⟨⟨k + 1, by omega, by go_num, by rw [HT.out, HS.out]⟩, by simp [intOf]; omega⟩
      · have e : tl (l.take k) = tl l := by rw [List.take_of_length_le (by rw [hr.len]; omega)]
        have E := Lib.hid e
        clear e
        go_wp2
        go_ret2
        exact ⟨by rw [E.out]; rfl, rfl⟩

theorem tl_drop (l : List UInt8) (j : Nat) (c : UInt8) (h : l[j]? = some c) : tl (l.drop j) = c.toNat * 256 ^ (l.length - (j + 1)) + tl (l.drop (j + 1)) := by
  obtain ⟨hj, rfl⟩ := List.getElem?_eq_some_iff.1 h
  rw [List.drop_eq_getElem_cons hj, tl_cons, List.length_drop]

theorem wt_step (p t : Nat) (c : UInt8) (hp : p ≤ 72057594037927936) (ht : t < p) : IntKind.u64.wrap ((t : Int) + IntKind.u64.wrap ((p : Int) * IntKind.u64.wrap (c.toNat : Int))) = ((c.toNat * p + t : Nat) : Int) := by
  have hc : c.toNat < 256 := c.toNat_lt
  have h0 : IntKind.u64.wrap (c.toNat : Int) = (c.toNat : Int) := by
    simp only [IntKind.wrap, IntKind.bits, IntKind.signed]
    simp
    omega
  rw [h0]
  have h1 : c.toNat * p ≤ 255 * 72057594037927936 := Nat.mul_le_mul (by omega) hp
  have h2 : (p : Int) * (c.toNat : Int) = ((c.toNat * p : Nat) : Int) := by rw [Nat.mul_comm]; simp
  have h3 : c.toNat * p + t < 18446744073709551616 := by
    have : c.toNat * p + p ≤ 256 * p := by
      have := Nat.mul_le_mul_right p (show c.toNat + 1 ≤ 256 by omega)
      rw [Nat.add_mul] at this
      omega
    omega
  rw [h2]
  generalize c.toNat * p = q at *
  simp only [IntKind.wrap, IntKind.bits, IntKind.signed]
  simp
  omega

theorem rtell_any (B : Nat) (A : Option Addr) (n c : Nat) (l : List UInt8) (w : World) (hr : Rd w B A n l) :
    Calls Try.prog 13 #[.slice A n c] w fun e w' => e = .returned (told l) ∧ w = w' := by
  by_cases h8 : 8 < n
  · have e : told l = .tuple #[.int .u64 0, .bool false] := by unfold told; rw [if_neg (by rw [hr.len]; omega)]
    rw [e]
    clear e
    go_enter Try.func13, Try.ntmps13
    go_wp2
    go_ret2
    exact ⟨rfl, rfl⟩
  · have e : told l = .tuple #[.int .u64 (tl l : Nat), .bool true] := by unfold told; rw [if_pos (by rw [hr.len]; omega)]
    rw [e]
    clear e
    have d : decide (8 < (n : Int)) = false := by simp; omega
    go_enter Try.func13, Try.ntmps13
    go_wp2
    go_loop [4, 5, 6] (fun x y i => ∃ j m : Nat, j + m = n ∧ i = .int .i64 ((j : Int) - 1) ∧ x = .int .u64 (tl (l.drop j) : Nat) ∧ ∃ p : Int, y = .int .u64 p ∧ (m < 8 → p = (256 ^ m : Nat))) (fun _ _ i => (intOf i + 1).toNat)
    case atStart => exact ⟨n, 0, rfl, rfl, by rw [List.drop_of_length_le (by rw [hr.len]; omega)]; rfl, 1, rfl, fun _ => by simp⟩
    case round =>
      obtain ⟨j, m, hjm, rfl, rfl, p, rfl, hp⟩ := hrel
      have HJM := Lib.hid hjm
      have hm : j ≤ n := by omega
      by_cases hj : j = 0
      · subst hj
        clear hjm hp
        go_wp2
        go_ret2
        exact ⟨by simp, rfl⟩
      · obtain ⟨i, rfl⟩ : ∃ i, j = i + 1 := ⟨j - 1, by omega⟩
        have hp' := hp (by omega)
        subst hp'
        obtain ⟨b, o, c', rfl, hb, hx, hc⟩ := hr.at_ (k := i) (by omega)
        have HT := Lib.hid (tl_drop l i c' hx)
        have ht : tl (l.drop (i + 1)) < 256 ^ m := by
          have h1 := tl_lt (l.drop (i + 1))
          have e : l.length - (i + 1) = m := by rw [hr.len]; omega
          rw [List.length_drop, e] at h1
          exact h1
        have hpm := pow_small m (by omega)
        have HE : Hid (l.length - (i + 1) = m) := Lib.hid (by rw [hr.len]; omega)
        have HP : Hid (∀ q, q = 256 ^ m → 256 * q = 256 ^ (m + 1)) := Lib.hid (fun q hq => by rw [hq, Nat.pow_succ, Nat.mul_comm])
        clear hx hjm hj hp
        generalize hq : 256 ^ m = q at *
        have HQ := Lib.hid hq
        clear hq
        generalize tl (l.drop (i + 1)) = t at *
        have HS := Lib.hid (wt_step q t c' hpm ht)
        have HW : Hid (m + 1 < 8 → IntKind.u64.wrap (256 * (q : Int)) = ((256 ^ (m + 1) : Nat) : Int)) := Lib.hid (fun h => by
          have h1 := pow_small (m + 1) h
          rw [← HP.out q rfl] at h1 ⊢
          simp only [IntKind.wrap, IntKind.bits, IntKind.signed]
          simp
          omega)
        go_wp2
        refine ⟨⟨i, m + 1, by have := HJM.out; omega, rfl, ?_, _, rfl, HW.out⟩, by simp [intOf]⟩
        rw [HS.out, HT.out, HE.out, HQ.out]
end Go.Proofs.Ytaennednmkbihaa.Oct
