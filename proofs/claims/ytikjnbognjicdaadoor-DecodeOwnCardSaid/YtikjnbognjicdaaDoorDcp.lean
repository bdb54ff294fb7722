/-
  Contracts of octet.Tell, octet.Signed for every width, and of decode's plain: the value without kids that a code's data tell. Condition: at most 2^40 bytes.
-/
import Derived.Test.YtikjnbognjicdaaDoorDck
import Derived.Laws.BitsAllLaws
namespace Go.Proofs.YtikjnbognjicdaaDoor.Dec
set_option maxRecDepth 100000
open Go.RowKit Go.Proofs.YtikjnbognjicdaaDoor.Utf Go.Proofs.YtikjnbognjicdaaDoor.Val V

theorem pow_small (k : Nat) (h : k < 8) : 256 ^ k ≤ 72057594037927936 := by
  have : (256 : Nat) ^ k ≤ 256 ^ 7 := Nat.pow_le_pow_right (by omega) (by omega)
  omega
theorem nb_or (t c : Nat) (ht : t < 72057594037927936) (hc : c < 256) : bits .or .u64 ((t : Int) * 256) (c : Int) = ((t * 256 + c : Nat) : Int) := by
  have e : (t : Int) * 256 = ((t * 256 : Nat) : Int) := by simp
  rw [e, u64_or_nat _ _ (by omega) (by omega), nat_join 8 (t * 256) c (by omega) hc]
/-- octet.Tell: the number, and whether there are at most 8 bytes. -/
theorem tell_any (B : Nat) (A : Option Addr) (n c : Nat) (l : List Nat) (w : World) (hr : Rd .u8 256 w B A n l) :
    Calls Tryd.prog 103 #[.slice A n c] w fun e w' => (∃ p : Value, e = .returned (.tuple #[.int .u64 (tn l : Nat), p])) ∧ w' = w := by
  by_cases h8 : 8 < n
  · have e : tn l = 0 := by unfold tn; rw [if_neg (by rw [hr.len]; omega)]
    rw [e]
    clear e
    go_enter Tryd.func103, Tryd.ntmps103
    go_wp2
    go_ret2
    exact ⟨⟨_, rfl⟩, rfl⟩
  · have e : tn l = nb l := by unfold tn; rw [if_pos (by rw [hr.len]; omega)]
    rw [e]
    clear e
    have d : decide (8 < (n : Int)) = false := by simp; omega
    go_enter Tryd.func103, Tryd.ntmps103
    go_wp2
    go_loop [4, 12] (fun x i => ∃ k : Nat, k ≤ n ∧ i = .int .i64 k ∧ x = .int .u64 (nb (l.take k) : Nat)) (fun _ i => n - (intOf i).toNat)
    case atStart => exact ⟨0, Nat.zero_le _, rfl, rfl⟩
    case round =>
      obtain ⟨k, hk, rfl, rfl⟩ := hrel
      by_cases hlt : k < n
      · obtain ⟨b, o, c', rfl, hb, hx, hcc, hc⟩ := hr.at_ hlt
        have HT := Lib.hid (nb_take l k c' hx)
        have ht : nb (l.take k) < 72057594037927936 := by
          have h1 := nb_lt (l.take k) fun x hx => hr.lim x (List.mem_of_mem_take hx)
          have h2 := pow_small k (by omega)
          rw [List.length_take, Nat.min_eq_left (by rw [hr.len]; omega)] at h1
          omega
        generalize nb (l.take k) = t at *
        have HS := Lib.hid (nb_or t c' ht hcc)
        clear hx
        go_wp2
        exact ⟨⟨k + 1, by omega, by go_num, by rw [HT.out, HS.out]⟩, by simp [intOf]; omega⟩
      · have e : nb (l.take k) = nb l := by rw [List.take_of_length_le (by rw [hr.len]; omega)]
        have E := Lib.hid e
        clear e
        go_wp2
        go_ret2
        exact ⟨⟨.bool true, by rw [E.out]; rfl⟩, rfl⟩

theorem sgw_lit (X : Nat) (k : Nat) (h1 : 1 ≤ k) (h2 : k ≤ 7) : (IntKind.u64.wrap (wrap64 (IntKind.u64.wrap (X * 2 ^ (8 * (8 - k)))) / 2 ^ (8 * (8 - k)))) = (sgw X k : Int) := by
  unfold sgw
  rw [if_pos ⟨h1, h2⟩]
  unfold wrap64
  simp only [IntKind.wrap, IntKind.bits, IntKind.signed]
  obtain rfl | rfl | rfl | rfl | rfl | rfl | rfl : k = 1 ∨ k = 2 ∨ k = 3 ∨ k = 4 ∨ k = 5 ∨ k = 6 ∨ k = 7 := by omega
  all_goals simp
  all_goals (repeat' split) <;> omega
theorem signed_any (X k : Nat) (w : World) :
    Calls Tryd.prog 47 #[.int .u64 X, .int .i64 k] w fun e w' => e = .returned (.int .u64 (sgw X k : Nat)) ∧ w' = w := by
  by_cases h1 : k < 1
  · have e : sgw X k = X := by unfold sgw; rw [if_neg (by omega)]
    rw [e]
    clear e
    have d : (k : Int) < 1 := by omega
    go_enter Tryd.func47, Tryd.ntmps47
    go_wp2
    go_ret
    exact ⟨rfl, rfl⟩
  by_cases h2 : 8 ≤ k
  · have e : sgw X k = X := by unfold sgw; rw [if_neg (by omega)]
    rw [e]
    clear e
    go_enter Tryd.func47, Tryd.ntmps47
    go_wp2
    go_ret
    exact ⟨rfl, rfl⟩
  have e := sgw_lit X k (by omega) (by omega)
  have E := Lib.hid e
  clear e
  go_enter Tryd.func47, Tryd.ntmps47
  go_wp2
  go_ret
  exact ⟨congrArg (fun z => Ending.returned (.int .u64 z)) E.out, rfl⟩

/-- A value without kids, in new memory. -/
def GivesP (v : V) (w : World) (e : Ending) (w' : World) : Prop := e = .returned (.agg #[.int .u8 (v.kind : Int), .int .u64 (v.num : Int), .string v.text, .slice none 0 0]) ∧ Below w.heap.size w w'

end Go.Proofs.YtikjnbognjicdaaDoor.Dec
