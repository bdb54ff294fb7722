/-
  The number that bytes are, the highest first, plain; contracts of octet.Tell and of the document's Tell. Memory stays. No condition.
-/
import Derived.Test.YtdjncacknmejoaaOctL
import Derived.Test.YtdjncacknmejoaaXlay
namespace Go.Proofs.Ytdjncacknmejoaa.Fr
set_option maxRecDepth 100000
open Go.RowKit Go.Proofs.Ytdjncacknmejoaa.Utf Go.Proofs.Ytdjncacknmejoaa.Enc

/-- The number that bytes are, the highest first. -/
def nb (l : List Nat) : Nat := l.foldl (fun x o => x * 256 + o) 0
theorem nb_snoc (l : List Nat) (c : Nat) : nb (l ++ [c]) = nb l * 256 + c := by simp [nb]
theorem nb_take (l : List Nat) (k c : Nat) (h : l[k]? = some c) : nb (l.take (k + 1)) = nb (l.take k) * 256 + c := by
  rw [List.take_add_one, h]
  exact nb_snoc _ _
theorem nb_fold (l : List Nat) : ∀ x : Nat, (∀ y ∈ l, y < 256) → l.foldl (fun x o => x * 256 + o) x < (x + 1) * 256 ^ l.length := by
  induction l with
  | nil => intro x _; simp
  | cons c l ih =>
    intro x h
    have h1 := ih (x * 256 + c) fun y hy => h y (by simp [hy])
    have h2 := h c (by simp)
    have h3 : (x * 256 + c + 1) * 256 ^ l.length ≤ ((x + 1) * 256) * 256 ^ l.length := Nat.mul_le_mul_right _ (by omega)
    simp only [List.foldl_cons, List.length_cons, Nat.pow_succ]
    calc _ < _ := h1
      _ ≤ _ := h3
      _ = _ := by rw [Nat.mul_assoc, Nat.mul_comm 256]
theorem nb_lt (l : List Nat) (h : ∀ x ∈ l, x < 256) : nb l < 256 ^ l.length := by
  have := nb_fold l 0 h
  simpa [nb] using this
/-- What octet.Tell answers. -/
def tn (l : List Nat) : Nat := if l.length ≤ 8 then nb l else 0
theorem tn_lt (l : List Nat) (h : ∀ x ∈ l, x < 256) : tn l < 18446744073709551616 := by
  unfold tn
  split
  · have h1 := nb_lt l h
    have h2 : 256 ^ l.length ≤ 256 ^ 8 := Nat.pow_le_pow_right (by omega) (by omega)
    omega
  · omega
theorem nb_cons (a : Nat) (l : List Nat) : nb (a :: l) = a * 256 ^ l.length + nb l := by
  have h : ∀ (l : List Nat) (x : Nat), l.foldl (fun x o => x * 256 + o) x = x * 256 ^ l.length + nb l := by
    intro l
    induction l with
    | nil => intro x; simp [nb]
    | cons c l ih =>
      intro x
      simp only [nb, List.foldl_cons, List.length_cons] at ih ⊢
      rw [ih, ih (0 * 256 + c), Nat.zero_mul, Nat.zero_add, Nat.pow_succ, Nat.add_mul, Nat.mul_assoc, Nat.mul_comm 256]
      omega
  have := h l a
  simp only [nb, List.foldl_cons] at this ⊢
  rw [Nat.zero_mul, Nat.zero_add]
  exact this
theorem nb_be (X : Nat) : ∀ k, nb (be X k) = X % 256 ^ k
  | 0 => by simp [be, nb, Nat.mod_one]
  | k + 1 => by
    rw [be, nb_cons, nb_be X k, be_length, Nat.mod_pow_succ, Nat.mul_comm]
    omega
theorem tn_be (X k : Nat) (h : k ≤ 8) : tn (be X k) = X % 256 ^ k := by
  unfold tn
  rw [be_length, if_pos h, nb_be]
theorem pow_small (k : Nat) (h : k < 8) : 256 ^ k ≤ 72057594037927936 := by
  have : (256 : Nat) ^ k ≤ 256 ^ 7 := Nat.pow_le_pow_right (by omega) (by omega)
  omega
theorem nb_or (t c : Nat) (ht : t < 72057594037927936) (hc : c < 256) : bits .or .u64 ((t : Int) * 256) (c : Int) = ((t * 256 + c : Nat) : Int) := by
  have e : (t : Int) * 256 = ((t * 256 : Nat) : Int) := by simp
  rw [e, u64_or_nat _ _ (by omega) (by omega), nat_join 8 (t * 256) c (by omega) hc]
/-- octet.Tell: the number, and whether there are at most 8 bytes. -/
theorem tell_any (B : Nat) (A : Option Addr) (n c : Nat) (l : List Nat) (w : World) (hr : Rd .u8 256 w B A n l) :
    Calls Try.prog 50 #[.slice A n c] w fun e w' => (∃ p : Value, e = .returned (.tuple #[.int .u64 (tn l : Nat), p])) ∧ w' = w := by
  by_cases h8 : 8 < n
  · have e : tn l = 0 := by unfold tn; rw [if_neg (by rw [hr.len]; omega)]
    rw [e]
    clear e
    go_enter Try.func50, Try.ntmps50
    go_wp2
    go_ret2
    exact ⟨⟨_, rfl⟩, rfl⟩
  · have e : tn l = nb l := by unfold tn; rw [if_pos (by rw [hr.len]; omega)]
    rw [e]
    clear e
    have d : decide (8 < (n : Int)) = false := by simp; omega
    go_enter Try.func50, Try.ntmps50
    go_wp2
    go_loop [4, 12] (fun x i => ∃ k : Nat, k ≤ n ∧ i = .int .i64 k ∧ x = .int .u64 (nb (l.take k) : Nat)) (fun _ i => n - (intOf i).toNat)
    case atStart => exact ⟨0, Nat.zero_le _, rfl, rfl⟩
    case round =>
      obtain ⟨k, hk, rfl, rfl⟩ := hrel
      by_cases hlt : k < n
      · obtain ⟨b, o, c', rfl, hb, hx, hcc, hc⟩ := hr.at_ hlt
        have HT := Lib.hid (nb_take l k c' hx)
        have ht : nb (l.take k) < 72057594037927936 := by
          have h1 := nb_lt (l.take k) fun x hx => hr.lim x (List.mem_of_mem_take hx)
          have h2 := pow_small k (by omega)
          rw [List.length_take, Nat.min_eq_left (by rw [hr.len]; omega)] at h1
          omega
        generalize nb (l.take k) = t at *
        have HS := Lib.hid (nb_or t c' ht hcc)
        clear hx
        go_wp2
        exact ⟨⟨k + 1, by omega, by go_num, by rw [HT.out, HS.out]⟩, by simp [intOf]; omega⟩
      · have e : nb (l.take k) = nb l := by rw [List.take_of_length_le (by rw [hr.len]; omega)]
        have E := Lib.hid e
        clear e
        go_wp2
        go_ret2
        exact ⟨⟨.bool true, by rw [E.out]; rfl⟩, rfl⟩
theorem nb_drop (l : List Nat) (j c : Nat) (h : l[j]? = some c) : nb (l.drop j) = c * 256 ^ (l.length - (j + 1)) + nb (l.drop (j + 1)) := by
  obtain ⟨hj, rfl⟩ := List.getElem?_eq_some_iff.1 h
  rw [List.drop_eq_getElem_cons hj, nb_cons, List.length_drop]
theorem wt_step (p t c : Nat) (hc : c < 256) (hp : p ≤ 72057594037927936) (ht : t < p) : IntKind.u64.wrap ((t : Int) + IntKind.u64.wrap ((p : Int) * (c : Int))) = ((c * p + t : Nat) : Int) := by
  have h1 : c * p ≤ 255 * 72057594037927936 := Nat.mul_le_mul (by omega) hp
  have h2 : (p : Int) * (c : Int) = ((c * p : Nat) : Int) := by rw [Nat.mul_comm]; simp
  have h3 : c * p + t < 18446744073709551616 := by
    have : c * p + p ≤ 256 * p := by
      have := Nat.mul_le_mul_right p (show c + 1 ≤ 256 by omega)
      rw [Nat.add_mul] at this
      omega
    omega
  rw [h2]
  generalize c * p = q at *
  simp only [IntKind.wrap, IntKind.bits, IntKind.signed]
  simp
  omega
theorem xtell_any (B : Nat) (A : Option Addr) (n c : Nat) (l : List Nat) (w : World) (hr : Rd .u8 256 w B A n l) :
    Calls Try.prog 40 #[.slice A n c] w fun e w' => (∃ p : Value, e = .returned (.tuple #[.int .u64 (tn l : Nat), p])) ∧ w = w' := by
  by_cases h8 : 8 < n
  · have e : tn l = 0 := by unfold tn; rw [if_neg (by rw [hr.len]; omega)]
    rw [e]
    clear e
    go_enter Try.func40, Try.ntmps40
    go_wp2
    go_ret2
    exact ⟨⟨_, rfl⟩, rfl⟩
  · have e : tn l = nb l := by unfold tn; rw [if_pos (by rw [hr.len]; omega)]
    rw [e]
    clear e
    have d : decide (8 < (n : Int)) = false := by simp; omega
    go_enter Try.func40, Try.ntmps40
    go_wp2
    go_loop [4, 5, 6] (fun x y i => ∃ j m : Nat, j + m = n ∧ i = .int .i64 ((j : Int) - 1) ∧ x = .int .u64 (nb (l.drop j) : Nat) ∧ ∃ p : Int, y = .int .u64 p ∧ (m < 8 → p = (256 ^ m : Nat))) (fun _ _ i => (intOf i + 1).toNat)
    case atStart => exact ⟨n, 0, rfl, rfl, by rw [List.drop_of_length_le (by rw [hr.len]; omega)]; rfl, 1, rfl, fun _ => by simp⟩
    case round =>
      obtain ⟨j, m, hjm, rfl, rfl, p, rfl, hp⟩ := hrel
      have HJM := Lib.hid hjm
      have hm : j ≤ n := by omega
      by_cases hj : j = 0
      · subst hj
        clear hjm hp
        go_wp2
        go_ret2
        exact ⟨⟨.bool true, by simp⟩, rfl⟩
      · obtain ⟨i, rfl⟩ : ∃ i, j = i + 1 := ⟨j - 1, by omega⟩
        have hp' := hp (by omega)
        subst hp'
        obtain ⟨b, o, c', rfl, hb, hx, hcc, hc⟩ := hr.at_ (k := i) (by omega)
        have HT := Lib.hid (nb_drop l i c' hx)
        have ht : nb (l.drop (i + 1)) < 256 ^ m := by
          have h1 := nb_lt (l.drop (i + 1)) fun x hx => hr.lim x (List.mem_of_mem_drop hx)
          have e : l.length - (i + 1) = m := by rw [hr.len]; omega
          rw [List.length_drop, e] at h1
          exact h1
        have hpm := pow_small m (by omega)
        have HE : Hid (l.length - (i + 1) = m) := Lib.hid (by rw [hr.len]; omega)
        have HP : Hid (∀ q, q = 256 ^ m → 256 * q = 256 ^ (m + 1)) := Lib.hid (fun q hq => by rw [hq, Nat.pow_succ, Nat.mul_comm])
        clear hx hjm hj hp
        generalize hq : 256 ^ m = q at *
        have HQ := Lib.hid hq
        clear hq
        generalize nb (l.drop (i + 1)) = t at *
        have HS := Lib.hid (wt_step q t c' hcc hpm ht)
        have HW : Hid (m + 1 < 8 → IntKind.u64.wrap (256 * (q : Int)) = ((256 ^ (m + 1) : Nat) : Int)) := Lib.hid (fun h => by
          have h1 := pow_small (m + 1) h
          rw [← HP.out q rfl] at h1 ⊢
          simp only [IntKind.wrap, IntKind.bits, IntKind.signed]
          simp
          omega)
        go_wp2
        refine ⟨⟨i, m + 1, by have := HJM.out; omega, rfl, ?_, _, rfl, HW.out⟩, by simp [intOf]⟩
        rw [HS.out, HT.out, HE.out, HQ.out]
end Go.Proofs.Ytdjncacknmejoaa.Fr
