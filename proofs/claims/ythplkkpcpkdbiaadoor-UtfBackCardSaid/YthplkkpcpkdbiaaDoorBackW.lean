/-
  The walk of the statement UtfBack: THE THEOREM OF STAGE 2: characters are those of their text, and a text is that of its characters, byte for byte. Condition, as the card has it: the table utf.shapes lies as the program's text lays it.
-/
import Derived.Test.YthplkkpcpkdbiaaDoorCutM
namespace Go.Proofs.YthplkkpcpkdbiaaDoor.utfBack
open Go.ChangeShapes Go.WideShapes Go.ChangeAt Go.RowKit Go.Proofs.YthplkkpcpkdbiaaDoor.Utf

def allc (l : List Nat) : Bool := l.all isC
theorem allc_iff {l : List Nat} : allc l = true ↔ AllC l := by simp [allc, AllC]
theorem allc_step {l : List Nat} {k x : Nat} (h : l[k]? = some x) : allc (l.take (k + 1)) = (allc (l.take k) && isC x) := by
  rw [List.take_add_one, h]
  simp [allc]
theorem allc_false {l : List Nat} (h : ¬ AllC l) : allc l = false := by
  cases h' : allc l with
  | false => rfl
  | true => exact absurd (allc_iff.1 h') h

theorem walk_long (A A' : Option Addr) (n c n' c' : Nat) (w : World) (ht : Tab w) (h : 4096 < n ∨ 8192 < n') :
    Calls Tryd.prog 5 #[.slice A n c, .slice A' n' c'] w fun e w' => e = .returned (.bool true) ∧ Below w.heap.size w w' := by
  by_cases h1 : 4096 < n
  · have d1 : decide ((4096 : Int) < n) = true := by simp; omega
    clear h h1
    go_enter Tryd.func5, Tryd.ntmps5
    go_wp2_with (go_at_call 10; refine (works_any w ht).mono ?_; rintro e w1 ⟨rfl, hb1⟩)
    go_ret
    exact ⟨rfl, hb1⟩
  · have d1 : decide ((4096 : Int) < n) = false := by simp; omega
    have d2 : decide ((8192 : Int) < n') = true := by simp; omega
    clear h h1
    go_enter Tryd.func5, Tryd.ntmps5
    go_wp2_with (go_at_call 10; refine (works_any w ht).mono ?_; rintro e w1 ⟨rfl, hb1⟩)
    go_ret
    exact ⟨rfl, hb1⟩

theorem chars_len (A : Option Addr) (n c : Nat) (l cs : List Nat) (N : Nat) (w : World) (ht : Tab w) (hr : Rd .u8 256 w w.heap.size A n l) (hnc : n ≤ c) (hn : n ≤ 1099511627776) (hT : IsT l cs) (hN : cs.length = N) :
    Calls Tryd.prog 12 #[.slice A n c] w fun e w' => ∃ A1 c1, e = .returned (.tuple #[.slice A1 N c1, .bool true]) ∧ Own .u32 4294967296 36 w' w.heap.size A1 N c1 cs ∧ Below w.heap.size w w' := by
  subst hN
  exact chars_true A n c l cs w ht hr hnc hn hT
theorem text_len (A : Option Addr) (n c : Nat) (l : List Nat) (N : Nat) (w : World) (ht : Tab w) (hr : Rd .u32 4294967296 w w.heap.size A n l) (hn : n ≤ 1099511627776) (hC : AllC l) (hN : (txt l).length = N) :
    Calls Tryd.prog 19 #[.slice A n c] w fun e w' => ∃ A1 c1, e = .returned (.tuple #[.slice A1 N c1, .bool true]) ∧ Own .u8 256 5 w' w.heap.size A1 N c1 (txt l) ∧ Below w.heap.size w w' := by
  subst hN
  exact text_true A n c l w ht hr hn hC

set_option maxHeartbeats 800000 in
theorem walk_yy (A : Option Addr) (n c : Nat) (l : List Nat) (A' : Option Addr) (n' c' : Nat) (l' : List Nat) (w : World) (ht : Tab w) (hr : Rd .u32 4294967296 w w.heap.size A n l) (hr' : Rd .u8 256 w w.heap.size A' n' l') (hnc' : n' ≤ c') (hn : n ≤ 4096) (hn' : n' ≤ 8192) (hC : AllC l) (N : Nat) (hN : (txt l).length = N) (hlen : l.length = n) (hq1 : n ≤ N) (hq2 : N ≤ 4 * n) (cs : List Nat) (M : Nat) (hT : IsT l' cs) (hM : cs.length = M) (hlen' : (txt cs).length = n') (hq3 : M ≤ n') :
    Calls Tryd.prog 5 #[.slice A n c, .slice A' n' c'] w fun e w' => e = .returned (.bool true) ∧ Below w.heap.size w w' := by
  have d1 : decide ((4096 : Int) < n) = false := by simp; omega
  have d2 : decide ((8192 : Int) < n') = false := by simp; omega
  go_enter Tryd.func5, Tryd.ntmps5
  go_wp2
  go_loop [5, 6] (fun f i => ∃ k : Nat, k ≤ n ∧ i = .int .i64 k ∧ f = .bool (allc (l.take k))) (fun _ i => n - (intOf i).toNat)
  case atStart => exact ⟨0, Nat.zero_le _, rfl, rfl⟩
  case round =>
    clear d1 d2
    obtain ⟨k, hk, rfl, rfl⟩ := hrel
    by_cases hlt : k < n
    · obtain ⟨b, o, x, rfl, hb, hx, hx2, hc⟩ := hr.at_ hlt
      have HS := Lib.hid (allc_step hx)
      clear hx hC hT
      cases hf : allc (l.take k) with
      | false =>
        rw [hf] at HS
        clear hf
        go_wp2
        exact ⟨⟨k + 1, by omega, by go_num, by rw [HS.out]; rfl⟩, by simp [intOf]; omega⟩
      | true =>
        rw [hf] at HS
        clear hf
        go_wp2_with fail
        refine (char_any x w).mono ?_
        rintro e w2 ⟨rfl, rfl⟩
        go_wp2
        exact ⟨⟨k + 1, by omega, by go_num, by rw [HS.out]; rfl⟩, by simp [intOf]; omega⟩
    · have e0 : l.take k = l := List.take_of_length_le (by rw [hr.len]; omega)
      have hq := (allc_iff.2 hC)
      rw [e0, hq]
      clear e0 hq
      obtain rfl : n = k := by omega
      clear hlt hk
      go_wp2_with fail
      refine (text_len A n c l N w ht hr (by omega) hC hN).mono ?_
      rintro e w1 ⟨A1, c1, rfl, ho1, hb1⟩
      have ht1 := ht.call hb1
      have hc1 := ho1.cap.1
      go_wp2_with fail
      refine (chars_len A1 N c1 (txt l) l n w1 ht1 ho1.rd hc1 (by omega) ⟨hC, rfl⟩ hlen).mono ?_
      rintro e w2 ⟨A2, c2, rfl, ho2, hb2⟩
      have hb2' : Below w.heap.size w w2 := hb1.trans (hb2.mono hb1.size)
      have hr2 := hr.below hb2'
      have ho1' := ho1.below hb2
      have ht2 := ht.call hb2'
      go_wp2_with fail
      refine (same_same w.heap.size w2.heap.size A A2 n c c2 l w2 hr2 ho2.rd (by omega)).mono ?_
      rintro e w3 ⟨rfl, k3, rfl⟩
      go_wp2_with fail
      refine (right_true A1 N c1 (txt l) l (w2.drewN k3) (ht2.drewN k3) (ho1'.rd.drewN k3) hc1 (by omega) ⟨hC, rfl⟩).mono ?_
      rintro e w4 ⟨rfl, hb4⟩
      have hb4' : Below w.heap.size w w4 := (drewly hb2' k3).trans (hb4.mono hb2'.size)
      have dn1 : decide ((N : Int) < n) = false := by simp; omega
      have dn2 : decide (4 * (n : Int) < N) = false := by simp; omega
      clear hb4 ho1' ht2 hr2 hb2' ho2 hb2 hc1 ht1 ho1 hb1
      have ht4 := ht.call hb4'
      have hr4 := hr'.call hb4'
      go_wp2_with fail
      refine (chars_len A' n' c' l' cs M w4 ht4 hr4 hnc' (by omega) hT hM).mono ?_
      rintro e w5 ⟨A5, c5, rfl, ho5, hb5⟩
      have hb5' : Below w.heap.size w w5 := hb4'.trans (hb5.mono hb4'.size)
      have ht5 := ht.call hb5'
      go_wp2_with fail
      refine (text_len A5 M c5 cs n' w5 ht5 ho5.rd (by omega) hT.1 hlen').mono ?_
      rintro e w6 ⟨A6, c6, rfl, ho6, hb6⟩
      have hb6' : Below w.heap.size w w6 := hb5'.trans (hb6.mono hb5'.size)
      have ht6 := ht.call hb6'
      have hr6 := hr'.call hb6'
      have hr6' := hr'.below hb6'
      rw [hT.2] at hr6'
      go_wp2_with fail
      refine (eqbytes_same w.heap.size w6.heap.size A' A6 n' c' c6 (txt cs) w6 hr6' ho6.rd).mono ?_
      rintro e w7 ⟨rfl, rfl⟩
      go_wp2_with fail
      refine (right_true A' n' c' l' cs w6 ht6 hr6 hnc' (by omega) hT).mono ?_
      rintro e w8 ⟨rfl, hb8⟩
      have hb8' : Below w.heap.size w w8 := hb6'.trans (hb8.mono hb6'.size)
      have ht8 := ht.call hb8'
      clear hb8 hr6' hr6 ht6 hb6' ho6 hb6 ht5 hb5' ho5 hb5 hr4 ht4
      go_wp2_with fail
      refine (works_any w8 ht8).mono ?_
      rintro e w9 ⟨rfl, hb9⟩
      go_wp2
      go_ret
      exact ⟨rfl, hb8'.trans (hb9.mono hb8'.size)⟩

set_option maxHeartbeats 800000 in
theorem walk_yn (A : Option Addr) (n c : Nat) (l : List Nat) (A' : Option Addr) (n' c' : Nat) (l' : List Nat) (w : World) (ht : Tab w) (hr : Rd .u32 4294967296 w w.heap.size A n l) (hr' : Rd .u8 256 w w.heap.size A' n' l') (hnc' : n' ≤ c') (hn : n ≤ 4096) (hn' : n' ≤ 8192) (hC : AllC l) (N : Nat) (hN : (txt l).length = N) (hlen : l.length = n) (hq1 : n ≤ N) (hq2 : N ≤ 4 * n) (hT : NoT l') :
    Calls Tryd.prog 5 #[.slice A n c, .slice A' n' c'] w fun e w' => e = .returned (.bool true) ∧ Below w.heap.size w w' := by
  have d1 : decide ((4096 : Int) < n) = false := by simp; omega
  have d2 : decide ((8192 : Int) < n') = false := by simp; omega
  go_enter Tryd.func5, Tryd.ntmps5
  go_wp2
  go_loop [5, 6] (fun f i => ∃ k : Nat, k ≤ n ∧ i = .int .i64 k ∧ f = .bool (allc (l.take k))) (fun _ i => n - (intOf i).toNat)
  case atStart => exact ⟨0, Nat.zero_le _, rfl, rfl⟩
  case round =>
    clear d1 d2
    obtain ⟨k, hk, rfl, rfl⟩ := hrel
    by_cases hlt : k < n
    · obtain ⟨b, o, x, rfl, hb, hx, hx2, hc⟩ := hr.at_ hlt
      have HS := Lib.hid (allc_step hx)
      clear hx hC hT
      cases hf : allc (l.take k) with
      | false =>
        rw [hf] at HS
        clear hf
        go_wp2
        exact ⟨⟨k + 1, by omega, by go_num, by rw [HS.out]; rfl⟩, by simp [intOf]; omega⟩
      | true =>
        rw [hf] at HS
        clear hf
        go_wp2_with fail
        refine (char_any x w).mono ?_
        rintro e w2 ⟨rfl, rfl⟩
        go_wp2
        exact ⟨⟨k + 1, by omega, by go_num, by rw [HS.out]; rfl⟩, by simp [intOf]; omega⟩
    · have e0 : l.take k = l := List.take_of_length_le (by rw [hr.len]; omega)
      have hq := (allc_iff.2 hC)
      rw [e0, hq]
      clear e0 hq
      obtain rfl : n = k := by omega
      clear hlt hk
      go_wp2_with fail
      refine (text_len A n c l N w ht hr (by omega) hC hN).mono ?_
      rintro e w1 ⟨A1, c1, rfl, ho1, hb1⟩
      have ht1 := ht.call hb1
      have hc1 := ho1.cap.1
      go_wp2_with fail
      refine (chars_len A1 N c1 (txt l) l n w1 ht1 ho1.rd hc1 (by omega) ⟨hC, rfl⟩ hlen).mono ?_
      rintro e w2 ⟨A2, c2, rfl, ho2, hb2⟩
      have hb2' : Below w.heap.size w w2 := hb1.trans (hb2.mono hb1.size)
      have hr2 := hr.below hb2'
      have ho1' := ho1.below hb2
      have ht2 := ht.call hb2'
      go_wp2_with fail
      refine (same_same w.heap.size w2.heap.size A A2 n c c2 l w2 hr2 ho2.rd (by omega)).mono ?_
      rintro e w3 ⟨rfl, k3, rfl⟩
      go_wp2_with fail
      refine (right_true A1 N c1 (txt l) l (w2.drewN k3) (ht2.drewN k3) (ho1'.rd.drewN k3) hc1 (by omega) ⟨hC, rfl⟩).mono ?_
      rintro e w4 ⟨rfl, hb4⟩
      have hb4' : Below w.heap.size w w4 := (drewly hb2' k3).trans (hb4.mono hb2'.size)
      have dn1 : decide ((N : Int) < n) = false := by simp; omega
      have dn2 : decide (4 * (n : Int) < N) = false := by simp; omega
      clear hb4 ho1' ht2 hr2 hb2' ho2 hb2 hc1 ht1 ho1 hb1
      have ht4 := ht.call hb4'
      have hr4 := hr'.call hb4'
      go_wp2_with fail
      refine (chars_false A' n' c' l' w4 ht4 hr4 hnc' (by omega) hT).mono ?_
      rintro e w5 ⟨rfl, hb5⟩
      have hb5' : Below w.heap.size w w5 := hb4'.trans (hb5.mono hb4'.size)
      have ht5 := ht.call hb5'
      have hr5 := hr'.call hb5'
      go_wp2_with fail
      refine (right_false A' n' c' l' w5 ht5 hr5 hnc' (by omega) hT).mono ?_
      rintro e w8 ⟨rfl, hb8⟩
      have hb8' : Below w.heap.size w w8 := hb5'.trans (hb8.mono hb5'.size)
      have ht8 := ht.call hb8'
      clear hb8 hr5 ht5 hb5' hb5 hr4 ht4
      go_wp2_with fail
      refine (works_any w8 ht8).mono ?_
      rintro e w9 ⟨rfl, hb9⟩
      go_wp2
      go_ret
      exact ⟨rfl, hb8'.trans (hb9.mono hb8'.size)⟩

set_option maxHeartbeats 800000 in
theorem walk_ny (A : Option Addr) (n c : Nat) (l : List Nat) (A' : Option Addr) (n' c' : Nat) (l' : List Nat) (w : World) (ht : Tab w) (hr : Rd .u32 4294967296 w w.heap.size A n l) (hr' : Rd .u8 256 w w.heap.size A' n' l') (hnc' : n' ≤ c') (hn : n ≤ 4096) (hn' : n' ≤ 8192) (hC : ¬ AllC l) (cs : List Nat) (M : Nat) (hT : IsT l' cs) (hM : cs.length = M) (hlen' : (txt cs).length = n') (hq3 : M ≤ n') :
    Calls Tryd.prog 5 #[.slice A n c, .slice A' n' c'] w fun e w' => e = .returned (.bool true) ∧ Below w.heap.size w w' := by
  have d1 : decide ((4096 : Int) < n) = false := by simp; omega
  have d2 : decide ((8192 : Int) < n') = false := by simp; omega
  go_enter Tryd.func5, Tryd.ntmps5
  go_wp2
  go_loop [5, 6] (fun f i => ∃ k : Nat, k ≤ n ∧ i = .int .i64 k ∧ f = .bool (allc (l.take k))) (fun _ i => n - (intOf i).toNat)
  case atStart => exact ⟨0, Nat.zero_le _, rfl, rfl⟩
  case round =>
    clear d1 d2
    obtain ⟨k, hk, rfl, rfl⟩ := hrel
    by_cases hlt : k < n
    · obtain ⟨b, o, x, rfl, hb, hx, hx2, hc⟩ := hr.at_ hlt
      have HS := Lib.hid (allc_step hx)
      clear hx hC hT
      cases hf : allc (l.take k) with
      | false =>
        rw [hf] at HS
        clear hf
        go_wp2
        exact ⟨⟨k + 1, by omega, by go_num, by rw [HS.out]; rfl⟩, by simp [intOf]; omega⟩
      | true =>
        rw [hf] at HS
        clear hf
        go_wp2_with fail
        refine (char_any x w).mono ?_
        rintro e w2 ⟨rfl, rfl⟩
        go_wp2
        exact ⟨⟨k + 1, by omega, by go_num, by rw [HS.out]; rfl⟩, by simp [intOf]; omega⟩
    · have e0 : l.take k = l := List.take_of_length_le (by rw [hr.len]; omega)
      have hq := (allc_false hC)
      rw [e0, hq]
      clear e0 hq
      obtain rfl : n = k := by omega
      clear hlt hk
      go_wp2_with fail
      refine (text_false A n c l w ht hr (by omega) hC).mono ?_
      rintro e w4 ⟨rfl, hb4'⟩
      have ht4 := ht.call hb4'
      have hr4 := hr'.call hb4'
      go_wp2_with fail
      refine (chars_len A' n' c' l' cs M w4 ht4 hr4 hnc' (by omega) hT hM).mono ?_
      rintro e w5 ⟨A5, c5, rfl, ho5, hb5⟩
      have hb5' : Below w.heap.size w w5 := hb4'.trans (hb5.mono hb4'.size)
      have ht5 := ht.call hb5'
      go_wp2_with fail
      refine (text_len A5 M c5 cs n' w5 ht5 ho5.rd (by omega) hT.1 hlen').mono ?_
      rintro e w6 ⟨A6, c6, rfl, ho6, hb6⟩
      have hb6' : Below w.heap.size w w6 := hb5'.trans (hb6.mono hb5'.size)
      have ht6 := ht.call hb6'
      have hr6 := hr'.call hb6'
      have hr6' := hr'.below hb6'
      rw [hT.2] at hr6'
      go_wp2_with fail
      refine (eqbytes_same w.heap.size w6.heap.size A' A6 n' c' c6 (txt cs) w6 hr6' ho6.rd).mono ?_
      rintro e w7 ⟨rfl, rfl⟩
      go_wp2_with fail
      refine (right_true A' n' c' l' cs w6 ht6 hr6 hnc' (by omega) hT).mono ?_
      rintro e w8 ⟨rfl, hb8⟩
      have hb8' : Below w.heap.size w w8 := hb6'.trans (hb8.mono hb6'.size)
      have ht8 := ht.call hb8'
      clear hb8 hr6' hr6 ht6 hb6' ho6 hb6 ht5 hb5' ho5 hb5 hr4 ht4
      go_wp2_with fail
      refine (works_any w8 ht8).mono ?_
      rintro e w9 ⟨rfl, hb9⟩
      go_wp2
      go_ret
      exact ⟨rfl, hb8'.trans (hb9.mono hb8'.size)⟩

set_option maxHeartbeats 800000 in
theorem walk_nn (A : Option Addr) (n c : Nat) (l : List Nat) (A' : Option Addr) (n' c' : Nat) (l' : List Nat) (w : World) (ht : Tab w) (hr : Rd .u32 4294967296 w w.heap.size A n l) (hr' : Rd .u8 256 w w.heap.size A' n' l') (hnc' : n' ≤ c') (hn : n ≤ 4096) (hn' : n' ≤ 8192) (hC : ¬ AllC l) (hT : NoT l') :
    Calls Tryd.prog 5 #[.slice A n c, .slice A' n' c'] w fun e w' => e = .returned (.bool true) ∧ Below w.heap.size w w' := by
  have d1 : decide ((4096 : Int) < n) = false := by simp; omega
  have d2 : decide ((8192 : Int) < n') = false := by simp; omega
  go_enter Tryd.func5, Tryd.ntmps5
  go_wp2
  go_loop [5, 6] (fun f i => ∃ k : Nat, k ≤ n ∧ i = .int .i64 k ∧ f = .bool (allc (l.take k))) (fun _ i => n - (intOf i).toNat)
  case atStart => exact ⟨0, Nat.zero_le _, rfl, rfl⟩
  case round =>
    clear d1 d2
    obtain ⟨k, hk, rfl, rfl⟩ := hrel
    by_cases hlt : k < n
    · obtain ⟨b, o, x, rfl, hb, hx, hx2, hc⟩ := hr.at_ hlt
      have HS := Lib.hid (allc_step hx)
      clear hx hC hT
      cases hf : allc (l.take k) with
      | false =>
        rw [hf] at HS
        clear hf
        go_wp2
        exact ⟨⟨k + 1, by omega, by go_num, by rw [HS.out]; rfl⟩, by simp [intOf]; omega⟩
      | true =>
        rw [hf] at HS
        clear hf
        go_wp2_with fail
        refine (char_any x w).mono ?_
        rintro e w2 ⟨rfl, rfl⟩
        go_wp2
        exact ⟨⟨k + 1, by omega, by go_num, by rw [HS.out]; rfl⟩, by simp [intOf]; omega⟩
    · have e0 : l.take k = l := List.take_of_length_le (by rw [hr.len]; omega)
      have hq := (allc_false hC)
      rw [e0, hq]
      clear e0 hq
      obtain rfl : n = k := by omega
      clear hlt hk
      go_wp2_with fail
      refine (text_false A n c l w ht hr (by omega) hC).mono ?_
      rintro e w4 ⟨rfl, hb4'⟩
      have ht4 := ht.call hb4'
      have hr4 := hr'.call hb4'
      go_wp2_with fail
      refine (chars_false A' n' c' l' w4 ht4 hr4 hnc' (by omega) hT).mono ?_
      rintro e w5 ⟨rfl, hb5⟩
      have hb5' : Below w.heap.size w w5 := hb4'.trans (hb5.mono hb4'.size)
      have ht5 := ht.call hb5'
      have hr5 := hr'.call hb5'
      go_wp2_with fail
      refine (right_false A' n' c' l' w5 ht5 hr5 hnc' (by omega) hT).mono ?_
      rintro e w8 ⟨rfl, hb8⟩
      have hb8' : Below w.heap.size w w8 := hb5'.trans (hb8.mono hb5'.size)
      have ht8 := ht.call hb8'
      clear hb8 hr5 ht5 hb5' hb5 hr4 ht4
      go_wp2_with fail
      refine (works_any w8 ht8).mono ?_
      rintro e w9 ⟨rfl, hb9⟩
      go_wp2
      go_ret
      exact ⟨rfl, hb8'.trans (hb9.mono hb8'.size)⟩

theorem walk (A : Option Addr) (n c : Nat) (l : List Nat) (A' : Option Addr) (n' c' : Nat) (l' : List Nat) (w : World) (ht : Tab w) (hr : Rd .u32 4294967296 w w.heap.size A n l) (_ : n ≤ c) (_ : c ≤ maxLen) (hr' : Rd .u8 256 w w.heap.size A' n' l') (hnc' : n' ≤ c') (_ : c' ≤ maxLen) :
    Calls Tryd.prog 5 #[.slice A n c, .slice A' n' c'] w fun e w' => e = .returned (.bool true) ∧ Below w.heap.size w w' := by
  by_cases h : 4096 < n ∨ 8192 < n'
  · exact walk_long A A' n c n' c' w ht h
  have t1 := txt_len l
  rw [hr.len] at t1
  by_cases hC : AllC l <;> rcases yes_or_no l' with ⟨cs, hT⟩ | hT
  · exact walk_yy A n c l A' n' c' l' w ht hr hr' hnc' (by omega) (by omega) hC _ rfl hr.len t1.1 t1.2 cs _ hT rfl (by rw [← hT.2, hr'.len]) (by have := (txt_len cs).1; rw [← hT.2, hr'.len] at this; exact this)
  · exact walk_yn A n c l A' n' c' l' w ht hr hr' hnc' (by omega) (by omega) hC _ rfl hr.len t1.1 t1.2 hT
  · exact walk_ny A n c l A' n' c' l' w ht hr hr' hnc' (by omega) (by omega) hC cs _ hT rfl (by rw [← hT.2, hr'.len]) (by have := (txt_len cs).1; rw [← hT.2, hr'.len] at this; exact this)
  · exact walk_nn A n c l A' n' c' l' w ht hr hr' hnc' (by omega) (by omega) hC hT
end Go.Proofs.YthplkkpcpkdbiaaDoor.utfBack
