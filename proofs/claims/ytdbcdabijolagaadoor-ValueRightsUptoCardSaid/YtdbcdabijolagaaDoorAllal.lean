/-
  Contract of value's allAlike, of values that may be. Memory that was there stays. Condition: values of bulk at most 2^30.
-/
import Derived.Test.YtdbcdabijolagaaDoorAlike
namespace Go.Proofs.YtdbcdabijolagaaDoor.Val
open Go.RowKit Go.Proofs.YtdbcdabijolagaaDoor.Utf V

def allB : List V → Bool
  | [] => true
  | x :: r => r.all fun y => alikeB x y
theorem allB_eq {x : V} {r : List V} (hx : mayB x = true) : allB (x :: r) = (x :: r).all fun y => alikeB x y := by
  simp [allB, alikeB_refl x hx]
theorem all_take {f : V → Bool} {l : List V} {i : Nat} {v : V} (h : l[i]? = some v) : (l.take (i + 1)).all f = ((l.take i).all f && f v) := by
  rw [take_snoc h]; simp
theorem all_no {f : V → Bool} {l : List V} {i : Nat} {v : V} (h : l[i]? = some v) (hv : f v = false) : l.all f = false := by
  cases hl : l.all f with
  | false => rfl
  | true =>
    rw [List.all_eq_true] at hl
    rw [hl v (List.mem_of_getElem? h)] at hv
    cases hv

set_option maxRecDepth 100000 in
set_option maxHeartbeats 800000 in
theorem allAlike_any (ks : List V) (A : Option Addr) (l c : Nat) (w : World) (hN : bulkL ks ≤ 1073741824) (hM : mayL ks = true) (hK : Kd w ks A l c) :
    Calls Tryd.prog 54 #[.slice A l c] w (GivesB (allB ks) w) := by
  have hl1 : l ≤ ks.length := Nat.le_of_eq hK.len
  have hl2 : ks.length ≤ l := Nat.le_of_eq hK.len.symm
  have hlb := length_bulk ks
  have HM := Lib.hid hM
  clear hM
  go_enter Tryd.func54, Tryd.ntmps54
  go_wp2
  go_loopw [7] (fun i wr => ∃ j : Nat, j ≤ l ∧ i = .int .i64 j ∧ (∀ x, ks[0]? = some x → (ks.take j).all (fun y => alikeB x y) = true) ∧ Below w.heap.size w wr) (fun i _ => l - (intOf i).toNat)
  case atStart => exact ⟨0, Nat.zero_le _, rfl, fun _ _ => rfl, Below.refl _ _⟩
  case round =>
    obtain ⟨j, hj, rfl, hall, hb⟩ := hrel
    have HALL := Lib.hid hall
    clear hall
    by_cases hlt : j < l
    · obtain ⟨b, o, k1, n1, t1, ks1, A1, l1, c1, rfl, hb1, hx, h0, h1, h2, h3, hk1, hn1, hK1⟩ := (hK.call hb).at_ hlt
      obtain ⟨b', o', k2, n2, t2, ks2, A2, l2, c2, hAe, hb2, hx2, h0', h1', h2', h3', hk2, hn2, hK2⟩ := (hK.call hb).at_ (i := 0) (by omega)
      simp only [Option.some.injEq, Addr.mk.injEq, and_true] at hAe
      obtain ⟨rfl, rfl⟩ := hAe
      simp only [Nat.zero_mul, Nat.add_zero] at h0' h1' h2' h3'
      have hbk := at_bulk hx2
      simp only [bulk] at hbk
      have HX := Lib.hid hx
      have HX2 := Lib.hid hx2
      have HB := Lib.hid (Box.new wr (.int .u8 k1) (.int .u64 n1) (.string t1) (.slice A1 l1 c1))
      have hs := hb.size
      have hl0 : 0 < l := by omega
      clear hx hx2
      obtain ⟨W1, hW1⟩ : ∃ W1, W1 = wr.alloc (.cells #[.int .u8 k1, .int .u64 n1, .string t1, .slice A1 l1 c1] 25) := ⟨_, rfl⟩
      have hbW : Below wr.heap.size wr W1 := by rw [hW1]; exact (Below.refl _ _).alloc (Nat.le_refl _) _
      have hBW := HB.out
      rw [← hW1] at hBW
      obtain ⟨x0, x1, x2, x3, _⟩ := hBW.all
      have y0 := box_kept h0' hbW hb2
      have y1 := box_kept h1' hbW hb2
      have y2 := box_kept h2' hbW hb2
      have y3 := box_kept h3' hbW hb2
      go_wp2_with fail
      rw [← hW1]
      clear hW1
      go_still_tail 4, (by kernel_rfl)
      go_wp2_with fail
      refine (valike_any k2 n2 t2 ks2 A2 l2 c2 k1 n1 t1 ks1 A1 l1 c1 W1.drew (by omega) (mayL_mem HM.out _ (List.mem_of_getElem? HX2.out)) (mayL_mem HM.out _ (List.mem_of_getElem? HX.out)) (hK2.call hbW).drew (hK1.call hbW).drew).mono ?_
      rintro e w2 ⟨rfl, hb3⟩
      have hb4 := below_next (wr := W1.drew) ((below_next hb hbW).drew) hb3
      cases hq : alikeB (.mk k2 n2 t2 ks2) (.mk k1 n1 t1 ks1) with
      | true =>
        have HQ := Lib.hid hq
        clear hq
        go_wp2
        go_roundw
        case rel =>
          refine ⟨j + 1, by omega, by go_num, fun x hx => ?_, hb4⟩
          rw [all_take HX.out, HALL.out x hx]
          rw [HX2.out] at hx
          injection hx with hx
          rw [← hx, HQ.out]; rfl
        case measure => simp [intOf]; omega
      | false =>
        have HQ := Lib.hid hq
        clear hq
        go_wp2
        go_ret
        refine ⟨?_, hb4⟩
        cases ks with
        | nil => have := HX2.out; simp at this
        | cons x r =>
          have hx0 : x = .mk k2 n2 t2 ks2 := by have := HX2.out; simpa using this
          rw [allB_eq (mayL_mem HM.out x (by simp)), all_no HX.out (by rw [hx0]; exact HQ.out)]
          rfl
    · have HE : Hid (ks.take j = ks) := Lib.hid (List.take_of_length_le (by omega))
      go_wp2
      go_ret
      refine ⟨?_, hb⟩
      cases ks with
      | nil => rfl
      | cons x r =>
        have := HALL.out x rfl
        rw [HE.out] at this
        rw [allB_eq (mayL_mem HM.out x (by simp)), this]
        rfl
end Go.Proofs.YtdbcdabijolagaaDoor.Val
