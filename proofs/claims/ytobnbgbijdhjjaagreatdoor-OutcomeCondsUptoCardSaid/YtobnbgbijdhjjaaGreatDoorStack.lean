/-
  Contracts of the document's Items and Depth of a value. Memory that was there stays. Condition: a value of bulk at most 2^40.
  Contract of the document's Same of two values. Memory that was there stays. Condition: a value of bulk at most 2^40.
  Contracts of small calls: sameAlone; isName and the document's Called; Null, Number, Text, Bool. Memory that was there stays.
  A slice that the call itself made, used as a stack: its top, taking it off; cutting slices of values from the front. No condition.
-/
import Derived.Test.YtobnbgbijdhjjaaGreatDoorTree
import Derived.WalkLawsBesides
import Derived.StillTailTactics
namespace Go.Proofs.YtobnbgbijdhjjaaGreatDoor.Val
open Go.RowKit Go.Proofs.YtobnbgbijdhjjaaGreatDoor.Utf V

/-- What a call's own box holds, behind whatever left old memory alone. -/
theorem box_kept {wr w' : World} {b o : Nat} {v : Value} (h : wr.cell? ⟨b, o, none⟩ = some v) (hb : Below wr.heap.size wr w') (hlt : b < wr.heap.size) : w'.cell? ⟨b, o, none⟩ = some v := (hb.cell (p := ⟨b, o, none⟩) hlt).trans h
theorem ret_int {k : IntKind} {a b : Int} (h : a = b) : Ending.returned (.int k a) = .returned (.int k b) := by rw [h]
theorem below_next {w wr w' : World} (hb : Below w.heap.size w wr) (h : Below wr.heap.size wr w') : Below w.heap.size w w' := hb.trans (h.mono hb.size)

set_option maxHeartbeats 400000 in
theorem xitems_any (N : Nat) : ∀ (k n : Nat) (t : ByteArray) (ks : List V) (A : Option Addr) (l c : Nat) (w : World), bulkL ks ≤ N → N ≤ 1099511627776 → Kd w ks A l c →
    Calls Tryz.prog 11 #[.agg #[.int .u8 k, .int .u64 n, .string t, .slice A l c]] w fun e w' => e = .returned (.int .i64 ((itemsL ks + 1 : Nat) : Int)) ∧ Below w.heap.size w w' := by
  induction N using Nat.strongRecOn with
  | ind N ih =>
  intro k n t ks A l c w hN hN2 hK
  have hl1 : l ≤ ks.length := Nat.le_of_eq hK.len
  have hl2 : ks.length ≤ l := Nat.le_of_eq hK.len.symm
  have hlb := length_bulk ks
  have hil := itemsL_le ks
  have IH := Lib.hid ih
  clear ih
  go_enter Tryz.func11, Tryz.ntmps11
  go_wp2
  go_loopw [3, 4] (fun m i wr => ∃ j : Nat, j ≤ l ∧ i = .int .i64 j ∧ m = .int .i64 ((itemsL (ks.take j) + 1 : Nat) : Int) ∧ wr.cell? ⟨w.heap.size, 3, none⟩ = some (.slice A l c) ∧ w.heap.size < wr.heap.size ∧ Below w.heap.size w wr) (fun _ i _ => l - (intOf i).toNat)
  case atStart =>
    exact ⟨0, Nat.zero_le _, rfl, rfl, by simp, by simp, (Below.refl _ _).alloc (Nat.le_refl _) _⟩
  case round =>
    obtain ⟨j, hj, rfl, rfl, hc, hsz, hb⟩ := hrel
    by_cases hlt : j < l
    · have hK2 := hK.call hb
      obtain ⟨b, o, k', n', t', ks', A', l', c', rfl, hb', hx, h0, h1, h2, h3, _, _, hK'⟩ := hK2.at_ hlt
      have hbk := at_bulk hx
      simp only [bulk] at hbk
      have HT := Lib.hid (itemsL_take hx)
      have htl := itemsL_take_le ks (j + 1)
      have htl2 : itemsL (ks.take j) + itemsL ks' + 1 ≤ itemsL ks := by have := HT.out; simp only [items] at this; omega
      clear hx
      go_wp2_with fail
      refine (IH.out (bulkL ks') (by omega) k' n' t' ks' A' l' c' wr (Nat.le_refl _) (by omega) hK').mono ?_
      rintro e w2 ⟨rfl, hb2⟩
      have hc2 := box_kept hc hb2 hsz
      have hb3 := below_next hb hb2
      have hs2 := hb2.size
      go_wp2
      go_roundw
      case rel => exact ⟨j + 1, by omega, by go_num, by rw [HT.out]; simp only [items]; go_num, hc2, by omega, hb3⟩
      case measure => simp [intOf]; omega
    · have HE : Hid (ks.take j = ks) := Lib.hid (List.take_of_length_le (by omega))
      go_wp2
      go_ret
      exact ⟨by rw [HE.out]; rfl, hb⟩
set_option maxHeartbeats 400000 in
theorem xdepth_any (N : Nat) : ∀ (k n : Nat) (t : ByteArray) (ks : List V) (A : Option Addr) (l c : Nat) (w : World), bulkL ks ≤ N → N ≤ 1099511627776 → Kd w ks A l c →
    Calls Tryz.prog 70 #[.agg #[.int .u8 k, .int .u64 n, .string t, .slice A l c]] w fun e w' => e = .returned (.int .i64 ((depthL ks + 1 : Nat) : Int)) ∧ Below w.heap.size w w' := by
  induction N using Nat.strongRecOn with
  | ind N ih =>
  intro k n t ks A l c w hN hN2 hK
  have hl1 : l ≤ ks.length := Nat.le_of_eq hK.len
  have hl2 : ks.length ≤ l := Nat.le_of_eq hK.len.symm
  have hlb := length_bulk ks
  have hil := itemsL_le ks
  have hdl := depthL_le ks
  have IH := Lib.hid ih
  clear ih
  go_enter Tryz.func70, Tryz.ntmps70
  go_wp2
  go_loopw [3, 4] (fun m i wr => ∃ j : Nat, j ≤ l ∧ i = .int .i64 j ∧ m = .int .i64 ((depthL (ks.take j) : Nat) : Int) ∧ wr.cell? ⟨w.heap.size, 3, none⟩ = some (.slice A l c) ∧ w.heap.size < wr.heap.size ∧ Below w.heap.size w wr) (fun _ i _ => l - (intOf i).toNat)
  case atStart =>
    exact ⟨0, Nat.zero_le _, rfl, rfl, by simp, by simp, (Below.refl _ _).alloc (Nat.le_refl _) _⟩
  case round =>
    obtain ⟨j, hj, rfl, rfl, hc, hsz, hb⟩ := hrel
    by_cases hlt : j < l
    · have hK2 := hK.call hb
      obtain ⟨b, o, k', n', t', ks', A', l', c', rfl, hb', hx, h0, h1, h2, h3, _, _, hK'⟩ := hK2.at_ hlt
      have hbk := at_bulk hx
      simp only [bulk] at hbk
      have HT := Lib.hid (depthL_take hx)
      have htl := depthL_take_le ks (j + 1)
      have htl2 : depthL ks' + 1 ≤ depthL ks := by have := HT.out; simp only [depth] at this; omega
      have htl3 := depthL_take_le ks j
      clear hx
      go_wp2_with fail
      refine (IH.out (bulkL ks') (by omega) k' n' t' ks' A' l' c' wr (Nat.le_refl _) (by omega) hK').mono ?_
      rintro e w2 ⟨rfl, hb2⟩
      have hc2 := box_kept hc hb2 hsz
      have hb3 := below_next hb hb2
      have hs2 := hb2.size
      go_wp2
      go_roundw
      case rel => exact ⟨j + 1, by omega, by go_num, by rw [HT.out]; simp only [depth]; go_num, hc2, by omega, hb3⟩
      case measure => simp [intOf]; omega
    · have HE : Hid (ks.take j = ks) := Lib.hid (List.take_of_length_le (by omega))
      have hq : depthL (ks.take j) ≤ 1099511627776 := by have := depthL_take_le ks j; omega
      go_wp2
      go_ret
      exact ⟨ret_int (by rw [HE.out]; omega), hb⟩
end Go.Proofs.YtobnbgbijdhjjaaGreatDoor.Val

namespace Go.Proofs.YtobnbgbijdhjjaaGreatDoor.Val
open Go.RowKit Go.Proofs.YtobnbgbijdhjjaaGreatDoor.Utf V

/-- What is told of two values before their kids are gone through. -/
def heads (k k' n n' : Nat) (t t' : ByteArray) (l l' : Nat) : Prop := k = k' ∧ n = n' ∧ t = t' ∧ l = l'

theorem ba_toList {s t : ByteArray} (h : s.toList = t.toList) : s = t := by
  obtain ⟨⟨a⟩⟩ := s
  obtain ⟨⟨b⟩⟩ := t
  simpa using h

def GivesB (p : Bool) (w : World) (e : Ending) (w' : World) : Prop := e = .returned (.bool p) ∧ Below w.heap.size w w'

set_option maxRecDepth 100000 in
set_option maxHeartbeats 800000 in
theorem xsame_any (N : Nat) : ∀ (k n : Nat) (t : ByteArray) (ks : List V) (A : Option Addr) (l c : Nat) (k' n' : Nat) (t' : ByteArray) (ks' : List V) (A' : Option Addr) (l' c' : Nat) (w : World), bulkL ks ≤ N → N ≤ 1099511627776 →
    k < 256 → k' < 256 → n < 18446744073709551616 → n' < 18446744073709551616 → Kd w ks A l c → Kd w ks' A' l' c' →
    Calls Tryz.prog 10 #[.agg #[.int .u8 k, .int .u64 n, .string t, .slice A l c], .agg #[.int .u8 k', .int .u64 n', .string t', .slice A' l' c']] w (GivesB (same (.mk k n t ks) (.mk k' n' t' ks')) w) := by
  induction N using Nat.strongRecOn with
  | ind N ih =>
  intro k n t ks A l c k' n' t' ks' A' l' c' w hN hN2 hk hk' hn hn' hK hK'
  have hl1 : l ≤ ks.length := Nat.le_of_eq hK.len
  have hl2 : ks.length ≤ l := Nat.le_of_eq hK.len.symm
  have hm1 : l' ≤ ks'.length := Nat.le_of_eq hK'.len
  have hm2 : ks'.length ≤ l' := Nat.le_of_eq hK'.len.symm
  have hlb := length_bulk ks
  have IH := Lib.hid ih
  clear ih
  by_cases e1 : k = k'
  · subst e1
    by_cases e2 : n = n'
    · subst e2
      by_cases e3 : t = t'
      · subst e3
        by_cases e4 : l = l'
        · subst e4
          go_enter Tryz.func10, Tryz.ntmps10
          go_wp2
          go_loopw [5] (fun i wr => ∃ j : Nat, j ≤ l ∧ i = .int .i64 j ∧ sameL ks ks' = sameL (ks.drop j) (ks'.drop j) ∧ wr.cell? ⟨w.heap.size, 3, none⟩ = some (.slice A l c) ∧ wr.cell? ⟨w.heap.size + 1, 3, none⟩ = some (.slice A' l c') ∧ w.heap.size + 1 < wr.heap.size ∧ Below w.heap.size w wr) (fun i _ => l - (intOf i).toNat)
          case atStart => exact ⟨0, Nat.zero_le _, rfl, rfl, by simp, by simp, by simp, ((Below.refl _ _).alloc (Nat.le_refl _) _).alloc (by simp) _⟩
          case round =>
            obtain ⟨j, hj, rfl, hs, hc, hc', hsz, hb⟩ := hrel
            by_cases hlt : j < l
            · obtain ⟨b, o, k1, n1, t1, ks1, A1, l1, c1, rfl, hb1, hx, h0, h1, h2, h3, hk1, hn1, hK1⟩ := (hK.call hb).at_ hlt
              obtain ⟨b', o', k2, n2, t2, ks2, A2, l2, c2, rfl, hb2, hx', h0', h1', h2', h3', hk2, hn2, hK2⟩ := (hK'.call hb).at_ hlt
              have hbk := at_bulk hx
              simp only [bulk] at hbk
              rw [drop_at hx, drop_at hx', sameL] at hs
              have HS := Lib.hid hs
              clear hx hx' hs
              have hjI : (j : Int) < (l : Int) := by omega
              go_wp2_with fail
              go_still_tail 10, (by kernel_rfl)
              go_wp2_with fail
              refine (IH.out (bulkL ks1) (by omega) k1 n1 t1 ks1 A1 l1 c1 k2 n2 t2 ks2 A2 l2 c2 wr.drew (Nat.le_refl _) (by omega) hk1 hk2 hn1 hn2 hK1.drew hK2.drew).mono ?_
              rintro e w2 ⟨rfl, hb4⟩
              have hc2 := box_kept (wr := wr.drew) hc hb4 (by simp; omega)
              have hc2' := box_kept (wr := wr.drew) hc' hb4 (by simp; omega)
              have hb3 := below_next (wr := wr.drew) hb.drew hb4
              have hs2 : wr.heap.size ≤ w2.heap.size := hb4.size
              cases hq : same (.mk k1 n1 t1 ks1) (.mk k2 n2 t2 ks2) with
              | true =>
                rw [hq, Bool.true_and] at HS
                clear hq
                go_wp2
                go_roundw
                case rel => exact ⟨j + 1, by omega, by go_num, HS.out, hc2, hc2', by omega, hb3⟩
                case measure => simp [intOf]; omega
              | false =>
                rw [hq, Bool.false_and] at HS
                clear hq
                go_wp2
                go_ret
                exact ⟨by simp only [same, HS.out, Bool.and_false]; rfl, hb3⟩
            · have HE : Hid (sameL ks ks' = true) := Lib.hid (by rw [hs, List.drop_of_length_le (by omega), List.drop_of_length_le (by omega)]; rfl)
              clear hs
              go_wp2
              go_ret
              exact ⟨by simp only [same, HE.out, beq_self_eq_true, Bool.and_self]; rfl, hb⟩
        · have hB := Lib.hid (same_no (a := .mk k n t ks) (b := .mk k n t ks') (fun h => e4 (by injection h with _ _ _ h; rw [hK.len, hK'.len, h])))
          have hd : ((l : Int) != (l' : Int)) = true := by rw [bne_iff_ne]; omega
          go_enter Tryz.func10, Tryz.ntmps10
          go_wp2
          go_ret
          exact ⟨by rw [hB.out]; rfl, ((Below.refl _ _).alloc (Nat.le_refl _) _).alloc (by simp) _⟩
      · have hB := Lib.hid (same_no (a := .mk k n t ks) (b := .mk k n t' ks') (fun h => e3 (by injection h)))
        have hd : ¬ t.toList = t'.toList := fun h => e3 (ba_toList h)
        go_enter Tryz.func10, Tryz.ntmps10
        go_wp2
        go_ret
        exact ⟨by rw [hB.out]; rfl, ((Below.refl _ _).alloc (Nat.le_refl _) _).alloc (by simp) _⟩
    · have hB := Lib.hid (same_no (a := .mk k n t ks) (b := .mk k n' t' ks') (fun h => e2 (by injection h)))
      have hd : ((n : Int) != (n' : Int)) = true := by rw [bne_iff_ne]; omega
      go_enter Tryz.func10, Tryz.ntmps10
      go_wp2
      go_ret
      exact ⟨by rw [hB.out]; rfl, ((Below.refl _ _).alloc (Nat.le_refl _) _).alloc (by simp) _⟩
  · have hB := Lib.hid (same_no (a := .mk k n t ks) (b := .mk k' n' t' ks') (fun h => e1 (by injection h)))
    have hd : ((k : Int) != (k' : Int)) = true := by rw [bne_iff_ne]; omega
    go_enter Tryz.func10, Tryz.ntmps10
    go_wp2
    go_ret
    exact ⟨by rw [hB.out]; rfl, ((Below.refl _ _).alloc (Nat.le_refl _) _).alloc (by simp) _⟩
end Go.Proofs.YtobnbgbijdhjjaaGreatDoor.Val

namespace Go.Proofs.YtobnbgbijdhjjaaGreatDoor.Val
open Go.RowKit Go.Proofs.YtobnbgbijdhjjaaGreatDoor.Utf V

/-- Are two values the same, whatever their kids are, but as many? -/
def aloneB (k k' n n' : Nat) (t t' : ByteArray) (l l' : Nat) : Bool := k == k' && n == n' && t.data.toList == t'.data.toList && l == l'
theorem aloneB_no {k k' n n' : Nat} {t t' : ByteArray} {l l' : Nat} (h : ¬ (k = k' ∧ n = n' ∧ t = t' ∧ l = l')) : aloneB k k' n n' t t' l l' = false := by
  cases hb : aloneB k k' n n' t t' l l' with
  | false => rfl
  | true =>
    simp only [aloneB, Bool.and_eq_true, beq_iff_eq, ba_ext] at hb
    exact absurd ⟨hb.1.1.1, hb.1.1.2, hb.1.2, hb.2⟩ h
theorem aloneB_yes (k n : Nat) (t : ByteArray) (l : Nat) : aloneB k k n n t t l l = true := by simp [aloneB]
theorem aloneB_iff {k k' n n' : Nat} {t t' : ByteArray} {l l' : Nat} (h : aloneB k k' n n' t t' l l' = true) : k = k' ∧ n = n' ∧ t = t' ∧ l = l' := by
  simp only [aloneB, Bool.and_eq_true, beq_iff_eq, ba_ext] at h
  exact ⟨h.1.1.1, h.1.1.2, h.1.2, h.2⟩

theorem two_boxes (w : World) (o o' : Obj) : Below w.heap.size w ((w.alloc o).alloc o') := ((Below.refl _ _).alloc (Nat.le_refl _) _).alloc (by simp) _

set_option maxHeartbeats 800000 in
theorem sameAlone_any (k n : Nat) (t : ByteArray) (A : Option Addr) (l c : Nat) (k' n' : Nat) (t' : ByteArray) (A' : Option Addr) (l' c' : Nat) (w : World) :
    Calls Tryz.prog 63 #[.agg #[.int .u8 k, .int .u64 n, .string t, .slice A l c], .agg #[.int .u8 k', .int .u64 n', .string t', .slice A' l' c']] w (GivesB (aloneB k k' n n' t t' l l') w) := by
  by_cases e1 : k = k'
  · subst e1
    by_cases e2 : n = n'
    · subst e2
      by_cases e3 : t = t'
      · subst e3
        by_cases e4 : l = l'
        · subst e4
          have hB := Lib.hid (aloneB_yes k n t l)
          go_enter Tryz.func63, Tryz.ntmps63
          go_wp2
          go_ret
          exact ⟨by rw [hB.out]; rfl, two_boxes _ _ _⟩
        · have hB := Lib.hid (aloneB_no (k := k) (k' := k) (n := n) (n' := n) (t := t) (t' := t) (fun h => e4 h.2.2.2))
          have hd : ((l : Int) == (l' : Int)) = false := by rw [beq_eq_false_iff_ne]; omega
          go_enter Tryz.func63, Tryz.ntmps63
          go_wp2
          go_ret
          exact ⟨by rw [hB.out]; rfl, two_boxes _ _ _⟩
      · have hB := Lib.hid (aloneB_no (k := k) (k' := k) (n := n) (n' := n) (l := l) (l' := l') (fun h => e3 h.2.2.1))
        have hd : ¬ t.toList = t'.toList := fun h => e3 (ba_toList h)
        go_enter Tryz.func63, Tryz.ntmps63
        go_wp2
        go_ret
        exact ⟨by rw [hB.out]; rfl, two_boxes _ _ _⟩
    · have hB := Lib.hid (aloneB_no (k := k) (k' := k) (t := t) (t' := t') (l := l) (l' := l') (fun h => e2 h.2.1))
      have hd : ((n : Int) == (n' : Int)) = false := by rw [beq_eq_false_iff_ne]; omega
      go_enter Tryz.func63, Tryz.ntmps63
      go_wp2
      go_ret
      exact ⟨by rw [hB.out]; rfl, two_boxes _ _ _⟩
  · have hB := Lib.hid (aloneB_no (n := n) (n' := n') (t := t) (t' := t') (l := l) (l' := l') (fun h => e1 h.1))
    have hd : ((k : Int) == (k' : Int)) = false := by rw [beq_eq_false_iff_ne]; omega
    go_enter Tryz.func63, Tryz.ntmps63
    go_wp2
    go_ret
    exact ⟨by rw [hB.out]; rfl, two_boxes _ _ _⟩

def nameB (k : Nat) : Bool := k == 6 || k == 21
theorem isName_any (k n : Nat) (t : ByteArray) (A : Option Addr) (l c : Nat) (w : World) :
    Calls Tryz.prog 87 #[.agg #[.int .u8 k, .int .u64 n, .string t, .slice A l c]] w (GivesB (nameB k) w) := by
  by_cases h6 : k = 6
  · subst h6
    go_enter Tryz.func87, Tryz.ntmps87
    go_wp2
    go_ret
    exact ⟨rfl, (Below.refl _ _).alloc (Nat.le_refl _) _⟩
  · have d6 : ((k : Int) == 6) = false := by rw [beq_eq_false_iff_ne]; omega
    by_cases h21 : k = 21
    · subst h21
      go_enter Tryz.func87, Tryz.ntmps87
      go_wp2
      go_ret
      exact ⟨rfl, (Below.refl _ _).alloc (Nat.le_refl _) _⟩
    · have d21 : ((k : Int) == 21) = false := by rw [beq_eq_false_iff_ne]; omega
      have hB : Hid (nameB k = false) := Lib.hid (by simp [nameB, h6, h21])
      go_enter Tryz.func87, Tryz.ntmps87
      go_wp2
      go_ret
      exact ⟨by rw [hB.out]; rfl, (Below.refl _ _).alloc (Nat.le_refl _) _⟩
theorem xcalled_any (k n : Nat) (t : ByteArray) (A : Option Addr) (l c : Nat) (w : World) :
    Calls Tryz.prog 78 #[.agg #[.int .u8 k, .int .u64 n, .string t, .slice A l c]] w (GivesB (nameB k) w) := by
  by_cases h6 : k = 6
  · subst h6
    go_enter Tryz.func78, Tryz.ntmps78
    go_wp2
    go_ret
    exact ⟨rfl, (Below.refl _ _).alloc (Nat.le_refl _) _⟩
  · have d6 : ((k : Int) == 6) = false := by rw [beq_eq_false_iff_ne]; omega
    by_cases h21 : k = 21
    · subst h21
      go_enter Tryz.func78, Tryz.ntmps78
      go_wp2
      go_ret
      exact ⟨rfl, (Below.refl _ _).alloc (Nat.le_refl _) _⟩
    · have d21 : ((k : Int) == 21) = false := by rw [beq_eq_false_iff_ne]; omega
      have hB : Hid (nameB k = false) := Lib.hid (by simp [nameB, h6, h21])
      go_enter Tryz.func78, Tryz.ntmps78
      go_wp2
      go_ret
      exact ⟨by rw [hB.out]; rfl, (Below.refl _ _).alloc (Nat.le_refl _) _⟩

/-- A value without kids is answered. -/
def GivesV (k n : Nat) (t : ByteArray) (w : World) (e : Ending) (w' : World) : Prop := e = .returned (.agg #[.int .u8 k, .int .u64 n, .string t, .slice none 0 0]) ∧ Below w.heap.size w w'

theorem number_any (k n : Nat) (w : World) : Calls Tryz.prog 14 #[.int .u8 k, .int .u64 n] w (GivesV k n ⟨#[]⟩ w) := by
  go_enter Tryz.func14, Tryz.ntmps14
  go_wp2
  exact bodyPost_ret (v := .agg #[.int .u8 k, .int .u64 n, .string ⟨#[]⟩, .slice none 0 0]) (by simp [results, Tryz.results14, go_sem]) rfl ⟨rfl, (Below.refl _ _).alloc (Nat.le_refl _) _⟩
theorem text_any' (k : Nat) (t : ByteArray) (w : World) : Calls Tryz.prog 18 #[.int .u8 k, .string t] w (GivesV k 0 t w) := by
  go_enter Tryz.func18, Tryz.ntmps18
  go_wp2
  exact bodyPost_ret (v := .agg #[.int .u8 k, .int .u64 0, .string t, .slice none 0 0]) (by simp [results, Tryz.results18, go_sem]) rfl ⟨rfl, (Below.refl _ _).alloc (Nat.le_refl _) _⟩
theorem null_any (w : World) : Calls Tryz.prog 16 #[] w (GivesV 1 0 ⟨#[]⟩ w) := by
  go_enter Tryz.func16, Tryz.ntmps16
  go_wp2
  exact bodyPost_ret (v := .agg #[.int .u8 1, .int .u64 0, .string ⟨#[]⟩, .slice none 0 0]) (by simp [results, Tryz.results16, go_sem]) rfl ⟨rfl, (Below.refl _ _).alloc (Nat.le_refl _) _⟩
/-- A call's own box of a value. -/
def Box (w : World) (g : Nat) (x0 x1 x2 x3 : Value) : Prop := w.heap[g]? = some (.cells #[x0, x1, x2, x3] 25 (0, 0))
section
variable {w w' : World} {g B : Nat} {x0 x1 x2 x3 : Value}
theorem Box.lt (h : Box w g x0 x1 x2 x3) : g < w.heap.size := (Array.getElem?_eq_some_iff.1 h).1
theorem Box.new (w : World) (x0 x1 x2 x3 : Value) : Box (w.alloc (.cells #[x0, x1, x2, x3] 25)) w.heap.size x0 x1 x2 x3 := heap_alloc_new w _
theorem Box.below (h : Box w g x0 x1 x2 x3) (hb : Below B w w') (hg : g < B) : Box w' g x0 x1 x2 x3 := (hb.block g hg).trans h
theorem Box.call (h : Box w g x0 x1 x2 x3) (hb : Below w.heap.size w w') : Box w' g x0 x1 x2 x3 := h.below hb h.lt
theorem Box.alloc (h : Box w g x0 x1 x2 x3) (o : Obj) : Box (w.alloc o) g x0 x1 x2 x3 := h.call ((Below.refl _ _).alloc (Nat.le_refl _) _)
theorem Box.all (h : Box w g x0 x1 x2 x3) : w.cell? ⟨g, 0, none⟩ = some x0 ∧ w.cell? ⟨g, 1, none⟩ = some x1 ∧ w.cell? ⟨g, 2, none⟩ = some x2 ∧ w.cell? ⟨g, 3, none⟩ = some x3 ∧ ∀ j, w.frozen? ⟨g, j, none⟩ = false := by
  refine ⟨cell_of_row w g 0 _ _ _ h, cell_of_row w g 1 _ _ _ h, cell_of_row w g 2 _ _ _ h, cell_of_row w g 3 _ _ _ h, fun j => ?_⟩
  unfold Box at h
  simp [World.frozen?, h]
end

theorem below_set4 {B : Nat} {w w1 : World} (h : Below B w w1) {g : Nat} (hg : B ≤ g) (a b c d : Value) : Below B w ((((w1.setCell ⟨g, 0, none⟩ a).setCell ⟨g, 1, none⟩ b).setCell ⟨g, 2, none⟩ c).setCell ⟨g, 3, none⟩ d) :=
  (((h.setCell (p := ⟨g, 0, none⟩) hg _).setCell (p := ⟨g, 1, none⟩) hg _).setCell (p := ⟨g, 2, none⟩) hg _).setCell (p := ⟨g, 3, none⟩) hg _
theorem Box.set4 {w : World} {g : Nat} {x0 x1 x2 x3 : Value} (h : Box w g x0 x1 x2 x3) (a b c d : Value) : Box ((((w.setCell ⟨g, 0, none⟩ a).setCell ⟨g, 1, none⟩ b).setCell ⟨g, 2, none⟩ c).setCell ⟨g, 3, none⟩ d) g a b c d := by
  unfold Box at h ⊢
  simp [World.setCell, Array.getElem?_modify, h]
theorem Box.far {w : World} {g : Nat} {x0 x1 x2 x3 : Value} (h : Box w g x0 x1 x2 x3) {p : Addr} (hp : g ≠ p.block) (u : Value) : Box (w.setCell p u) g x0 x1 x2 x3 := (Below.heap_setCell w p u g hp).trans h
theorem Box.far4 {w : World} {g g' : Nat} {x0 x1 x2 x3 : Value} (h : Box w g x0 x1 x2 x3) (hp : g ≠ g') (a b c d : Value) : Box ((((w.setCell ⟨g', 0, none⟩ a).setCell ⟨g', 1, none⟩ b).setCell ⟨g', 2, none⟩ c).setCell ⟨g', 3, none⟩ d) g x0 x1 x2 x3 :=
  (((h.far (p := ⟨g', 0, none⟩) hp _).far (p := ⟨g', 1, none⟩) hp _).far (p := ⟨g', 2, none⟩) hp _).far (p := ⟨g', 3, none⟩) hp _

theorem bool_any (p : Bool) (w : World) : Calls Tryz.prog 82 #[.bool p] w (GivesV 2 (if p then 1 else 0) ⟨#[]⟩ w) := by
  have h0 := Box.new w (.int .u8 0) (.int .u64 0) (.string ⟨#[]⟩) (.slice none 0 0)
  have hb0 : Below w.heap.size w (w.alloc (.cells #[.int .u8 0, .int .u64 0, .string ⟨#[]⟩, .slice none 0 0] 25)) := (Below.refl _ _).alloc (Nat.le_refl _) _
  cases p
  · go_enter Tryz.func82, Tryz.ntmps82
    go_wp2_with fail
    refine (number_any 2 0 _).mono ?_
    rintro e w1 ⟨rfl, hb⟩
    have hb1 := below_next hb0 hb
    obtain ⟨c0, c1, c2, c3, f⟩ := (h0.call hb).all
    go_wp2
    exact bodyPost_ret (v := .agg #[.int .u8 2, .int .u64 0, .string ⟨#[]⟩, .slice none 0 0]) (by simp [results, Tryz.results82, go_sem, c0, c1, c2, c3]) rfl ⟨rfl, below_set4 hb1 (Nat.le_refl _) _ _ _ _⟩
  · go_enter Tryz.func82, Tryz.ntmps82
    go_wp2_with fail
    refine (number_any 2 1 _).mono ?_
    rintro e w1 ⟨rfl, hb⟩
    have hb1 := below_next hb0 hb
    obtain ⟨c0, c1, c2, c3, f⟩ := (h0.call hb).all
    go_wp2
    exact bodyPost_ret (v := .agg #[.int .u8 2, .int .u64 1, .string ⟨#[]⟩, .slice none 0 0]) (by simp [results, Tryz.results82, go_sem, c0, c1, c2, c3]) rfl ⟨rfl, below_set4 hb1 (Nat.le_refl _) _ _ _ _⟩
end Go.Proofs.YtobnbgbijdhjjaaGreatDoor.Val

namespace Go.Proofs.YtobnbgbijdhjjaaGreatDoor.Val
set_option maxRecDepth 100000
open Go.RowKit Go.Proofs.YtobnbgbijdhjjaaGreatDoor.Utf V

theorem own_pop {w : World} {base : Nat} {e : TypeId} {size n m c : Nat} {A : Option Addr} {xs ys : List Value} (h : w.ownsRow base e size (.slice A n c) n (xs ++ ys)) (hx : xs.length = m * size) (hm : m < n) :
    w.ownsRow base e size (.slice A m c) m xs := by
  refine ⟨hx, ?_⟩
  rcases h.2 with ⟨_, h0⟩ | ⟨g, cap, cur, hv, hb, hg, hnc, hcm, hcs, htake⟩
  · omega
  · injection hv with h1 _ h3
    subst h1
    subst h3
    refine .inr ⟨g, c, cur, rfl, hb, hg, by omega, hcm, hcs, ?_⟩
    have hle : m * size ≤ n * size := Nat.mul_le_mul_right _ (by omega)
    have := congrArg (List.take (m * size)) htake
    have e2 : (xs ++ ys).take (m * size) = xs := by rw [← hx]; simp
    rw [List.take_take, Nat.min_eq_left hle, e2] at this
    exact this

theorem own_form {w : World} {base : Nat} {e : TypeId} {size n c : Nat} {A : Option Addr} {xs : List Value} (h : w.ownsRow base e size (.slice A n c) n xs) (hn : 0 < n) : ∃ g, A = some ⟨g, 0, none⟩ ∧ base ≤ g ∧ g < w.heap.size := by
  obtain ⟨g, cap, hv, hb, hlt⟩ := h.form hn
  injection hv with h1
  exact ⟨g, h1, hb, hlt⟩
theorem own_cap {w : World} {base : Nat} {e : TypeId} {size n c : Nat} {A : Option Addr} {xs : List Value} (h : w.ownsRow base e size (.slice A n c) n xs) : n ≤ c := by
  rcases h.2 with ⟨e, h0⟩ | ⟨g, cap, cur, hv, hb, hg, hnc, _⟩
  · omega
  · injection hv with _ _ h3
    omega

/-- x[:k], of whatever slice. -/
theorem cut_top {T e : TypeId} {size : Nat} (hT : Tryz.prog.underlying T = some (.slice e)) (he : Tryz.prog.elem T = e) (hi : (Tryz.prog.info? e).map (·.size) = some size) (A : Option Addr) (n c k : Nat) (hk : k ≤ n) (hnc : n ≤ c) :
    (∀ (W : World) (i : Int), i = k → (Instr.slice T (.slice A n c) none (some (.int .i64 i)) none).run Tryz.prog W = .ok (.slice A k c) W) ∧ (∀ (W : World) (i : Int), i = k → (Instr.sliceAt T (.slice A n c) none (some (.int .i64 i)) none).run Tryz.prog W = .ok (.slice A k c) W) := by
  have hT' : Tryz.prog.underlying T = some (.slice (Tryz.prog.elem T)) := by rw [he]; exact hT
  have hsz : ∀ W : World, (sizeOf e).run Tryz.prog W = .ok size W := fun W => by
    cases hq : Tryz.prog.info? e with
    | none => rw [hq] at hi; cases hi
    | some x => rw [hq] at hi; injection hi with hi; simp [sizeOf, typeInfo, hq, hi]
  have h1 : ∀ (W : World) (i : Int), i = k → (Instr.slice T (.slice A n c) none (some (.int .i64 i)) none).run Tryz.prog W = .ok (.slice A k c) W := fun W i hi => by
    subst hi
    rw [run_slice_h (P := Tryz.prog) (w := W) T A n c hT' .i64 (k : Int) (by omega) (by omega), he, hsz]
    simp only [Result.andThen, sliced]
    cases A <;> simp [Addr.add]
  refine ⟨h1, fun W i hi => ?_⟩
  rw [run_sliceAt_slice (P := Tryz.prog) (w := W) T _ _ _ _ hT']; exact h1 W i hi

theorem elemVals : Tryz.prog.elem 23 = 25 := by kernel_rfl
theorem sizeVal : (Tryz.prog.info? 25).map (·.size) = some 4 := by kernel_rfl

/-- x[k:] of values, under a name of its own. -/
theorem cut_vals (A : Option Addr) (n c k : Nat) (hk : k ≤ n) (hnc : n ≤ c) : ∃ A1 c1, n - k ≤ c1 ∧
    (∀ (W : World) (i : Int), i = k → (Instr.slice 23 (.slice A n c) (some (.int .i64 i)) none none).run Tryz.prog W = .ok (.slice A1 (n - k) c1) W) ∧ (∀ (W : World) (i : Int), i = k → (Instr.sliceAt 23 (.slice A n c) (some (.int .i64 i)) none none).run Tryz.prog W = .ok (.slice A1 (n - k) c1) W) ∧
    ∀ own w P ks, Kids own w P ks A n c → Kids own w P (ks.drop k) A1 (n - k) c1 := by
  have hT' : Tryz.prog.underlying 23 = some (.slice (Tryz.prog.elem 23)) := by rw [elemVals]; exact Tryz.underlying23
  have hsz : ∀ W : World, (sizeOf 25).run Tryz.prog W = .ok 4 W := fun W => by
    have hi := sizeVal
    cases hq : Tryz.prog.info? 25 with
    | none => rw [hq] at hi; cases hi
    | some x => rw [hq] at hi; injection hi with hi; simp [sizeOf, typeInfo, hq, hi]
  have h1 : ∀ (W : World) (i : Int), i = k → (Instr.slice 23 (.slice A n c) (some (.int .i64 i)) none none).run Tryz.prog W = .ok (.slice (if c = k then A else A.map (·.add (k * 4))) (n - k) (c - k)) W := fun W i hi => by
    subst hi
    rw [run_slice_l (P := Tryz.prog) (w := W) 23 A n c hT' .i64 (k : Int) (by omega) (by omega), elemVals, hsz]
    simp only [Result.andThen, sliced, Int.toNat_natCast]
  refine ⟨_, _, ?_, h1, fun W i hi => ?_, fun own w P ks h => ⟨by rw [List.length_drop, ← h.1], ?_, fun hl => ?_⟩⟩
  · omega
  · rw [run_sliceAt_slice (P := Tryz.prog) (w := W) 23 _ _ _ _ hT']; exact h1 W i hi
  · omega
  · obtain ⟨b, o, rfl, hP, ho, hrow⟩ := h.2.2 (by omega)
    rw [if_neg (by omega)]
    refine ⟨b, o + k * 4, ?_, hP, ho, rowL_mk fun i v hi => ?_⟩
    · simp only [Option.map_some]
      unfold Addr.add
      split
      · rename_i h0; rw [h0]; rfl
      · rfl
    · rw [List.getElem?_drop] at hi
      have := rowL_at hrow hi
      rwa [show o + (k + i) * 4 = o + k * 4 + i * 4 by omega] at this
end Go.Proofs.YtobnbgbijdhjjaaGreatDoor.Val
