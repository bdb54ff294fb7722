/-
  Contract of the document's Same of two values. Memory that was there stays. Condition: a value of bulk at most 2^40.
-/
import Derived.Test.YtdbcdabijolagaaDoorXcount
import Derived.StillTailTactics
namespace Go.Proofs.YtdbcdabijolagaaDoor.Val
open Go.RowKit Go.Proofs.YtdbcdabijolagaaDoor.Utf V

/-- What is told of two values before their kids are gone through. -/
def heads (k k' n n' : Nat) (t t' : ByteArray) (l l' : Nat) : Prop := k = k' ∧ n = n' ∧ t = t' ∧ l = l'

theorem ba_toList {s t : ByteArray} (h : s.toList = t.toList) : s = t := by
  obtain ⟨⟨a⟩⟩ := s
  obtain ⟨⟨b⟩⟩ := t
  simpa using h

def GivesB (p : Bool) (w : World) (e : Ending) (w' : World) : Prop := e = .returned (.bool p) ∧ Below w.heap.size w w'

set_option maxRecDepth 100000 in
set_option maxHeartbeats 800000 in
theorem xsame_any (N : Nat) : ∀ (k n : Nat) (t : ByteArray) (ks : List V) (A : Option Addr) (l c : Nat) (k' n' : Nat) (t' : ByteArray) (ks' : List V) (A' : Option Addr) (l' c' : Nat) (w : World), bulkL ks ≤ N → N ≤ 1099511627776 →
    k < 256 → k' < 256 → n < 18446744073709551616 → n' < 18446744073709551616 → Kd w ks A l c → Kd w ks' A' l' c' →
    Calls Tryd.prog 15 #[.agg #[.int .u8 k, .int .u64 n, .string t, .slice A l c], .agg #[.int .u8 k', .int .u64 n', .string t', .slice A' l' c']] w (GivesB (same (.mk k n t ks) (.mk k' n' t' ks')) w) := by
  induction N using Nat.strongRecOn with
  | ind N ih =>
  intro k n t ks A l c k' n' t' ks' A' l' c' w hN hN2 hk hk' hn hn' hK hK'
  have hl1 : l ≤ ks.length := Nat.le_of_eq hK.len
  have hl2 : ks.length ≤ l := Nat.le_of_eq hK.len.symm
  have hm1 : l' ≤ ks'.length := Nat.le_of_eq hK'.len
  have hm2 : ks'.length ≤ l' := Nat.le_of_eq hK'.len.symm
  have hlb := length_bulk ks
  have IH := Lib.hid ih
  clear ih
  by_cases e1 : k = k'
  · subst e1
    by_cases e2 : n = n'
    · subst e2
      by_cases e3 : t = t'
      · subst e3
        by_cases e4 : l = l'
        · subst e4
          go_enter Tryd.func15, Tryd.ntmps15
          go_wp2
          go_loopw [5] (fun i wr => ∃ j : Nat, j ≤ l ∧ i = .int .i64 j ∧ sameL ks ks' = sameL (ks.drop j) (ks'.drop j) ∧ wr.cell? ⟨w.heap.size, 3, none⟩ = some (.slice A l c) ∧ wr.cell? ⟨w.heap.size + 1, 3, none⟩ = some (.slice A' l c') ∧ w.heap.size + 1 < wr.heap.size ∧ Below w.heap.size w wr) (fun i _ => l - (intOf i).toNat)
          case atStart => exact ⟨0, Nat.zero_le _, rfl, rfl, by simp, by simp, by simp, ((Below.refl _ _).alloc (Nat.le_refl _) _).alloc (by simp) _⟩
          case round =>
            obtain ⟨j, hj, rfl, hs, hc, hc', hsz, hb⟩ := hrel
            by_cases hlt : j < l
            · obtain ⟨b, o, k1, n1, t1, ks1, A1, l1, c1, rfl, hb1, hx, h0, h1, h2, h3, hk1, hn1, hK1⟩ := (hK.call hb).at_ hlt
              obtain ⟨b', o', k2, n2, t2, ks2, A2, l2, c2, rfl, hb2, hx', h0', h1', h2', h3', hk2, hn2, hK2⟩ := (hK'.call hb).at_ hlt
              have hbk := at_bulk hx
              simp only [bulk] at hbk
              rw [drop_at hx, drop_at hx', sameL] at hs
              have HS := Lib.hid hs
              clear hx hx' hs
              have hjI : (j : Int) < (l : Int) := by omega
              go_wp2_with fail
              go_still_tail 10, (by kernel_rfl)
              go_wp2_with fail
              refine (IH.out (bulkL ks1) (by omega) k1 n1 t1 ks1 A1 l1 c1 k2 n2 t2 ks2 A2 l2 c2 wr.drew (Nat.le_refl _) (by omega) hk1 hk2 hn1 hn2 hK1.drew hK2.drew).mono ?_
              rintro e w2 ⟨rfl, hb4⟩
              have hc2 := box_kept (wr := wr.drew) hc hb4 (by simp; omega)
              have hc2' := box_kept (wr := wr.drew) hc' hb4 (by simp; omega)
              have hb3 := below_next (wr := wr.drew) hb.drew hb4
              have hs2 : wr.heap.size ≤ w2.heap.size := hb4.size
              cases hq : same (.mk k1 n1 t1 ks1) (.mk k2 n2 t2 ks2) with
              | true =>
                rw [hq, Bool.true_and] at HS
                clear hq
                go_wp2
                go_roundw
                case rel => exact ⟨j + 1, by omega, by go_num, HS.out, hc2, hc2', by omega, hb3⟩
                case measure => simp [intOf]; omega
              | false =>
                rw [hq, Bool.false_and] at HS
                clear hq
                go_wp2
                go_ret
                exact ⟨by simp only [same, HS.out, Bool.and_false]; rfl, hb3⟩
            · have HE : Hid (sameL ks ks' = true) := Lib.hid (by rw [hs, List.drop_of_length_le (by omega), List.drop_of_length_le (by omega)]; rfl)
              clear hs
              go_wp2
              go_ret
              exact ⟨by simp only [same, HE.out, beq_self_eq_true, Bool.and_self]; rfl, hb⟩
        · have hB := Lib.hid (same_no (a := .mk k n t ks) (b := .mk k n t ks') (fun h => e4 (by injection h with _ _ _ h; rw [hK.len, hK'.len, h])))
          have hd : ((l : Int) != (l' : Int)) = true := by rw [bne_iff_ne]; omega
          go_enter Tryd.func15, Tryd.ntmps15
          go_wp2
          go_ret
          exact ⟨by rw [hB.out]; rfl, ((Below.refl _ _).alloc (Nat.le_refl _) _).alloc (by simp) _⟩
      · have hB := Lib.hid (same_no (a := .mk k n t ks) (b := .mk k n t' ks') (fun h => e3 (by injection h)))
        have hd : ¬ t.toList = t'.toList := fun h => e3 (ba_toList h)
        go_enter Tryd.func15, Tryd.ntmps15
        go_wp2
        go_ret
        exact ⟨by rw [hB.out]; rfl, ((Below.refl _ _).alloc (Nat.le_refl _) _).alloc (by simp) _⟩
    · have hB := Lib.hid (same_no (a := .mk k n t ks) (b := .mk k n' t' ks') (fun h => e2 (by injection h)))
      have hd : ((n : Int) != (n' : Int)) = true := by rw [bne_iff_ne]; omega
      go_enter Tryd.func15, Tryd.ntmps15
      go_wp2
      go_ret
      exact ⟨by rw [hB.out]; rfl, ((Below.refl _ _).alloc (Nat.le_refl _) _).alloc (by simp) _⟩
  · have hB := Lib.hid (same_no (a := .mk k n t ks) (b := .mk k' n' t' ks') (fun h => e1 (by injection h)))
    have hd : ((k : Int) != (k' : Int)) = true := by rw [bne_iff_ne]; omega
    go_enter Tryd.func15, Tryd.ntmps15
    go_wp2
    go_ret
    exact ⟨by rw [hB.out]; rfl, ((Below.refl _ _).alloc (Nat.le_refl _) _).alloc (by simp) _⟩
end Go.Proofs.YtdbcdabijolagaaDoor.Val
