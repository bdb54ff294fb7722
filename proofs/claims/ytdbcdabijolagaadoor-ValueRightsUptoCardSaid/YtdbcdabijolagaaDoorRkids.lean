/-
  Contract of value's rightKids, given keyTwice's. Memory that was there stays. Condition: values of bulk at most 2^30.
-/
import Derived.Test.YtdbcdabijolagaaDoorAllal
namespace Go.Proofs.YtdbcdabijolagaaDoor.Val
open Go.RowKit Go.Proofs.YtdbcdabijolagaaDoor.Utf V

def TwiceAny : Prop := ∀ (k n : Nat) (t : ByteArray) (ks : List V) (A : Option Addr) (l c : Nat) (w : World), bulkL ks ≤ 1073741824 → Kd w ks A l c →
    Calls Tryd.prog 53 #[.agg #[.int .u8 k, .int .u64 n, .string t, .slice A l c]] w (GivesB (!noDup (keysL ks)) w)

theorem two_of {ks : List V} (h : 2 = ks.length) : ∃ x y, ks = [x, y] :=
  match ks, h with
  | [a, b], _ => ⟨a, b, rfl⟩
theorem kidsOk_23 {ks : List V} : kidsOk 23 ks = (decide (ks.length % 2 = 0) && noDup (keysL ks)) := by simp [kidsOk]
theorem kidsOk_24 {ks : List V} : kidsOk 24 ks = allB ks := by
  cases ks <;> simp [kidsOk, allB]
theorem kidsOk_else {k : Nat} {ks : List V} (h1 : k ≠ 23) (h2 : k ≠ 24) (h3 : k ≠ 25) : kidsOk k ks = true := by simp [kidsOk, h1, h2, h3]

set_option maxRecDepth 100000 in
set_option maxHeartbeats 800000 in
theorem rightKids_of (hT : TwiceAny) (k n : Nat) (t : ByteArray) (ks : List V) (A : Option Addr) (l c : Nat) (w : World) (hN : bulkL ks ≤ 1073741824) (hM : mayL ks = true) (hK : Kd w ks A l c) :
    Calls Tryd.prog 46 #[.agg #[.int .u8 k, .int .u64 n, .string t, .slice A l c]] w (GivesB (kidsOk k ks) w) := by
  have hB : Below w.heap.size w (w.alloc (.cells #[.int .u8 k, .int .u64 n, .string t, .slice A l c] 25)) := (Below.refl _ _).alloc (Nat.le_refl _) _
  have HL := Lib.hid hK.len
  have hll : l ≤ ks.length := Nat.le_of_eq hK.len
  have hlb := length_bulk ks
  go_enter Tryd.func46, Tryd.ntmps46
  by_cases h23 : k = 23
  · subst h23
    have HT := Lib.hid (hT 23 n t ks A l c _ hN (hK.alloc (.cells #[.int .u8 (23 : Nat), .int .u64 n, .string t, .slice A l c] 25)))
    by_cases h2 : l % 2 = 0
    · have hm : (l : Int) % 2 = 0 := by omega
      cases hq : noDup (keysL ks) with
      | true =>
        have HQ := Lib.hid hq
        clear hq
        go_wp2_with fail
        refine HT.out.mono ?_
        rw [HQ.out]
        rintro e w1 ⟨rfl, hb1⟩
        have hb2 := below_next hB hb1
        go_wp2
        go_ret
        exact ⟨by rw [kidsOk_23, ← HL.out, decide_eq_true h2, HQ.out]; rfl, hb2⟩
      | false =>
        have HQ := Lib.hid hq
        clear hq
        go_wp2_with fail
        refine HT.out.mono ?_
        rw [HQ.out]
        rintro e w1 ⟨rfl, hb1⟩
        have hb2 := below_next hB hb1
        go_wp2
        go_ret
        exact ⟨by rw [kidsOk_23, ← HL.out, decide_eq_true h2, HQ.out]; rfl, hb2⟩
    · have hm : ((l : Int) % 2 == 0) = false := by rw [beq_eq_false_iff_ne]; omega
      go_wp2_with fail
      go_ret
      exact ⟨by rw [kidsOk_23, ← HL.out, decide_eq_false h2]; rfl, hB⟩
  · by_cases h24 : k = 24
    · subst h24
      go_wp2_with fail
      refine (allAlike_any ks A l c _ hN hM (hK.alloc _)).mono ?_
      rintro e w1 ⟨rfl, hb1⟩
      go_wp2
      go_ret
      exact ⟨by rw [kidsOk_24]; rfl, below_next hB hb1⟩
    · by_cases h25 : k = 25
      · subst h25
        by_cases h2 : l = 2
        · subst h2
          obtain ⟨⟨xk, xn, xt, xs⟩, ⟨yk, yn, yt, ys⟩, rfl⟩ : ∃ x y, ks = [x, y] := two_of HL.out
          clear HL hll hlb
          obtain ⟨_, b, o, B1, l1, c1, B2, l2, c2, rfl, hb, a0, a1, a2, a3, a4, a5, aK, d0, d1, d2, d3, d4, d5, dK⟩ := hK.two
          clear d0 d1 d2 d3 dK aK hK
          have b0 := Box.new w (.int .u8 (25 : Nat)) (.int .u64 n) (.string t) (.slice (some ⟨b, o, none⟩) 2 c)
          obtain ⟨W0, hW0⟩ : ∃ W0, w.alloc (.cells #[.int .u8 (25 : Nat), .int .u64 n, .string t, .slice (some ⟨b, o, none⟩) 2 c] 25) = W0 := ⟨_, rfl⟩
          rw [hW0] at b0 hB
          obtain ⟨p0, p1, p2, p3, pf⟩ := b0.all
          have y0 := (hB.cell (p := ⟨b, o, none⟩) hb).trans a0
          have y1 := (hB.cell (p := ⟨b, o + 1, none⟩) hb).trans a1
          have y2 := (hB.cell (p := ⟨b, o + 2, none⟩) hb).trans a2
          have y3 := (hB.cell (p := ⟨b, o + 3, none⟩) hb).trans a3
          simp only [Int.cast_ofNat_Int] at hW0 p0
          have hlt : 0 < (2 : Nat) := by omega
          go_wp2_with fail
          refine (isName_any xk xn xt B1 l1 c1 _).mono ?_
          rintro e w1 ⟨rfl, hb1⟩
          have hb2 := below_next hB hb1
          go_wp2
          go_ret
          exact ⟨by simp [kidsOk, kind], hb2⟩
        · have hm : ((l : Int) == 2) = false := by rw [beq_eq_false_iff_ne]; omega
          go_wp2_with fail
          go_ret
          refine ⟨?_, hB⟩
          have hlen := HL.out
          match ks, hlen with
          | [], _ => simp [kidsOk]
          | [_], _ => simp [kidsOk]
          | [_, _], hlen => simp at hlen; omega
          | _ :: _ :: _ :: _, _ => simp [kidsOk]
      · have d1 : ((k : Int) == 23) = false := by simp; omega
        have d2 : ((k : Int) == 24) = false := by simp; omega
        have d3 : ((k : Int) == 25) = false := by simp; omega
        go_wp2_with fail
        go_ret
        exact ⟨by rw [kidsOk_else h23 h24 h25]; rfl, hB⟩
end Go.Proofs.YtdbcdabijolagaaDoor.Val
