/-
  Contract of utf.Text: the text of characters in new memory, or that one is none. Memory that was there stays. Condition: at most 2^32 characters.
-/
import Derived.Test.YthplkkpcpkdbiaaDoorLay
namespace Go.Proofs.YthplkkpcpkdbiaaDoor.Utf
open Go.RowKit

theorem allC_snoc {l : List Nat} {k x : Nat} (h : AllC (l.take k)) (hx : l[k]? = some x) (hC : isC x = true) : AllC (l.take (k + 1)) := by
  rw [List.take_add_one, hx]
  exact h.append (AllC.one hC)
theorem not_allC {l : List Nat} {k x : Nat} (hx : l[k]? = some x) (hC : isC x = false) : ¬ AllC l := fun h => by
  obtain ⟨hk, rfl⟩ := List.getElem?_eq_some_iff.1 hx
  have := h _ (List.getElem_mem hk)
  rw [hC] at this
  cases this
theorem txt_snoc {l : List Nat} {k x : Nat} (hx : l[k]? = some x) : txt (l.take (k + 1)) = txt (l.take k) ++ en x := by
  rw [List.take_add_one, hx, txt_append]
  simp [txt_cons, txt_nil]

def GivesText (l : List Nat) (w : World) (e : Ending) (w' : World) : Prop :=
  ((∃ A n c, AllC l ∧ e = .returned (.tuple #[.slice A n c, .bool true]) ∧ Own .u8 256 5 w' w.heap.size A n c (txt l)) ∨ (¬ AllC l ∧ e = .returned (.tuple #[.slice none 0 0, .bool false]))) ∧ Below w.heap.size w w'

set_option maxHeartbeats 400000 in
theorem text_any (A : Option Addr) (n c : Nat) (l : List Nat) (w : World) (ht : Tab w) (hr : Rd .u32 4294967296 w w.heap.size A n l) (hn : n ≤ 1099511627776) :
    Calls Tryd.prog 19 #[.slice A n c] w (GivesText l w) := by
  obtain ⟨i0, hi, hz0, hz1, hz2⟩ := info_parts info5
  go_enter Tryd.func19, Tryd.ntmps19
  go_wp2
  go_loop [4, 12] (fun s i => ∃ k : Nat, k ≤ n ∧ i = .int .i64 k ∧ s = .int .i64 ((txt (l.take k)).length : Nat) ∧ AllC (l.take k)) (fun _ i => n - (intOf i).toNat)
  case atStart => exact ⟨0, Nat.zero_le _, rfl, rfl, allC_nil⟩
  case round =>
    obtain ⟨k, hk, rfl, rfl, hA⟩ := hrel
    have HA := Lib.hid hA
    clear hA
    have hlen := (txt_len (l.take k)).2
    rw [List.length_take, Nat.min_eq_left (by rw [hr.len]; omega)] at hlen
    by_cases hlt : k < n
    · obtain ⟨b, o, x, rfl, hb, hx, hx2, hc⟩ := hr.at_ hlt
      by_cases hC : isC x = true
      · have HA2 := Lib.hid (allC_snoc HA.out hx hC)
        have HT : Hid ((txt (l.take (k + 1))).length = (txt (l.take k)).length + (fu x + 1)) := Lib.hid (by rw [txt_snoc hx, List.length_append, en_length])
        have hf := fu_le x
        clear hx
        generalize (txt (l.take k)).length = s at *
        go_wp2_with fail
        refine (char_any x w).mono ?_
        rw [hC]
        rintro e w2 ⟨rfl, rfl⟩
        go_wp2_with fail
        refine (further_any x w ht).mono ?_
        rintro e w2 ⟨rfl, rfl⟩
        generalize fu x = f at *
        go_wp2
        exact ⟨⟨k + 1, by omega, by go_num, by rw [HT.out]; go_num, HA2.out⟩, by simp [intOf]; omega⟩
      · have hCf : isC x = false := by simpa using hC
        have HN := Lib.hid (not_allC hx hCf)
        clear hx hC
        generalize (txt (l.take k)).length = s at *
        go_wp2_with fail
        refine (char_any x w).mono ?_
        rw [hCf]
        rintro e w2 ⟨rfl, rfl⟩
        clear hCf
        go_wp2
        go_ret2
        exact ⟨.inr ⟨HN.out, rfl⟩, Below.refl _ _⟩
    · have hkn : k = n := by omega
      subst hkn
      have e0 : l.take k = l := List.take_of_length_le (by rw [hr.len]; omega)
      have HAL : Hid (AllC l) := Lib.hid (by have := HA.out; rwa [e0] at this)
      have HTL : Hid ((txt (l.take k)).length = (txt l).length) := Lib.hid (by rw [e0])
      clear e0
      generalize (txt (l.take k)).length = s at *
      go_wp2_with (at_make; refine wpList_make_own w rfl _ _ 22 rfl w.heap.size 5 i0 (.int .u8 0) 1 Tryd.underlying22 hi hz0 hz1 .i64 .i64 (s : Int) s rfl rfl rfl (by rw [hz2]; omega) (by unfold maxLen; omega) (Nat.le_refl _) ?_; intro w1 hown1 hgrow1; have hb1 : Below w.heap.size w w1 := (Below.refl _ _).grown hgrow1 (Nat.le_refl _) (fun _ h => by cases h))
      have hown1' : Own .u8 256 5 w1 w.heap.size (some ⟨w.heap.size, 0, none⟩) 0 s [] := ⟨fun _ h => (by cases h), hown1⟩
      clear hown1 hgrow1
      go_loopw [7, 30] (fun b i wr => ∃ A2 n2 c2, ∃ j : Nat, j ≤ k ∧ b = .slice A2 n2 c2 ∧ i = .int .i64 j ∧ Own .u8 256 5 wr w.heap.size A2 n2 c2 (txt (l.take j)) ∧ Below w.heap.size w wr) (fun _ i _ => k - (intOf i).toNat)
      case atStart => exact ⟨_, 0, _, 0, Nat.zero_le _, rfl, rfl, hown1', hb1⟩
      case round =>
        clear hown1' hb1
        obtain ⟨A2, n2, c2, j, hj, rfl, rfl, ho, hb⟩ := hrel
        have hlen2 := (txt_len (l.take j)).2
        rw [ho.len, List.length_take, Nat.min_eq_left (by rw [hr.len]; omega)] at hlen2
        by_cases hlt2 : j < k
        · have hr2 := hr.below hb
          obtain ⟨b, o, x, rfl, hb', hx, hx2, hc⟩ := hr2.at_ hlt2
          have hC : isC x = true := by
            obtain ⟨hk', rfl⟩ := List.getElem?_eq_some_iff.1 hx
            exact HAL.out _ (List.getElem_mem hk')
          have HT := Lib.hid (txt_snoc hx)
          have ht2 := ht.below hb ht.pos
          clear hx
          go_wp2_with fail
          refine (lay_any w.heap.size A2 n2 c2 _ x wr ho hb.size (by omega) (isC_lt hC) ht2 ht.pos).mono ?_
          rintro e w3 ⟨A3, n3, c3, rfl, ho3, hb3⟩
          clear hC
          go_wp2
          go_roundw
          case rel => exact ⟨A3, n3, c3, j + 1, by omega, rfl, by go_num, ho3.eqv HT.out.symm, hb.trans hb3⟩
          case measure => simp [intOf]; omega
        · have e1 : l.take j = l := List.take_of_length_le (by rw [hr.len]; omega)
          have HE := Lib.hid e1
          clear e1
          go_wp2
          go_ret2
          exact ⟨.inl ⟨A2, n2, c2, HAL.out, rfl, ho.eqv (by rw [HE.out])⟩, hb⟩
end Go.Proofs.YthplkkpcpkdbiaaDoor.Utf
