/-
  Contracts of the document's own One and Text: the bytes of a character, and the text of characters, in new memory; or that one is no character. Condition: at most 2^40 characters.
-/
import Derived.Test.YtdbcdabijolagaaDoorEq
namespace Go.Proofs.YtdbcdabijolagaaDoor.Utf
open Go.RowKit

theorem allC_snoc {l : List Nat} {k x : Nat} (h : AllC (l.take k)) (hx : l[k]? = some x) (hC : isC x = true) : AllC (l.take (k + 1)) := by
  rw [List.take_add_one, hx]
  exact h.append (AllC.one hC)
theorem not_allC {l : List Nat} {k x : Nat} (hx : l[k]? = some x) (hC : isC x = false) : ¬ AllC l := fun h => by
  obtain ⟨hk, rfl⟩ := List.getElem?_eq_some_iff.1 hx
  have := h _ (List.getElem_mem hk)
  rw [hC] at this
  cases this
theorem txt_snoc {l : List Nat} {k x : Nat} (hx : l[k]? = some x) : txt (l.take (k + 1)) = txt (l.take k) ++ en x := by
  rw [List.take_add_one, hx, txt_append]
  simp [txt_cons, txt_nil]

def GivesText (l : List Nat) (w : World) (e : Ending) (w' : World) : Prop :=
  ((∃ A n c, AllC l ∧ e = .returned (.tuple #[.slice A n c, .bool true]) ∧ Own .u8 256 5 w' w.heap.size A n c (txt l)) ∨ (¬ AllC l ∧ e = .returned (.tuple #[.slice none 0 0, .bool false]))) ∧ Below w.heap.size w w'


theorem own_ints (w : World) (n : Nat) (zs : List Int) (l : List Nat) (hz : zs = l.map fun (x : Nat) => (x : Int)) (hn : l.length = n) (hl : ∀ x ∈ l, x < 256) (hm : n ≤ maxLen) : Own .u8 256 5 (w.alloc (.cells (zs.map (Value.int .u8)).toArray 5)) w.heap.size (some ⟨w.heap.size, 0, none⟩) n n l := by
  subst hz
  have h := own_lit8 w w.heap.size n l hn hl hm (Nat.le_refl _)
  have e : (l.map fun (x : Nat) => (x : Int)).map (Value.int .u8) = vs .u8 l := by simp [vs]
  rw [e]
  exact h

def GivesOne (c : Nat) (w : World) (e : Ending) (w' : World) : Prop := ∃ A n cc, e = .returned (.slice A n cc) ∧ Own .u8 256 5 w' w.heap.size A n cc (en c) ∧ n ≤ 4 ∧ Below w.heap.size w w'

theorem one_any (c : Nat) (w : World) (hc : c ≤ 1114111) : Calls Tryd.prog 69 #[.int .u32 c] w (GivesOne c w) := by
  have hB := en_byte hc
  have hL := en_length c
  by_cases h1 : c < 128
  · have d1 : decide ((c : Int) < 128) = true := by simp; omega
    have e : en c = [c] := by unfold en; rw [if_pos h1]
    have H1 := Lib.hid h1
    have HB := Lib.hid hB
    clear h1 hc hL hB
    go_enter Tryd.func69, Tryd.ntmps69
    go_wp2
    go_ret
    refine ⟨_, 1, 1, rfl, own_ints w 1 [_] (en c) (by rw [e]; have := H1.out; simp <;> omega) (by rw [e]; rfl) HB.out (by unfold maxLen; omega), by omega, (Below.refl _ _).alloc (Nat.le_refl _) _⟩
  by_cases h2 : c < 2048
  · have d1 : decide ((c : Int) < 128) = false := by simp; omega
    have d2 : decide ((c : Int) < 2048) = true := by simp; omega
    have e : en c = [192 + c / 64, 128 + c % 64] := by unfold en; rw [if_neg h1, if_pos h2]
    have H1 := Lib.hid h2
    have HB := Lib.hid hB
    clear h1 h2 hc hL hB
    go_enter Tryd.func69, Tryd.ntmps69
    go_wp2
    go_ret
    refine ⟨_, 2, 2, rfl, own_ints w 2 [_, _] (en c) (by rw [e]; have := H1.out; simp <;> omega) (by rw [e]; rfl) HB.out (by unfold maxLen; omega), by omega, (Below.refl _ _).alloc (Nat.le_refl _) _⟩
  by_cases h3 : c < 65536
  · have d1 : decide ((c : Int) < 128) = false := by simp; omega
    have d2 : decide ((c : Int) < 2048) = false := by simp; omega
    have d3 : decide ((c : Int) < 65536) = true := by simp; omega
    have e : en c = [224 + c / 4096, 128 + c / 64 % 64, 128 + c % 64] := by unfold en; rw [if_neg h1, if_neg h2, if_pos h3]
    have H1 := Lib.hid h3
    have HB := Lib.hid hB
    clear h1 h2 h3 hc hL hB
    go_enter Tryd.func69, Tryd.ntmps69
    go_wp2
    go_ret
    refine ⟨_, 3, 3, rfl, own_ints w 3 [_, _, _] (en c) (by rw [e]; have := H1.out; simp <;> omega) (by rw [e]; rfl) HB.out (by unfold maxLen; omega), by omega, (Below.refl _ _).alloc (Nat.le_refl _) _⟩
  · have d1 : decide ((c : Int) < 128) = false := by simp; omega
    have d2 : decide ((c : Int) < 2048) = false := by simp; omega
    have d3 : decide ((c : Int) < 65536) = false := by simp; omega
    have e : en c = [240 + c / 262144, 128 + c / 4096 % 64, 128 + c / 64 % 64, 128 + c % 64] := by unfold en; rw [if_neg h1, if_neg h2, if_neg h3]
    have H1 := Lib.hid hc
    have HB := Lib.hid hB
    clear h1 h2 h3 hc hL hB
    go_enter Tryd.func69, Tryd.ntmps69
    go_wp2
    go_ret
    refine ⟨_, 4, 4, rfl, own_ints w 4 [_, _, _, _] (en c) (by rw [e]; have := H1.out; simp <;> omega) (by rw [e]; rfl) HB.out (by unfold maxLen; omega), by omega, (Below.refl _ _).alloc (Nat.le_refl _) _⟩

set_option maxHeartbeats 400000 in
theorem rtext_any (A : Option Addr) (n c : Nat) (l : List Nat) (w : World) (hr : Rd .u32 4294967296 w w.heap.size A n l) (hn : n ≤ 1099511627776) :
    Calls Tryd.prog 66 #[.slice A n c] w (GivesText l w) := by
  go_enter Tryd.func66, Tryd.ntmps66
  go_wp2
  go_loopw [4, 5] (fun b i wr => ∃ A2 n2 c2, ∃ j : Nat, j ≤ n ∧ b = .slice A2 n2 c2 ∧ i = .int .i64 j ∧ Own .u8 256 5 wr w.heap.size A2 n2 c2 (txt (l.take j)) ∧ AllC (l.take j) ∧ Below w.heap.size w wr) (fun _ i _ => n - (intOf i).toNat)
  case atStart => exact ⟨none, 0, 0, 0, Nat.zero_le _, rfl, rfl, Own.nil _ _ _ _ _, allC_nil, Below.refl _ _⟩
  case round =>
    obtain ⟨A2, n2, c2, j, hj, rfl, rfl, ho, hA, hb⟩ := hrel
    have HA := Lib.hid hA
    clear hA
    have hlen2 := (txt_len (l.take j)).2
    rw [ho.len, List.length_take, Nat.min_eq_left (by rw [hr.len]; omega)] at hlen2
    by_cases hlt : j < n
    · have hr2 := hr.below hb
      obtain ⟨b, o, x, rfl, hb', hx, hx2, hc⟩ := hr2.at_ hlt
      cases hC : isC x with
      | true =>
        have HT := Lib.hid (txt_snoc hx)
        have HA2 := Lib.hid (allC_snoc HA.out hx hC)
        have hle := isC_lt hC
        clear hx
        go_wp2_with fail
        refine (rchar_any x wr).mono ?_
        rw [hC]
        rintro e w3 ⟨rfl, rfl⟩
        clear hC
        have hs := hb.size
        go_wp2_with (first
          | (go_at_call 69; refine (one_any x wr hle).mono ?_; rintro e w4 ⟨A4, n4, c4, rfl, ho4, hn4, hb4⟩; have ho5 := ho.below hb4; have hb5 := hb.trans (hb4.mono hs); have hs5 := hb5.size)
          | (at_builtin; refine wpList_app8 (l := en x) (B := w4.heap.size) rfl _ _ rfl rfl ho5 rfl ho4.rd (by omega) hs5 ?_; intro A6 c6 w6 ho6 hg6; have hb6 := hb5.trans (below_grown ho5 hg6 hs5)))
        go_roundw
        case rel => exact ⟨A6, n2 + n4, c6, j + 1, by omega, rfl, by go_num, ho6.eqv HT.out.symm, HA2.out, hb6⟩
        case measure => simp [intOf]; omega
      | false =>
        have HN := Lib.hid (not_allC hx hC)
        clear hx
        go_wp2_with fail
        refine (rchar_any x wr).mono ?_
        rw [hC]
        rintro e w3 ⟨rfl, rfl⟩
        clear hC
        go_wp2
        go_ret2
        exact ⟨.inr ⟨HN.out, rfl⟩, hb⟩
    · have e1 : l.take j = l := List.take_of_length_le (by rw [hr.len]; omega)
      have HE := Lib.hid e1
      clear e1
      go_wp2
      go_ret2
      exact ⟨.inl ⟨A2, n2, c2, by have := HA.out; rwa [HE.out] at this, rfl, ho.eqv (by rw [HE.out])⟩, hb⟩
theorem rtext_len (A : Option Addr) (n c : Nat) (l : List Nat) (N : Nat) (w : World) (hr : Rd .u32 4294967296 w w.heap.size A n l) (hn : n ≤ 1099511627776) (hC : AllC l) (hN : (txt l).length = N) :
    Calls Tryd.prog 66 #[.slice A n c] w fun e w' => ∃ A1 c1, e = .returned (.tuple #[.slice A1 N c1, .bool true]) ∧ Own .u8 256 5 w' w.heap.size A1 N c1 (txt l) ∧ Below w.heap.size w w' := by
  subst hN
  refine (rtext_any A n c l w hr hn).mono ?_
  rintro e w' ⟨⟨A1, n1, c1, _, rfl, ho⟩ | ⟨hN, _⟩, hb⟩
  · obtain rfl := ho.len
    exact ⟨A1, c1, rfl, ho, hb⟩
  · exact absurd hC hN
theorem rtext_false (A : Option Addr) (n c : Nat) (l : List Nat) (w : World) (hr : Rd .u32 4294967296 w w.heap.size A n l) (hn : n ≤ 1099511627776) (hC : ¬ AllC l) :
    Calls Tryd.prog 66 #[.slice A n c] w fun e w' => e = .returned (.tuple #[.slice none 0 0, .bool false]) ∧ Below w.heap.size w w' := by
  refine (rtext_any A n c l w hr hn).mono ?_
  rintro e w' ⟨⟨A1, n1, c1, h, rfl, ho⟩ | ⟨hN, rfl⟩, hb⟩
  · exact absurd h hC
  · exact ⟨rfl, hb⟩
end Go.Proofs.YtdbcdabijolagaaDoor.Utf
