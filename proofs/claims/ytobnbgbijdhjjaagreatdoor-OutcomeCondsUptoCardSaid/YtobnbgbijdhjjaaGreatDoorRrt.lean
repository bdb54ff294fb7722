/-
  Contracts of the document's own One and Text: the bytes of a character, and the text of characters, in new memory; or that one is no character. Condition: at most 2^40 characters.
  Contract of the document's own Chars: it reads leniently ('lx'), and holds what is written so. Condition: at most 2^30 bytes.
  Contract of the document's Right of bytes: it tells whether they are the text of some characters. Memory that was there stays. Condition: at most 2^30 bytes.
-/
import Derived.Test.YtobnbgbijdhjjaaGreatDoorEq
namespace Go.Proofs.YtobnbgbijdhjjaaGreatDoor.Utf
open Go.RowKit

theorem allC_snoc {l : List Nat} {k x : Nat} (h : AllC (l.take k)) (hx : l[k]? = some x) (hC : isC x = true) : AllC (l.take (k + 1)) := by
  rw [List.take_add_one, hx]
  exact h.append (AllC.one hC)
theorem not_allC {l : List Nat} {k x : Nat} (hx : l[k]? = some x) (hC : isC x = false) : ¬ AllC l := fun h => by
  obtain ⟨hk, rfl⟩ := List.getElem?_eq_some_iff.1 hx
  have := h _ (List.getElem_mem hk)
  rw [hC] at this
  cases this
theorem txt_snoc {l : List Nat} {k x : Nat} (hx : l[k]? = some x) : txt (l.take (k + 1)) = txt (l.take k) ++ en x := by
  rw [List.take_add_one, hx, txt_append]
  simp [txt_cons, txt_nil]

def GivesText (l : List Nat) (w : World) (e : Ending) (w' : World) : Prop :=
  ((∃ A n c, AllC l ∧ e = .returned (.tuple #[.slice A n c, .bool true]) ∧ Own .u8 256 5 w' w.heap.size A n c (txt l)) ∨ (¬ AllC l ∧ e = .returned (.tuple #[.slice none 0 0, .bool false]))) ∧ Below w.heap.size w w'


theorem own_ints (w : World) (n : Nat) (zs : List Int) (l : List Nat) (hz : zs = l.map fun (x : Nat) => (x : Int)) (hn : l.length = n) (hl : ∀ x ∈ l, x < 256) (hm : n ≤ maxLen) : Own .u8 256 5 (w.alloc (.cells (zs.map (Value.int .u8)).toArray 5)) w.heap.size (some ⟨w.heap.size, 0, none⟩) n n l := by
  subst hz
  have h := own_lit8 w w.heap.size n l hn hl hm (Nat.le_refl _)
  have e : (l.map fun (x : Nat) => (x : Int)).map (Value.int .u8) = vs .u8 l := by simp [vs]
  rw [e]
  exact h

def GivesOne (c : Nat) (w : World) (e : Ending) (w' : World) : Prop := ∃ A n cc, e = .returned (.slice A n cc) ∧ Own .u8 256 5 w' w.heap.size A n cc (en c) ∧ n ≤ 4 ∧ Below w.heap.size w w'

theorem one_any (c : Nat) (w : World) (hc : c ≤ 1114111) : Calls Tryz.prog 101 #[.int .u32 c] w (GivesOne c w) := by
  have hB := en_byte hc
  have hL := en_length c
  by_cases h1 : c < 128
  · have d1 : decide ((c : Int) < 128) = true := by simp; omega
    have e : en c = [c] := by unfold en; rw [if_pos h1]
    have H1 := Lib.hid h1
    have HB := Lib.hid hB
    clear h1 hc hL hB
    go_enter Tryz.func101, Tryz.ntmps101
    go_wp2
    go_ret
    refine ⟨_, 1, 1, rfl, own_ints w 1 [_] (en c) (by rw [e]; have := H1.out; simp <;> omega) (by rw [e]; rfl) HB.out (by unfold maxLen; omega), by omega, (Below.refl _ _).alloc (Nat.le_refl _) _⟩
  by_cases h2 : c < 2048
  · have d1 : decide ((c : Int) < 128) = false := by simp; omega
    have d2 : decide ((c : Int) < 2048) = true := by simp; omega
    have e : en c = [192 + c / 64, 128 + c % 64] := by unfold en; rw [if_neg h1, if_pos h2]
    have H1 := Lib.hid h2
    have HB := Lib.hid hB
    clear h1 h2 hc hL hB
    go_enter Tryz.func101, Tryz.ntmps101
    go_wp2
    go_ret
    refine ⟨_, 2, 2, rfl, own_ints w 2 [_, _] (en c) (by rw [e]; have := H1.out; simp <;> omega) (by rw [e]; rfl) HB.out (by unfold maxLen; omega), by omega, (Below.refl _ _).alloc (Nat.le_refl _) _⟩
  by_cases h3 : c < 65536
  · have d1 : decide ((c : Int) < 128) = false := by simp; omega
    have d2 : decide ((c : Int) < 2048) = false := by simp; omega
    have d3 : decide ((c : Int) < 65536) = true := by simp; omega
    have e : en c = [224 + c / 4096, 128 + c / 64 % 64, 128 + c % 64] := by unfold en; rw [if_neg h1, if_neg h2, if_pos h3]
    have H1 := Lib.hid h3
    have HB := Lib.hid hB
    clear h1 h2 h3 hc hL hB
    go_enter Tryz.func101, Tryz.ntmps101
    go_wp2
    go_ret
    refine ⟨_, 3, 3, rfl, own_ints w 3 [_, _, _] (en c) (by rw [e]; have := H1.out; simp <;> omega) (by rw [e]; rfl) HB.out (by unfold maxLen; omega), by omega, (Below.refl _ _).alloc (Nat.le_refl _) _⟩
  · have d1 : decide ((c : Int) < 128) = false := by simp; omega
    have d2 : decide ((c : Int) < 2048) = false := by simp; omega
    have d3 : decide ((c : Int) < 65536) = false := by simp; omega
    have e : en c = [240 + c / 262144, 128 + c / 4096 % 64, 128 + c / 64 % 64, 128 + c % 64] := by unfold en; rw [if_neg h1, if_neg h2, if_neg h3]
    have H1 := Lib.hid hc
    have HB := Lib.hid hB
    clear h1 h2 h3 hc hL hB
    go_enter Tryz.func101, Tryz.ntmps101
    go_wp2
    go_ret
    refine ⟨_, 4, 4, rfl, own_ints w 4 [_, _, _, _] (en c) (by rw [e]; have := H1.out; simp <;> omega) (by rw [e]; rfl) HB.out (by unfold maxLen; omega), by omega, (Below.refl _ _).alloc (Nat.le_refl _) _⟩

set_option maxHeartbeats 400000 in
theorem rtext_any (A : Option Addr) (n c : Nat) (l : List Nat) (w : World) (hr : Rd .u32 4294967296 w w.heap.size A n l) (hn : n ≤ 1099511627776) :
    Calls Tryz.prog 98 #[.slice A n c] w (GivesText l w) := by
  go_enter Tryz.func98, Tryz.ntmps98
  go_wp2
  go_loopw [4, 5] (fun b i wr => ∃ A2 n2 c2, ∃ j : Nat, j ≤ n ∧ b = .slice A2 n2 c2 ∧ i = .int .i64 j ∧ Own .u8 256 5 wr w.heap.size A2 n2 c2 (txt (l.take j)) ∧ AllC (l.take j) ∧ Below w.heap.size w wr) (fun _ i _ => n - (intOf i).toNat)
  case atStart => exact ⟨none, 0, 0, 0, Nat.zero_le _, rfl, rfl, Own.nil _ _ _ _ _, allC_nil, Below.refl _ _⟩
  case round =>
    obtain ⟨A2, n2, c2, j, hj, rfl, rfl, ho, hA, hb⟩ := hrel
    have HA := Lib.hid hA
    clear hA
    have hlen2 := (txt_len (l.take j)).2
    rw [ho.len, List.length_take, Nat.min_eq_left (by rw [hr.len]; omega)] at hlen2
    by_cases hlt : j < n
    · have hr2 := hr.below hb
      obtain ⟨b, o, x, rfl, hb', hx, hx2, hc⟩ := hr2.at_ hlt
      cases hC : isC x with
      | true =>
        have HT := Lib.hid (txt_snoc hx)
        have HA2 := Lib.hid (allC_snoc HA.out hx hC)
        have hle := isC_lt hC
        clear hx
        go_wp2_with fail
        refine (rchar_any x wr).mono ?_
        rw [hC]
        rintro e w3 ⟨rfl, rfl⟩
        clear hC
        have hs := hb.size
        go_wp2_with (first
          | (go_at_call 101; refine (one_any x wr hle).mono ?_; rintro e w4 ⟨A4, n4, c4, rfl, ho4, hn4, hb4⟩; have ho5 := ho.below hb4; have hb5 := hb.trans (hb4.mono hs); have hs5 := hb5.size)
          | (at_builtin; refine wpList_app8 (l := en x) (B := w4.heap.size) rfl _ _ rfl rfl ho5 rfl ho4.rd (by omega) hs5 ?_; intro A6 c6 w6 ho6 hg6; have hb6 := hb5.trans (below_grown ho5 hg6 hs5)))
        go_roundw
        case rel => exact ⟨A6, n2 + n4, c6, j + 1, by omega, rfl, by go_num, ho6.eqv HT.out.symm, HA2.out, hb6⟩
        case measure => simp [intOf]; omega
      | false =>
        have HN := Lib.hid (not_allC hx hC)
        clear hx
        go_wp2_with fail
        refine (rchar_any x wr).mono ?_
        rw [hC]
        rintro e w3 ⟨rfl, rfl⟩
        clear hC
        go_wp2
        go_ret2
        exact ⟨.inr ⟨HN.out, rfl⟩, hb⟩
    · have e1 : l.take j = l := List.take_of_length_le (by rw [hr.len]; omega)
      have HE := Lib.hid e1
      clear e1
      go_wp2
      go_ret2
      exact ⟨.inl ⟨A2, n2, c2, by have := HA.out; rwa [HE.out] at this, rfl, ho.eqv (by rw [HE.out])⟩, hb⟩
theorem rtext_len (A : Option Addr) (n c : Nat) (l : List Nat) (N : Nat) (w : World) (hr : Rd .u32 4294967296 w w.heap.size A n l) (hn : n ≤ 1099511627776) (hC : AllC l) (hN : (txt l).length = N) :
    Calls Tryz.prog 98 #[.slice A n c] w fun e w' => ∃ A1 c1, e = .returned (.tuple #[.slice A1 N c1, .bool true]) ∧ Own .u8 256 5 w' w.heap.size A1 N c1 (txt l) ∧ Below w.heap.size w w' := by
  subst hN
  refine (rtext_any A n c l w hr hn).mono ?_
  rintro e w' ⟨⟨A1, n1, c1, _, rfl, ho⟩ | ⟨hN, _⟩, hb⟩
  · obtain rfl := ho.len
    exact ⟨A1, c1, rfl, ho, hb⟩
  · exact absurd hC hN
theorem rtext_false (A : Option Addr) (n c : Nat) (l : List Nat) (w : World) (hr : Rd .u32 4294967296 w w.heap.size A n l) (hn : n ≤ 1099511627776) (hC : ¬ AllC l) :
    Calls Tryz.prog 98 #[.slice A n c] w fun e w' => e = .returned (.tuple #[.slice none 0 0, .bool false]) ∧ Below w.heap.size w w' := by
  refine (rtext_any A n c l w hr hn).mono ?_
  rintro e w' ⟨⟨A1, n1, c1, h, rfl, ho⟩ | ⟨hN, rfl⟩, hb⟩
  · exact absurd h hC
  · exact ⟨rfl, hb⟩
end Go.Proofs.YtobnbgbijdhjjaaGreatDoor.Utf

namespace Go.Proofs.YtobnbgbijdhjjaaGreatDoor.Utf
open Go.RowKit

def kf (o : Nat) : Nat := if 240 ≤ o then 3 else if 224 ≤ o then 2 else if 192 ≤ o then 1 else 0
def ini (o : Nat) : Nat := if 240 ≤ o then o % 8 else if 224 ≤ o then o % 16 else if 192 ≤ o then o % 32 else o
def fl (x : Nat) (t : List Nat) : Nat := t.foldl (fun x y => 64 * x + y % 64) x
theorem fl_snoc (x : Nat) (t : List Nat) (y : Nat) : fl x (t ++ [y]) = 64 * fl x t + y % 64 := by simp [fl]

/-- The numbers that are read leniently. -/
def lx : List Nat → List Nat
  | [] => []
  | o :: r => fl (ini o) (r.take (kf o)) :: lx (r.drop (kf o))
termination_by b => b.length
decreasing_by simp; omega

theorem lx_nil : lx [] = [] := by rw [lx]
theorem lx_cons (o : Nat) (r : List Nat) : lx (o :: r) = fl (ini o) (r.take (kf o)) :: lx (r.drop (kf o)) := by rw [lx]

theorem lx_en {c : Nat} (h : isC c = true) (r : List Nat) : lx (en c ++ r) = c :: lx r := by
  have hl := isC_lt h
  by_cases h1 : c < 128
  · have e : en c = [c] := by unfold en; rw [if_pos h1]
    have k : kf c = 0 := by unfold kf; rw [if_neg (by omega), if_neg (by omega), if_neg (by omega)]
    have i : ini c = c := by unfold ini; rw [if_neg (by omega), if_neg (by omega), if_neg (by omega)]
    rw [e, List.singleton_append, lx_cons, k, i]
    simp [fl]
  by_cases h2 : c < 2048
  · have e : en c = [192 + c / 64, 128 + c % 64] := by unfold en; rw [if_neg h1, if_pos h2]
    have k : kf (192 + c / 64) = 1 := by unfold kf; rw [if_neg (by omega), if_neg (by omega), if_pos (by omega)]
    have i : ini (192 + c / 64) = c / 64 := by unfold ini; rw [if_neg (by omega), if_neg (by omega), if_pos (by omega)]; omega
    rw [e, List.cons_append, lx_cons, k, i]
    simp [fl]
    omega
  by_cases h3 : c < 65536
  · have e : en c = [224 + c / 4096, 128 + c / 64 % 64, 128 + c % 64] := by unfold en; rw [if_neg h1, if_neg h2, if_pos h3]
    have k : kf (224 + c / 4096) = 2 := by unfold kf; rw [if_neg (by omega), if_pos (by omega)]
    have i : ini (224 + c / 4096) = c / 4096 := by unfold ini; rw [if_neg (by omega), if_pos (by omega)]; omega
    rw [e, List.cons_append, lx_cons, k, i]
    simp [fl]
    omega
  · have e : en c = [240 + c / 262144, 128 + c / 4096 % 64, 128 + c / 64 % 64, 128 + c % 64] := by unfold en; rw [if_neg h1, if_neg h2, if_neg h3]
    have k : kf (240 + c / 262144) = 3 := by unfold kf; rw [if_pos (by omega)]
    have i : ini (240 + c / 262144) = c / 262144 := by unfold ini; rw [if_pos (by omega)]; omega
    rw [e, List.cons_append, lx_cons, k, i]
    simp [fl]
    omega

theorem lx_txt : ∀ {cs : List Nat}, AllC cs → lx (txt cs) = cs
  | [], _ => by rw [txt_nil, lx_nil]
  | c :: cs, h => by rw [txt_cons, lx_en (h c (by simp)), lx_txt fun x hx => h x (by simp [hx])]

theorem lx_step {l : List Nat} {p o : Nat} (h : l[p]? = some o) : lx (l.drop p) = fl (ini o) ((l.drop (p + 1)).take (kf o)) :: lx (l.drop (p + (kf o + 1))) := by
  rw [drop_at h, lx_cons, List.drop_drop]
  congr 3
  omega

theorem fl_next {l : List Nat} {p j y x : Nat} (hj : 1 ≤ j) (h : l[p + j]? = some y) : fl x ((l.drop (p + 1)).take (j + 1 - 1)) = 64 * fl x ((l.drop (p + 1)).take (j - 1)) + y % 64 := by
  rw [← fl_snoc]
  congr 1
  have e : (l.drop (p + 1))[j - 1]? = some y := by rw [List.getElem?_drop, show p + 1 + (j - 1) = p + j by omega]; exact h
  rw [show j + 1 - 1 = (j - 1) + 1 by omega, List.take_add_one, e]
  rfl

theorem take_all {l : List Nat} {n p j k : Nat} (hl : l.length = n) (h : k ≤ j - 1 ∧ j - 1 ≤ k ∨ (j - 1 ≤ k ∧ n ≤ p + j)) : (l.drop (p + 1)).take (j - 1) = (l.drop (p + 1)).take k := by
  rcases h with h | h
  · rw [show j - 1 = k by omega]
  · rw [List.take_of_length_le (by rw [List.length_drop]; omega), List.take_of_length_le (by rw [List.length_drop]; omega)]

def Bd (j X : Nat) : Prop := (j = 1 → X < 256) ∧ (j = 2 → X < 16384) ∧ (j = 3 → X < 1048576) ∧ (j = 4 → X < 67108864)

set_option maxHeartbeats 1000000 in
theorem rchars_any (A : Option Addr) (n c : Nat) (l : List Nat) (w : World) (hr : Rd .u8 256 w w.heap.size A n l) (hn : n ≤ 1073741824) :
    Calls Tryz.prog 95 #[.slice A n c] w (GivesChars l w) := by
  have hlen := hr.len
  go_enter Tryz.func95, Tryz.ntmps95
  go_wp2
  go_loopw [4, 5] (fun q i wr => ∃ A2 n2 c2 d, ∃ p : Nat, p ≤ n + 3 ∧ n2 ≤ p ∧ q = .slice A2 n2 c2 ∧ i = .int .i64 p ∧ Own .u32 4294967296 117 wr w.heap.size A2 n2 c2 d ∧ lx l = d ++ lx (l.drop p) ∧ Below w.heap.size w wr) (fun _ i _ => n + 4 - (intOf i).toNat)
  case atStart => exact ⟨none, 0, 0, [], 0, Nat.zero_le _, Nat.le_refl _, rfl, rfl, Own.nil _ _ _ _ _, rfl, Below.refl _ _⟩
  case round =>
    obtain ⟨A2, n2, c2, d, p, hp, hnp, rfl, rfl, ho, hl, hb⟩ := hrel
    have HL := Lib.hid hl
    clear hl
    by_cases hlt : p < n
    · have hr2 := hr.below hb
      obtain ⟨b, o, x, rfl, hbb, hx, hx2, hc⟩ := hr2.at_ hlt
      have HS := Lib.hid (lx_step hx)
      have hs := hb.size
      have hpI : (p : Int) < n := by omega
      clear hx
      by_cases h1 : 240 ≤ x
      · have d0 : decide (240 ≤ (x : Int)) = true := by simp; omega
        have k0 : kf x = 3 := by unfold kf; rw [if_pos (by omega)]
        have k1 : ini x = x % 8 := by unfold ini; rw [if_pos (by omega)]
        obtain ⟨I, hI, hI1, hI2, hIb⟩ : ∃ I : Nat, ini x = I ∧ (x : Int).tmod 8 = I ∧ (x : Int) % 8 = I ∧ I < 256 := ⟨ini x, rfl, by rw [k1, Int.tmod_eq_emod_of_nonneg (Int.natCast_nonneg x)]; omega, by rw [k1]; omega, by rw [k1]; omega⟩
        rw [k0, hI] at HS
        clear k0 k1 hI h1
        go_wp2
        go_loop [7, 8] (fun q i => ∃ j X : Nat, 1 ≤ j ∧ j ≤ 4 ∧ i = .int .i64 j ∧ q = .int .u32 X ∧ X = fl I ((l.drop (p + 1)).take (j - 1)) ∧ Bd j X) (fun _ i => 5 - (intOf i).toNat)
        case atStart => exact ⟨1, I, by omega, by omega, rfl, rfl, by simp [fl], ⟨fun _ => by omega, fun h => by omega, fun h => by omega, fun h => by omega⟩⟩
        case round =>
          obtain ⟨j, X, hj1, hj2, rfl, rfl, hX, hB⟩ := hrel
          have hB' : X < 67108864 := by
            obtain ⟨q1, q2, q3, q4⟩ := hB
            omega
          have HX := Lib.hid hX
          clear hX
          by_cases hgo : j < 4 ∧ p + j < n
          · obtain ⟨b', o', y, e, hbb', hy, hy2, hcy⟩ := hr2.at_ hgo.2
            injection e with e
            injection e with e1 e2
            subst e1
            subst e2
            have HN := Lib.hid (fl_next (x := I) hj1 hy)
            obtain ⟨Y, hY, hY1, hY2, hYb⟩ : ∃ Y : Nat, y % 64 = Y ∧ (y : Int).tmod 64 = Y ∧ (y : Int) % 64 = Y ∧ Y < 64 := ⟨y % 64, rfl, by rw [Int.tmod_eq_emod_of_nonneg (Int.natCast_nonneg y)]; omega, by omega, by omega⟩
            rw [hY] at HN
            have hB2 : Hid (Bd (j + 1) (64 * X + Y)) := Lib.hid (by
              obtain ⟨q1, q2, q3, q4⟩ := hB
              exact ⟨fun h => by omega, fun h => by omega, fun h => by omega, fun h => by omega⟩)
            have hgI : (p : Int) + j < n := by omega
            have hjI : (j : Int) < 4 := by omega
            clear hy hY hB
            go_wp2
            exact ⟨⟨j + 1, 64 * X + Y, by omega, by omega, by go_num, by go_num, by rw [HN.out, ← HX.out], hB2.out⟩, by simp [intOf]; omega⟩
          · have HT : Hid (lx l = (d ++ [X]) ++ lx (l.drop (p + 4))) := Lib.hid (by rw [HL.out, HS.out, HX.out, take_all hlen (k := 3) (by omega), List.append_assoc]; rfl)
            clear hB
            have hXl : ∀ z ∈ [X], z < 4294967296 := fun z hz => by simp at hz; omega
            have hstop : (decide ((j : Int) < 4) = false) ∨ (decide ((j : Int) < 4) = true ∧ decide ((p : Int) + j < n) = false) := by simp; omega
            obtain g1 | ⟨g1, g2⟩ := hstop
            all_goals
              clear hgo
              go_wp2_with (at_builtin; refine wpList_app32 (l := [X]) (B := wr.heap.size + 1) rfl _ _ rfl rfl (ho.alloc _) rfl (rd_lit32 wr [X] 1 rfl hXl) (by omega) (by simp; omega) ?_; intro A3 c3 w3 hown3 hgrow3; have hb4 : Below w.heap.size w w3 := (hb.alloc hs _).trans (below_grown (ho.alloc _) hgrow3 (by simp; omega)))
              go_roundw
              case rel => exact ⟨A3, n2 + 1, c3, d ++ [X], p + 4, by omega, by omega, rfl, by go_num, hown3, HT.out, hb4⟩
              case measure => simp [intOf]; omega
      by_cases h2 : 224 ≤ x
      · have d0 : decide (240 ≤ (x : Int)) = false := by simp; omega
        have d1 : decide (224 ≤ (x : Int)) = true := by simp; omega
        have k0 : kf x = 2 := by unfold kf; rw [if_neg (by omega), if_pos (by omega)]
        have k1 : ini x = x % 16 := by unfold ini; rw [if_neg (by omega), if_pos (by omega)]
        obtain ⟨I, hI, hI1, hI2, hIb⟩ : ∃ I : Nat, ini x = I ∧ (x : Int).tmod 16 = I ∧ (x : Int) % 16 = I ∧ I < 256 := ⟨ini x, rfl, by rw [k1, Int.tmod_eq_emod_of_nonneg (Int.natCast_nonneg x)]; omega, by rw [k1]; omega, by rw [k1]; omega⟩
        rw [k0, hI] at HS
        clear k0 k1 hI h1 h2
        go_wp2
        go_loop [7, 8] (fun q i => ∃ j X : Nat, 1 ≤ j ∧ j ≤ 3 ∧ i = .int .i64 j ∧ q = .int .u32 X ∧ X = fl I ((l.drop (p + 1)).take (j - 1)) ∧ Bd j X) (fun _ i => 5 - (intOf i).toNat)
        case atStart => exact ⟨1, I, by omega, by omega, rfl, rfl, by simp [fl], ⟨fun _ => by omega, fun h => by omega, fun h => by omega, fun h => by omega⟩⟩
        case round =>
          obtain ⟨j, X, hj1, hj2, rfl, rfl, hX, hB⟩ := hrel
          have hB' : X < 67108864 := by
            obtain ⟨q1, q2, q3, q4⟩ := hB
            omega
          have HX := Lib.hid hX
          clear hX
          by_cases hgo : j < 3 ∧ p + j < n
          · obtain ⟨b', o', y, e, hbb', hy, hy2, hcy⟩ := hr2.at_ hgo.2
            injection e with e
            injection e with e1 e2
            subst e1
            subst e2
            have HN := Lib.hid (fl_next (x := I) hj1 hy)
            obtain ⟨Y, hY, hY1, hY2, hYb⟩ : ∃ Y : Nat, y % 64 = Y ∧ (y : Int).tmod 64 = Y ∧ (y : Int) % 64 = Y ∧ Y < 64 := ⟨y % 64, rfl, by rw [Int.tmod_eq_emod_of_nonneg (Int.natCast_nonneg y)]; omega, by omega, by omega⟩
            rw [hY] at HN
            have hB2 : Hid (Bd (j + 1) (64 * X + Y)) := Lib.hid (by
              obtain ⟨q1, q2, q3, q4⟩ := hB
              exact ⟨fun h => by omega, fun h => by omega, fun h => by omega, fun h => by omega⟩)
            have hgI : (p : Int) + j < n := by omega
            have hjI : (j : Int) < 3 := by omega
            clear hy hY hB
            go_wp2
            exact ⟨⟨j + 1, 64 * X + Y, by omega, by omega, by go_num, by go_num, by rw [HN.out, ← HX.out], hB2.out⟩, by simp [intOf]; omega⟩
          · have HT : Hid (lx l = (d ++ [X]) ++ lx (l.drop (p + 3))) := Lib.hid (by rw [HL.out, HS.out, HX.out, take_all hlen (k := 2) (by omega), List.append_assoc]; rfl)
            clear hB
            have hXl : ∀ z ∈ [X], z < 4294967296 := fun z hz => by simp at hz; omega
            have hstop : (decide ((j : Int) < 3) = false) ∨ (decide ((j : Int) < 3) = true ∧ decide ((p : Int) + j < n) = false) := by simp; omega
            obtain g1 | ⟨g1, g2⟩ := hstop
            all_goals
              clear hgo
              go_wp2_with (at_builtin; refine wpList_app32 (l := [X]) (B := wr.heap.size + 1) rfl _ _ rfl rfl (ho.alloc _) rfl (rd_lit32 wr [X] 1 rfl hXl) (by omega) (by simp; omega) ?_; intro A3 c3 w3 hown3 hgrow3; have hb4 : Below w.heap.size w w3 := (hb.alloc hs _).trans (below_grown (ho.alloc _) hgrow3 (by simp; omega)))
              go_roundw
              case rel => exact ⟨A3, n2 + 1, c3, d ++ [X], p + 3, by omega, by omega, rfl, by go_num, hown3, HT.out, hb4⟩
              case measure => simp [intOf]; omega
      by_cases h3 : 192 ≤ x
      · have d0 : decide (240 ≤ (x : Int)) = false := by simp; omega
        have d1 : decide (224 ≤ (x : Int)) = false := by simp; omega
        have d2 : decide (192 ≤ (x : Int)) = true := by simp; omega
        have k0 : kf x = 1 := by unfold kf; rw [if_neg (by omega), if_neg (by omega), if_pos (by omega)]
        have k1 : ini x = x % 32 := by unfold ini; rw [if_neg (by omega), if_neg (by omega), if_pos (by omega)]
        obtain ⟨I, hI, hI1, hI2, hIb⟩ : ∃ I : Nat, ini x = I ∧ (x : Int).tmod 32 = I ∧ (x : Int) % 32 = I ∧ I < 256 := ⟨ini x, rfl, by rw [k1, Int.tmod_eq_emod_of_nonneg (Int.natCast_nonneg x)]; omega, by rw [k1]; omega, by rw [k1]; omega⟩
        rw [k0, hI] at HS
        clear k0 k1 hI h1 h2 h3
        go_wp2
        go_loop [7, 8] (fun q i => ∃ j X : Nat, 1 ≤ j ∧ j ≤ 2 ∧ i = .int .i64 j ∧ q = .int .u32 X ∧ X = fl I ((l.drop (p + 1)).take (j - 1)) ∧ Bd j X) (fun _ i => 5 - (intOf i).toNat)
        case atStart => exact ⟨1, I, by omega, by omega, rfl, rfl, by simp [fl], ⟨fun _ => by omega, fun h => by omega, fun h => by omega, fun h => by omega⟩⟩
        case round =>
          obtain ⟨j, X, hj1, hj2, rfl, rfl, hX, hB⟩ := hrel
          have hB' : X < 67108864 := by
            obtain ⟨q1, q2, q3, q4⟩ := hB
            omega
          have HX := Lib.hid hX
          clear hX
          by_cases hgo : j < 2 ∧ p + j < n
          · obtain ⟨b', o', y, e, hbb', hy, hy2, hcy⟩ := hr2.at_ hgo.2
            injection e with e
            injection e with e1 e2
            subst e1
            subst e2
            have HN := Lib.hid (fl_next (x := I) hj1 hy)
            obtain ⟨Y, hY, hY1, hY2, hYb⟩ : ∃ Y : Nat, y % 64 = Y ∧ (y : Int).tmod 64 = Y ∧ (y : Int) % 64 = Y ∧ Y < 64 := ⟨y % 64, rfl, by rw [Int.tmod_eq_emod_of_nonneg (Int.natCast_nonneg y)]; omega, by omega, by omega⟩
            rw [hY] at HN
            have hB2 : Hid (Bd (j + 1) (64 * X + Y)) := Lib.hid (by
              obtain ⟨q1, q2, q3, q4⟩ := hB
              exact ⟨fun h => by omega, fun h => by omega, fun h => by omega, fun h => by omega⟩)
            have hgI : (p : Int) + j < n := by omega
            have hjI : (j : Int) < 2 := by omega
            clear hy hY hB
            go_wp2
            exact ⟨⟨j + 1, 64 * X + Y, by omega, by omega, by go_num, by go_num, by rw [HN.out, ← HX.out], hB2.out⟩, by simp [intOf]; omega⟩
          · have HT : Hid (lx l = (d ++ [X]) ++ lx (l.drop (p + 2))) := Lib.hid (by rw [HL.out, HS.out, HX.out, take_all hlen (k := 1) (by omega), List.append_assoc]; rfl)
            clear hB
            have hXl : ∀ z ∈ [X], z < 4294967296 := fun z hz => by simp at hz; omega
            have hstop : (decide ((j : Int) < 2) = false) ∨ (decide ((j : Int) < 2) = true ∧ decide ((p : Int) + j < n) = false) := by simp; omega
            obtain g1 | ⟨g1, g2⟩ := hstop
            all_goals
              clear hgo
              go_wp2_with (at_builtin; refine wpList_app32 (l := [X]) (B := wr.heap.size + 1) rfl _ _ rfl rfl (ho.alloc _) rfl (rd_lit32 wr [X] 1 rfl hXl) (by omega) (by simp; omega) ?_; intro A3 c3 w3 hown3 hgrow3; have hb4 : Below w.heap.size w w3 := (hb.alloc hs _).trans (below_grown (ho.alloc _) hgrow3 (by simp; omega)))
              go_roundw
              case rel => exact ⟨A3, n2 + 1, c3, d ++ [X], p + 2, by omega, by omega, rfl, by go_num, hown3, HT.out, hb4⟩
              case measure => simp [intOf]; omega
      have d0 : decide (240 ≤ (x : Int)) = false := by simp; omega
      have d1 : decide (224 ≤ (x : Int)) = false := by simp; omega
      have d2 : decide (192 ≤ (x : Int)) = false := by simp; omega
      have k0 : kf x = 0 := by unfold kf; rw [if_neg (by omega), if_neg (by omega), if_neg (by omega)]
      have k1 : ini x = x := by unfold ini; rw [if_neg (by omega), if_neg (by omega), if_neg (by omega)]
      rw [k0, k1] at HS
      clear k0 k1 h1 h2 h3
      go_wp2
      go_loop [7, 8] (fun q i => ∃ j X : Nat, 1 ≤ j ∧ j ≤ 1 ∧ i = .int .i64 j ∧ q = .int .u32 X ∧ X = fl x ((l.drop (p + 1)).take (j - 1)) ∧ Bd j X) (fun _ i => 5 - (intOf i).toNat)
      case atStart => exact ⟨1, x, by omega, by omega, rfl, rfl, by simp [fl], ⟨fun _ => by omega, fun h => by omega, fun h => by omega, fun h => by omega⟩⟩
      case round =>
        obtain ⟨j, X, hj1, hj2, rfl, rfl, hX, hB⟩ := hrel
        have hB' : X < 67108864 := by
          obtain ⟨q1, q2, q3, q4⟩ := hB
          omega
        have HX := Lib.hid hX
        clear hX
        by_cases hgo : j < 1 ∧ p + j < n
        · obtain ⟨b', o', y, e, hbb', hy, hy2, hcy⟩ := hr2.at_ hgo.2
          injection e with e
          injection e with e1 e2
          subst e1
          subst e2
          have HN := Lib.hid (fl_next (x := x) hj1 hy)
          obtain ⟨Y, hY, hY1, hY2, hYb⟩ : ∃ Y : Nat, y % 64 = Y ∧ (y : Int).tmod 64 = Y ∧ (y : Int) % 64 = Y ∧ Y < 64 := ⟨y % 64, rfl, by rw [Int.tmod_eq_emod_of_nonneg (Int.natCast_nonneg y)]; omega, by omega, by omega⟩
          rw [hY] at HN
          have hB2 : Hid (Bd (j + 1) (64 * X + Y)) := Lib.hid (by
            obtain ⟨q1, q2, q3, q4⟩ := hB
            exact ⟨fun h => by omega, fun h => by omega, fun h => by omega, fun h => by omega⟩)
          have hgI : (p : Int) + j < n := by omega
          have hjI : (j : Int) < 1 := by omega
          clear hy hY hB
          go_wp2
          exact ⟨⟨j + 1, 64 * X + Y, by omega, by omega, by go_num, by go_num, by rw [HN.out, ← HX.out], hB2.out⟩, by simp [intOf]; omega⟩
        · have HT : Hid (lx l = (d ++ [X]) ++ lx (l.drop (p + 1))) := Lib.hid (by rw [HL.out, HS.out, HX.out, take_all hlen (k := 0) (by omega), List.append_assoc]; rfl)
          clear hB
          have hXl : ∀ z ∈ [X], z < 4294967296 := fun z hz => by simp at hz; omega
          have hstop : (decide ((j : Int) < 1) = false) ∨ (decide ((j : Int) < 1) = true ∧ decide ((p : Int) + j < n) = false) := by simp; omega
          obtain g1 | ⟨g1, g2⟩ := hstop
          all_goals
            clear hgo
            go_wp2_with (at_builtin; refine wpList_app32 (l := [X]) (B := wr.heap.size + 1) rfl _ _ rfl rfl (ho.alloc _) rfl (rd_lit32 wr [X] 1 rfl hXl) (by omega) (by simp; omega) ?_; intro A3 c3 w3 hown3 hgrow3; have hb4 : Below w.heap.size w w3 := (hb.alloc hs _).trans (below_grown (ho.alloc _) hgrow3 (by simp; omega)))
            go_roundw
            case rel => exact ⟨A3, n2 + 1, c3, d ++ [X], p + 1, by omega, by omega, rfl, by go_num, hown3, HT.out, hb4⟩
            case measure => simp [intOf]; omega
    · have hd0 : l.drop p = [] := List.drop_of_length_le (by omega)
      have HD : Hid (lx l = d) := Lib.hid (by rw [HL.out, hd0, lx_nil, List.append_nil])
      clear hd0 HL
      have hpI : decide ((p : Int) < n) = false := by simp; omega
      have hn2 := ho.len
      have hs := hb.size
      go_wp2_with fail
      refine (rtext_any A2 n2 c2 d wr ho.rd (by omega)).mono ?_
      rintro e w3 ⟨⟨A3, n3, c3, hC, rfl, ho3⟩ | ⟨hC, rfl⟩, hb3⟩
      · have hb3' := hb.trans (hb3.mono hs)
        have hr3 := hr.below hb3'
        have ho' := ho.below hb3
        by_cases hE : txt d = l
        · have hn3 : n3 = n := by rw [← ho3.len, hE, hlen]
          subst hn3
          have hr4 := ho3.rd.eqv hE
          go_wp2_with fail
          refine (eqbytes_same w3.heap.size w.heap.size A3 A n3 c3 c l w3 hr4 hr3).mono ?_
          rintro e w4 ⟨rfl, rfl⟩
          go_wp2
          go_ret2
          exact ⟨.inl ⟨d, A2, n2, c2, ⟨hC, hE.symm⟩, rfl, ho'⟩, hb3'⟩
        · have HN : Hid (NoT l) := Lib.hid fun cs h => hE (by
            have e1 := HD.out
            rw [h.2, lx_txt h.1] at e1
            rw [← e1, ← h.2])
          go_wp2_with fail
          refine (eqbytes_other w3.heap.size w.heap.size A3 A n3 n c3 c (txt d) l w3 ho3.rd hr3 hE).mono ?_
          rintro e w4 ⟨rfl, rfl⟩
          clear hE
          go_wp2
          go_ret2
          exact ⟨.inr ⟨HN.out, rfl⟩, hb3'⟩
      · have hb3' := hb.trans (hb3.mono hs)
        have HN : Hid (NoT l) := Lib.hid fun cs h => hC (by
          have e1 := HD.out
          rw [h.2, lx_txt h.1] at e1
          rw [← e1]
          exact h.1)
        clear hC
        go_wp2
        go_ret2
        exact ⟨.inr ⟨HN.out, rfl⟩, hb3'⟩
end Go.Proofs.YtobnbgbijdhjjaaGreatDoor.Utf

namespace Go.Proofs.YtobnbgbijdhjjaaGreatDoor.Utf
open Go.RowKit

theorem rright_any (A : Option Addr) (n c : Nat) (l : List Nat) (w : World) (hr : Rd .u8 256 w w.heap.size A n l) (hn : n ≤ 1073741824) :
    Calls Tryz.prog 90 #[.slice A n c] w fun e w' => (((∃ cs, IsT l cs) ∧ e = .returned (.bool true)) ∨ (NoT l ∧ e = .returned (.bool false))) ∧ Below w.heap.size w w' := by
  go_enter Tryz.func90, Tryz.ntmps90
  go_wp2_with fail
  refine (rchars_any A n c l w hr hn).mono ?_
  rintro e w1 ⟨⟨cs, A1, n1, c1, hT, rfl, _⟩ | ⟨hN, rfl⟩, hb⟩
  · have HT := Lib.hid hT
    clear hT
    go_wp2
    go_ret
    exact ⟨.inl ⟨⟨cs, HT.out⟩, rfl⟩, hb⟩
  · have HN := Lib.hid hN
    clear hN
    go_wp2
    go_ret
    exact ⟨.inr ⟨HN.out, rfl⟩, hb⟩
end Go.Proofs.YtobnbgbijdhjjaaGreatDoor.Utf
