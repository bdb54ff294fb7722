/-
  The walk of the statement DecodeCodes: a first byte is a code, or 0, or it is wrong at once; a code is short of just so many bytes as its first digit says. Condition, as the card has it: the table utf.shapes lies as the program's text lays it.
-/
import Derived.Test.YtikjnbognjicdaaDoorDwk
namespace Go.Proofs.YtikjnbognjicdaaDoor.Dec
set_option maxRecDepth 100000
open Go.RowKit Go.Proofs.YtikjnbognjicdaaDoor.Utf Go.Proofs.YtikjnbognjicdaaDoor.Val V

theorem idx_str (s : ByteArray) (j : Nat) (b : UInt8) (h : s[j]? = some b) (W : World) : (Instr.index 9 (.string s) (.int .i64 (j : Int))).run Tryd.prog W = .ok (.int .u8 b.toNat) W := by
  have e : (Instr.index 9 (.string s) (.int .i64 (j : Int))).run Tryd.prog W = (match (if 0 ≤ (j : Int) then s[(j : Int).toNat]? else none) with | some b => (pure (.int .u8 b.toNat) : Sem Value) | none => boundsPanic .i64 (j : Int) s.size .index).run Tryd.prog W := by kernel_rfl
  rw [e, if_pos (by omega), Int.toNat_natCast, h]
  rfl
def cdS : ByteArray := ⟨#[0, 64, 65, 66, 67, 68, 69, 80, 81, 82, 83, 84, 85, 86, 96, 97, 112, 113, 114, 115, 116, 128, 129, 130, 131, 132, 148, 152, 160, 161, 163, 176, 177, 179, 192, 193, 208, 209, 224, 240]⟩
def cds : List Nat := [0, 64, 65, 66, 67, 68, 69, 80, 81, 82, 83, 84, 85, 86, 96, 97, 112, 113, 114, 115, 116, 128, 129, 130, 131, 132, 148, 152, 160, 161, 163, 176, 177, 179, 192, 193, 208, 209, 224, 240]
theorem cds_at : ∀ j < 40, cdS[j]? = some (UInt8.ofNat (cds.getD j 0)) ∧ (UInt8.ofNat (cds.getD j 0)).toNat = cds.getD j 0 := by decide
theorem cds_is : ∀ c < 256, (cds.any fun y => decide (y = c)) = (decide (c = 0) || decide (kof c ≠ 0)) := by decide
theorem cds_more (X j : Nat) (h : j < 40) : ((cds.take (j + 1)).any fun y => decide (y = X)) = (((cds.take j).any fun y => decide (y = X)) || decide (cds.getD j 0 = X)) := by
  have hl : j < cds.length := h
  rw [List.take_add_one, List.getElem?_eq_getElem hl, List.any_append, List.getD_eq_getElem?_getD, List.getElem?_eq_getElem hl]
  simp
theorem kof_high : ∀ c < 256, 160 ≤ c → kof c ≠ 0 → sw c ≠ 0 := by decide
theorem lg_of : ∀ c < 160, kof c ≠ 0 → (c / 16 = 4 ∧ lg c = 0) ∨ (c / 16 = 5 ∧ lg c = 1) ∨ (c / 16 = 6 ∧ lg c = 2) ∨ (c / 16 = 7 ∧ lg c = 4) ∨ (c / 16 = 8 ∧ lg c = 8) ∨ (c / 16 = 9 ∧ lg c = 16) := by decide
/-- What decode.Value answers, by the numbers alone. -/
theorem dec_gives {w : World} {A : Option Addr} {n c : Nat} {b : List Nat} (h : Rd .u8 256 w w.heap.size A n b) (hc : n ≤ c) (hn : n ≤ 524288) (ht : Tab w) {v : V} {m x : Nat} (hd : decD b = (v, m, x)) {mi xi : Int} (hm : (m : Int) = mi) (hx : (x : Int) = xi) :
    Calls Tryd.prog 18 #[.slice A n c] w fun e w' => ∃ A l c, e = .returned (.tuple #[.agg #[.int .u8 (v.kind : Int), .int .u64 (v.num : Int), .string v.text, .slice A l c], .int .i64 mi, .int .i64 xi]) ∧ Below w.heap.size w w' := by
  have hA := dec_any h hc hn ht
  rw [hd] at hA
  refine hA.mono fun e w' he => ?_
  obtain ⟨A, l, c, rfl, _, _, _, hb⟩ := he
  subst hm hx
  exact ⟨A, l, c, rfl, hb⟩
end Go.Proofs.YtikjnbognjicdaaDoor.Dec
namespace Go.Proofs.YtikjnbognjicdaaDoor.decodeCodes
set_option maxRecDepth 100000
open Go.RowKit Go.Proofs.YtikjnbognjicdaaDoor.Utf Go.Proofs.YtikjnbognjicdaaDoor.Val Go.Proofs.YtikjnbognjicdaaDoor.Dec V

set_option maxHeartbeats 4000000 in
theorem walk (X : Nat) (A : Option Addr) (n c : Nat) (b : List Nat) (W : World) (hT : Tab W) (hX : X < 256) (hr : Rd .u8 256 W W.heap.size A n b) (hc : n ≤ c) (_ : c ≤ maxLen) : Calls Tryd.prog 8 #[.int .u8 (X : Int), .slice A n c] W (Val.GivesB true W) := by
  by_cases hbig : 1024 < n
  · have hd : (n : Int) > 1024 := by omega
    clear hbig
    go_enter Tryd.func8, Tryd.ntmps8
    go_wp2_with ((go_at_call 17; refine (Dec.works_any W hT).mono ?_; rintro e w1 ⟨rfl, hb1⟩))
    go_ret
    exact ⟨rfl, hb1⟩
  have hd : ¬ (n : Int) > 1024 := by omega
  have HN : Hid (n ≤ 1024) := Lib.hid (by omega)
  have hbn := hr.len
  have HBN := Lib.hid hbn
  have HX := Lib.hid hX
  have hsz : (⟨#[0, 64, 65, 66, 67, 68, 69, 80, 81, 82, 83, 84, 85, 86, 96, 97, 112, 113, 114, 115, 116, 128, 129, 130, 131, 132, 148, 152, 160, 161, 163, 176, 177, 179, 192, 193, 208, 209, 224, 240]⟩ : ByteArray).size = 40 := rfl
  have ho1 := own_lit8 W W.heap.size 1 [X] rfl (by simpa using hX) (by decide) (Nat.le_refl _)
  have hr1 : Rd .u8 256 (W.alloc (.cells (vs .u8 [X]).toArray 5)) W.heap.size A n b := hr.alloc (Nat.le_refl _) _
  have HO1 := Lib.hid ho1
  have HR1 := Lib.hid hr1
  clear hbig hbn hX ho1 hr1
  go_enter Tryd.func8, Tryd.ntmps8
  go_wp2
  go_loopw [6, 7] (fun s6 s7 wr => ∃ j : Nat, j ≤ 40 ∧ s7 = .int .i64 (j : Nat) ∧ s6 = .bool ((cds.take j).any fun y => decide (y = X)) ∧ wr = W) (fun _ s7 _ => 40 - (intOf s7).toNat)
  case atStart => exact ⟨0, by omega, rfl, rfl, rfl⟩
  case round =>
    obtain ⟨j, hj, rfl, rfl, rfl⟩ := hrel
    by_cases hlt : j < 40
    · have hdj : (j : Int) < 40 := by omega
      have hmore := cds_more X j hlt
      obtain ⟨hi1, hi2⟩ := cds_at j hlt
      have hix := idx_str cdS j _ hi1
      rw [hi2] at hix
      unfold cdS at hix
      obtain ⟨y, hy⟩ : ∃ y, cds.getD j 0 = y := ⟨_, rfl⟩
      rw [hy] at hix hmore
      obtain ⟨p, hp⟩ : ∃ p, ((cds.take j).any fun y => decide (y = X)) = p := ⟨_, rfl⟩
      obtain ⟨q, hq⟩ : ∃ q, decide (y = X) = q := ⟨_, rfl⟩
      have hqi : ((y : Int) == (X : Int)) = q := by rw [← hq]; exact eq_nat y X
      rw [hp, hq] at hmore
      rw [hp]
      have HM := Lib.hid hmore
      have HLT := Lib.hid hlt
      clear hmore hi1 hi2 hy hp hq hlt
      cases p
      all_goals
        go_wp2
        go_roundw
        case rel => exact ⟨j + 1, HLT.out, by go_num, by rw [HM.out]; simp, trivial⟩
        case measure => (have := HLT.out; simp [intOf]; omega)
    · have hj40 : j = 40 := by omega
      subst hj40
      have hdj : ¬ (40 : Int) < 40 := by omega
      have hall := cds_is X HX.out
      have htake : ((cds.take 40).any fun y => decide (y = X)) = (decide (X = 0) || decide (kof X ≠ 0)) := hall
      rw [htake]
      clear hall htake hj hlt
      simp only [Int.cast_ofNat_Int]
      by_cases h0 : X = 0
      · subst h0
        cases b with
        | nil =>
          obtain rfl : n = 0 := HBN.out.symm
          have hde : decD ([0] ++ []) = (zeroV, 0, 7) := dec_empty 0 (.inl rfl)
          go_wp2_with (first
           | (at_builtin; refine wpList_app8 (base := wr.heap.size) rfl _ _ rfl rfl HO1.out rfl HR1.out (by have := HN.out; omega) (by simp) ?_; intro A2 c2 w2 ho2 hg2; have hb2 : Below wr.heap.size wr w2 := ((Below.refl _ _).alloc (Nat.le_refl _) _).trans (below_grown HO1.out hg2 (by simp)))
           | (go_at_call 18; refine (dec_gives ho2.rd ho2.cap.1 (by have := HN.out; omega) (hT.call hb2) hde rfl rfl).mono ?_; rintro e w3 ⟨A3, l3, c3, rfl, hb3⟩; have hB3 := below_next hb2 hb3)
           | (go_at_call 17; refine (Dec.works_any _ (hT.call (hB3.alloc hB3.size _))).mono ?_; rintro e w4 ⟨rfl, hb4⟩; have hB4 := below_next (hB3.alloc hB3.size _) hb4))
          go_ret
          exact ⟨rfl, hB4⟩
        | cons y l =>
          have hn0 : (n : Int) > 0 := by have := HBN.out; simp only [List.length_cons] at this; omega
          obtain ⟨⟨v9, m9, x9⟩, hde⟩ : ∃ r, decD ([0] ++ (y :: l)) = r := ⟨_, rfl⟩
          go_wp2_with (first
           | (at_builtin; refine wpList_app8 (base := wr.heap.size) rfl _ _ rfl rfl HO1.out rfl HR1.out (by have := HN.out; omega) (by simp) ?_; intro A2 c2 w2 ho2 hg2; have hb2 : Below wr.heap.size wr w2 := ((Below.refl _ _).alloc (Nat.le_refl _) _).trans (below_grown HO1.out hg2 (by simp)))
           | (go_at_call 18; refine (dec_gives ho2.rd ho2.cap.1 (by have := HN.out; omega) (hT.call hb2) hde rfl rfl).mono ?_; rintro e w3 ⟨A3, l3, c3, rfl, hb3⟩; have hB3 := below_next hb2 hb3)
           | (go_at_call 17; refine (Dec.works_any _ (hT.call (hB3.alloc hB3.size _))).mono ?_; rintro e w4 ⟨rfl, hb4⟩; have hB4 := below_next (hB3.alloc hB3.size _) hb4))
          go_ret
          exact ⟨rfl, hB4⟩
      have hx0 : ((X : Int) == 0) = false := by simp; omega
      by_cases hk : kof X = 0
      · have hf : (decide (X = 0) || decide (kof X ≠ 0)) = false := by simp [h0, hk]
        rw [hf]
        have hde : decD ([X] ++ b) = (zeroV, 0, 6) := dec_none X b h0 hk
        clear hk h0 hf
        go_wp2_with (first
         | (at_builtin; refine wpList_app8 (base := wr.heap.size) rfl _ _ rfl rfl HO1.out rfl HR1.out (by have := HN.out; omega) (by simp) ?_; intro A2 c2 w2 ho2 hg2; have hb2 : Below wr.heap.size wr w2 := ((Below.refl _ _).alloc (Nat.le_refl _) _).trans (below_grown HO1.out hg2 (by simp)))
         | (go_at_call 18; refine (dec_gives ho2.rd ho2.cap.1 (by have := HN.out; omega) (hT.call hb2) hde rfl rfl).mono ?_; rintro e w3 ⟨A3, l3, c3, rfl, hb3⟩; have hB3 := below_next hb2 hb3)
         | (go_at_call 17; refine (Dec.works_any _ (hT.call (hB3.alloc hB3.size _))).mono ?_; rintro e w4 ⟨rfl, hb4⟩; have hB4 := below_next (hB3.alloc hB3.size _) hb4))
        go_ret
        exact ⟨rfl, hB4⟩
      have hf : (decide (X = 0) || decide (kof X ≠ 0)) = true := by simp [hk]
      rw [hf]
      clear hf
      by_cases h160 : 160 ≤ X
      · have hx160 : (X : Int) ≥ 160 := by omega
        have hsw := kof_high X HX.out h160 hk
        cases b with
        | nil =>
          obtain rfl : n = 0 := HBN.out.symm
          have hde : decD ([X] ++ []) = (zeroV, 0, 7) := dec_empty X (.inr ⟨hk, hsw⟩)
          clear hsw hk h0 h160
          go_wp2_with (first
           | (at_builtin; refine wpList_app8 (base := wr.heap.size) rfl _ _ rfl rfl HO1.out rfl HR1.out (by have := HN.out; omega) (by simp) ?_; intro A2 c2 w2 ho2 hg2; have hb2 : Below wr.heap.size wr w2 := ((Below.refl _ _).alloc (Nat.le_refl _) _).trans (below_grown HO1.out hg2 (by simp)))
           | (go_at_call 18; refine (dec_gives ho2.rd ho2.cap.1 (by have := HN.out; omega) (hT.call hb2) hde rfl rfl).mono ?_; rintro e w3 ⟨A3, l3, c3, rfl, hb3⟩; have hB3 := below_next hb2 hb3)
           | (go_at_call 17; refine (Dec.works_any _ (hT.call (hB3.alloc hB3.size _))).mono ?_; rintro e w4 ⟨rfl, hb4⟩; have hB4 := below_next (hB3.alloc hB3.size _) hb4))
          go_ret
          exact ⟨rfl, hB4⟩
        | cons y l =>
          have hn0 : (n : Int) > 0 := by have := HBN.out; simp only [List.length_cons] at this; omega
          obtain ⟨⟨v9, m9, x9⟩, hde⟩ : ∃ r, decD ([X] ++ (y :: l)) = r := ⟨_, rfl⟩
          clear hsw hk h0 h160
          go_wp2_with (first
           | (at_builtin; refine wpList_app8 (base := wr.heap.size) rfl _ _ rfl rfl HO1.out rfl HR1.out (by have := HN.out; omega) (by simp) ?_; intro A2 c2 w2 ho2 hg2; have hb2 : Below wr.heap.size wr w2 := ((Below.refl _ _).alloc (Nat.le_refl _) _).trans (below_grown HO1.out hg2 (by simp)))
           | (go_at_call 18; refine (dec_gives ho2.rd ho2.cap.1 (by have := HN.out; omega) (hT.call hb2) hde rfl rfl).mono ?_; rintro e w3 ⟨A3, l3, c3, rfl, hb3⟩; have hB3 := below_next hb2 hb3)
           | (go_at_call 17; refine (Dec.works_any _ (hT.call (hB3.alloc hB3.size _))).mono ?_; rintro e w4 ⟨rfl, hb4⟩; have hB4 := below_next (hB3.alloc hB3.size _) hb4))
          go_ret
          exact ⟨rfl, hB4⟩
      have hx160 : ¬ (X : Int) ≥ 160 := by omega
      have hL := lg_of X (by omega) hk
      obtain ⟨G, hG⟩ : ∃ G, lg X = G := ⟨_, rfl⟩
      rw [hG] at hL
      by_cases hsh : n < G
      · have hde : decD ([X] ++ b) = (zeroV, 0, 7) := dec_short X b hk (sw_low X (by omega)) (by rw [HBN.out, hG]; exact hsh)
        have hdn : (n : Int) < (G : Int) := by omega
        have hq1 : (X : Int).tdiv 16 = ((X / 16 : Nat) : Int) := Int.ofNat_tdiv X 16
        have hq2 : (X : Int) / 16 = ((X / 16 : Nat) : Int) := by omega
        obtain ⟨D, hD⟩ : ∃ D, X / 16 = D := ⟨_, rfl⟩
        rw [hD] at hL hq1 hq2
        clear hG hk h0 h160 hsh
        clear hD
        rcases hL with ⟨rfl, rfl⟩ | ⟨rfl, rfl⟩ | ⟨rfl, rfl⟩ | ⟨rfl, rfl⟩ | ⟨rfl, rfl⟩ | ⟨rfl, rfl⟩
        all_goals
          simp only [Int.cast_ofNat_Int] at *
          first
          | exact absurd hdn (by omega)
          | skip
            go_wp2_with (first
             | (at_builtin; refine wpList_app8 (base := wr.heap.size) rfl _ _ rfl rfl HO1.out rfl HR1.out (by have := HN.out; omega) (by simp) ?_; intro A2 c2 w2 ho2 hg2; have hb2 : Below wr.heap.size wr w2 := ((Below.refl _ _).alloc (Nat.le_refl _) _).trans (below_grown HO1.out hg2 (by simp)))
             | (go_at_call 18; refine (dec_gives ho2.rd ho2.cap.1 (by have := HN.out; omega) (hT.call hb2) hde rfl rfl).mono ?_; rintro e w3 ⟨A3, l3, c3, rfl, hb3⟩; have hB3 := below_next hb2 hb3)
             | (go_at_call 17; refine (Dec.works_any _ (hT.call ((hB3.alloc hB3.size _).alloc (hB3.alloc hB3.size _).size _))).mono ?_; rintro e w4 ⟨rfl, hb4⟩; have hB4 := below_next ((hB3.alloc hB3.size _).alloc (hB3.alloc hB3.size _).size _) hb4))
            go_ret
            exact ⟨rfl, hB4⟩
      have hle : G ≤ b.length := by rw [HBN.out]; omega
      have hdn : ¬ (n : Int) < (G : Int) := by omega
      have hcode := dec_code X b hk (by omega) (by rw [hG]; exact hle)
      have hoks := code_ok (c := X) (d := b.take (lg X)) (fun x hx => hr.lim x (List.mem_of_mem_take hx)) (by rw [List.length_take, hG]; omega) hk (by omega)
      rw [hG] at hcode hoks
      obtain ⟨v9, hv9⟩ : ∃ v9, codeV X (b.take G) = v9 := ⟨_, rfl⟩
      rw [hv9] at hcode hoks
      by_cases hok : okB v9 = true
      · have hde : decD ([X] ++ b) = (v9, 1 + G, 0) := by rw [if_pos hok] at hcode; exact hcode
        have hq1 : (X : Int).tdiv 16 = ((X / 16 : Nat) : Int) := Int.ofNat_tdiv X 16
        have hq2 : (X : Int) / 16 = ((X / 16 : Nat) : Int) := by omega
        obtain ⟨D, hD⟩ : ∃ D, X / 16 = D := ⟨_, rfl⟩
        rw [hD] at hL hq1 hq2
        clear hG hk h0 h160 hsh hle hcode hoks hok hv9
        clear hD
        rcases hL with ⟨rfl, rfl⟩ | ⟨rfl, rfl⟩ | ⟨rfl, rfl⟩ | ⟨rfl, rfl⟩ | ⟨rfl, rfl⟩ | ⟨rfl, rfl⟩
        all_goals
          simp only [Int.cast_ofNat_Int] at *
          go_wp2_with (first
           | (at_builtin; refine wpList_app8 (base := wr.heap.size) rfl _ _ rfl rfl HO1.out rfl HR1.out (by have := HN.out; omega) (by simp) ?_; intro A2 c2 w2 ho2 hg2; have hb2 : Below wr.heap.size wr w2 := ((Below.refl _ _).alloc (Nat.le_refl _) _).trans (below_grown HO1.out hg2 (by simp)))
           | (go_at_call 18; refine (dec_gives ho2.rd ho2.cap.1 (by have := HN.out; omega) (hT.call hb2) hde rfl rfl).mono ?_; rintro e w3 ⟨A3, l3, c3, rfl, hb3⟩; have hB3 := below_next hb2 hb3)
           | (go_at_call 17; refine (Dec.works_any _ (hT.call ((hB3.alloc hB3.size _).alloc (hB3.alloc hB3.size _).size _))).mono ?_; rintro e w4 ⟨rfl, hb4⟩; have hB4 := below_next ((hB3.alloc hB3.size _).alloc (hB3.alloc hB3.size _).size _) hb4))
          go_ret
          exact ⟨rfl, hB4⟩
      · have hde : decD ([X] ++ b) = (zeroV, 0, 6) := by rw [if_neg hok] at hcode; exact hcode
        rcases hoks with hoks | ⟨rfl, h1⟩ | rfl
        · exact absurd hoks hok
        · obtain rfl : G = 1 := hG.symm
          cases b with
          | nil => exact absurd hle (by simp)
          | cons y l =>
            have hn1 : n = l.length + 1 := HBN.out.symm
            obtain ⟨b1, o1, y1, rfl, hbl, hy, _, hcell⟩ := hr.at_ (k := 0) (by omega)
            simp only [List.getElem?_cons_zero, Option.some.injEq] at hy
            subst hy
            have hy1 : (y : Int) > 1 := by
              have e1 : tn [y] = y := by simp [tn, Dec.nb]
              have h1 : 1 < tn [y] := h1
              omega
            have hdn : ¬ (n : Int) < 1 := by omega
            have hn0 : (0 : Int) < (n : Int) := by omega
            clear hG hk h0 h160 hsh hle hcode hok hv9 hn1 h1 hL hx160 hx0
            go_wp2_with (first
             | (at_builtin; refine wpList_app8 (base := wr.heap.size) rfl _ _ rfl rfl HO1.out rfl HR1.out (by have := HN.out; omega) (by simp) ?_; intro A2 c2 w2 ho2 hg2; have hb2 : Below wr.heap.size wr w2 := ((Below.refl _ _).alloc (Nat.le_refl _) _).trans (below_grown HO1.out hg2 (by simp)))
             | (go_at_call 18; refine (dec_gives ho2.rd ho2.cap.1 (by have := HN.out; omega) (hT.call hb2) hde rfl rfl).mono ?_; rintro e w3 ⟨A3, l3, c3, rfl, hb3⟩; have hB3 := below_next hb2 hb3; have hB5 := (hB3.alloc hB3.size (.cells #[.int .u8 (zeroV.kind : Int), .int .u64 (zeroV.num : Int), .string zeroV.text, .slice A3 l3 c3] 25)).alloc (hB3.alloc hB3.size (.cells #[.int .u8 (zeroV.kind : Int), .int .u64 (zeroV.num : Int), .string zeroV.text, .slice A3 l3 c3] 25)).size (.cells #[.int .i64 0, .int .i64 1, .int .i64 2, .int .i64 4, .int .i64 8, .int .i64 16] 3); have hc5 := (hB5.cell (p := ⟨b1, o1 + 0, none⟩) hbl).trans hcell; rw [Nat.add_zero] at hc5)
             | (go_at_call 17; refine (Dec.works_any _ (hT.call ((hB3.alloc hB3.size _).alloc (hB3.alloc hB3.size _).size _))).mono ?_; rintro e w4 ⟨rfl, hb4⟩; have hB4 := below_next ((hB3.alloc hB3.size _).alloc (hB3.alloc hB3.size _).size _) hb4))
            go_ret
            exact ⟨rfl, hB4⟩
        · obtain rfl : G = 4 := hG.symm
          have hdn : ¬ (n : Int) < 4 := by omega
          clear hG hk h0 h160 hsh hle hcode hok hv9 hL hx160 hx0
          go_wp2_with (first
           | (at_builtin; refine wpList_app8 (base := wr.heap.size) rfl _ _ rfl rfl HO1.out rfl HR1.out (by have := HN.out; omega) (by simp) ?_; intro A2 c2 w2 ho2 hg2; have hb2 : Below wr.heap.size wr w2 := ((Below.refl _ _).alloc (Nat.le_refl _) _).trans (below_grown HO1.out hg2 (by simp)))
           | (go_at_call 18; refine (dec_gives ho2.rd ho2.cap.1 (by have := HN.out; omega) (hT.call hb2) hde rfl rfl).mono ?_; rintro e w3 ⟨A3, l3, c3, rfl, hb3⟩; have hB3 := below_next hb2 hb3)
           | (go_at_call 17; refine (Dec.works_any _ (hT.call ((hB3.alloc hB3.size _).alloc (hB3.alloc hB3.size _).size _))).mono ?_; rintro e w4 ⟨rfl, hb4⟩; have hB4 := below_next ((hB3.alloc hB3.size _).alloc (hB3.alloc hB3.size _).size _) hb4))
          go_ret
          exact ⟨rfl, hB4⟩
end Go.Proofs.YtikjnbognjicdaaDoor.decodeCodes
