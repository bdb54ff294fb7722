/-
  The statement TableFull, walked: it answers true. Memory that was there stays. Condition: a slice of less than 2^63 bytes.
-/
import Derived.Test.YtnbofokdhkoglaaTbw
namespace Go.Proofs.Ytnbofokdhkoglaa.tableFull
set_option maxRecDepth 100000
open Go.RowKit Go.Proofs.Ytnbofokdhkoglaa.Utf Go.Proofs.Ytnbofokdhkoglaa.Tb

section
variable {p b : Nat} {L : List Bool}
theorem take_is {j : Nat} (w : World) (t : Tin w p b L) (h : lowT L = j) (hj : j < L.length) : Calls Try.prog 20 #[.pointer (some ⟨p, 0, none⟩)] w (GivesRow p b (L.set j true) (.tuple #[.int .i64 (j : Int), .bool true]) w) := by
  subst h
  exact take_at w t (by simp [rowT, hj]) (by simp [TakeV, numT, isT, hj])
theorem take_not (w : World) (t : Tin w p b L) (h : lowT L = L.length) : Calls Try.prog 20 #[.pointer (some ⟨p, 0, none⟩)] w (GivesRow p b L (.tuple #[.int .i64 0, .bool false]) w) :=
  take_at w t (by simp [rowT, h]) (by simp [TakeV, numT, isT, h])
end
set_option maxHeartbeats 2000000 in
theorem walk (n : Nat) (A : Option Addr) (l c : Nat) (f : List Nat) (w : World) (hn : n < 256) (hr : Rd .u8 256 w w.heap.size A l f) (hc : l ≤ 9223372036854775807) :
    Calls Try.prog 5 #[.int .u8 (n : Int), .slice A l c] w fun e w' => e = .returned (.bool true) ∧ Below w.heap.size w w' := by
  have HR := Lib.hid hr
  have HN := Lib.hid (fun wx => new_yes n wx (by omega))
  by_cases hbig : 300 < l
  · have d1 : decide (300 < (l : Int)) = true := by simp; omega
    clear hr
    go_enter Try.func5, Try.ntmps5
    go_wp2_with (first
      | (go_at_call 9; (with_reducible refine (HN.out _).mono ?_); rintro e w1 ⟨p, b, rfl, t1, hp, hq, hb1⟩)
      | (go_at_call 8; (with_reducible refine (works13_any _).mono ?_); rintro e w2 ⟨rfl, hb2⟩)
      | fail)
    go_ret
    exact ⟨rfl, bn hb1 hb2⟩
  · have d1 : decide (300 < (l : Int)) = false := by simp; omega
    clear hr
    go_enter Try.func5, Try.ntmps5
    go_wp2_with (first
      | (go_at_call 9; (with_reducible refine (HN.out _).mono ?_); rintro e w1 ⟨p, b, rfl, t1, hp, hq, hb1⟩; have HT1 := Lib.hid t1; have HB1 := Lib.hid (And.intro hp (And.intro hq hb1)); clear t1 hp hq hb1)
      | fail)
    go_loopw [7, 8, 9] (fun i _ _ wr => ∃ (j : Nat) (L : List Bool), j ≤ n + 1 ∧ i = .int .i64 (j : Int) ∧ L.length = n + 1 ∧ (∀ x : Nat, hasT L (x : Int) = decide (x < j)) ∧ Tin wr p b L ∧ Off (Xp p b) w1 wr) (fun i _ _ _ => n + 1 - (Go.RowKit.intOf i).toNat)
    case atStart => exact ⟨0, noneT n, by omega, rfl, by simp [noneT], fun x => by rw [has_none]; simp, HT1.out, Off.refl _ _⟩
    case round =>
      obtain ⟨j, L, hj, rfl, hL, hh, t, ho⟩ := hrel
      have hlow : lowT L = j := low_is (fun i hi => by rw [hh]; simpa using hi) (by rw [hh]; simp)
      have HT := Lib.hid t
      have HO := Lib.hid ho
      have HH := Lib.hid hh
      have HL := Lib.hid hL
      by_cases hlt : j ≤ n
      · have d2 : decide ((j : Int) ≤ (n : Int)) = true := by simpa using hlt
        have HK := Lib.hid (take_is wr t hlow (by omega))
        clear t ho hh hL hlow
        go_wp2_with (first
          | (go_at_call 20; (with_reducible refine HK.out.mono ?_); rintro e w2 ⟨rfl, t2, o2⟩)
          | fail)
        go_roundw
        case rel =>
          have hL := HL.out
          refine ⟨j + 1, L.set j true, by omega, by go_num, by rw [List.length_set]; exact hL, fun x => ?_, t2, HO.out.trans o2⟩
          rw [hasT_set (by omega), HH.out x]
          by_cases hx : x = j
          · subst hx; simp
          · rw [if_neg (by omega)]
            have : (x < j + 1) = (x < j) := by simp; omega
            simp only [this]
        case measure => simp [Go.RowKit.intOf]; omega
      · obtain rfl : j = n + 1 := by omega
        have d2 : decide (((n + 1 : Nat) : Int) ≤ (n : Int)) = false := by simp; omega
        have HC := Lib.hid (all_full (L := L) (by omega))
        have HK := Lib.hid (take_not wr t (by omega))
        clear t ho hh hlow hlt
        go_wp2_with (first
          | (go_at_call 20; (with_reducible refine HK.out.mono ?_); rintro e w2 ⟨rfl, t2, o2⟩; have HT2 := Lib.hid t2; have HO2 := Lib.hid (HO.out.trans o2); clear t2 o2)
          | fail)
        go_loopw [12, 13] (fun m i wr => ∃ (j many : Nat) (M : List Bool), j ≤ l ∧ many ≤ j ∧ m = .int .i64 (many : Int) ∧ i = .int .i64 (j : Int) ∧ M.length = n + 1 ∧ (allT M).length + many = n + 1 ∧ Tin wr p b M ∧ Off (Xp p b) w1 wr) (fun _ i _ => l - (Go.RowKit.intOf i).toNat)
        case atStart => exact ⟨0, 0, L, by omega, by omega, rfl, rfl, HL.out, by rw [HC.out, HL.out], HT2.out, HO2.out⟩
        case round =>
          obtain ⟨k, many, M, hk, hmk, rfl, rfl, hM, hC, t3, ho3⟩ := hrel
          have hbw : Below w.heap.size w wr := new_off HB1.out.2.2 HB1.out.1 HB1.out.2.1 ho3
          have HO3 := Lib.hid ho3
          have HT3 := Lib.hid t3
          have HM := Lib.hid hM
          have HCt := Lib.hid hC
          by_cases hlt : k < l
          · have d3 : decide ((k : Int) < (l : Int)) = true := by simpa using hlt
            have hr := HR.out
            obtain ⟨fb, fo, rfl, hfb, hcl⟩ := hr.2.2 (by omega)
            have hkf : k < f.length := by rw [hr.1]; exact hlt
            have hxl := hr.2.1 _ (List.getElem_mem hkf)
            have x0 := (hbw.cell (p := ⟨fb, fo + k, none⟩) hfb).trans (hcl k hkf)
            obtain ⟨x, hx⟩ : ∃ x, f[k] = x := ⟨_, rfl⟩
            rw [hx] at x0 hxl
            have hwf : (Lit.int .i64 (x : Int)).wf = true := by simp [Lit.wf, IntKind.min, IntKind.max, IntKind.signed, IntKind.bits]; omega
            have i0 : (0 : Int) ≤ (k : Int) := by omega
            have i1 : (k : Int) < (l : Int) := by omega
            have HX := Lib.hid hxl
            cases hh3 : hasT M (x : Int)
            · have HF := Lib.hid (free_no (x : Int) wr t3 hwf hh3)
              clear hr hcl hkf hx hwf hh3 t3 ho3 hbw hM hC hlt
              go_wp2_with (first
                | (go_at_call 21; (with_reducible refine HF.out.mono ?_); rintro e w3 ⟨rfl, hb3⟩)
                | fail)
              go_roundw
              case rel => exact ⟨k + 1, many, M, by omega, by omega, rfl, by go_num, HM.out, HCt.out, HT3.out.call hb3, HO3.out.next hb3⟩
              case measure => simp [Go.RowKit.intOf]; omega
            · have hin := (hasT_in hh3).2
              have HF := Lib.hid (free_yes wr t3 (by omega) hh3)
              have HS := Lib.hid (all_set_false (L := M) (i := x) (by omega) hh3)
              clear hr hcl hkf hx hwf hh3 t3 ho3 hbw hM hC hlt hin
              go_wp2_with (first
                | (go_at_call 21; (with_reducible refine HF.out.mono ?_); rintro e w3 ⟨rfl, t3, o3⟩)
                | fail)
              go_roundw
              case rel =>
                have h1 := HS.out
                have h2 := HCt.out
                exact ⟨k + 1, many + 1, M.set x false, by omega, by omega, by go_num, by go_num, by rw [List.length_set]; exact HM.out, by omega, t3, HO3.out.trans o3⟩
              case measure => simp [Go.RowKit.intOf]; omega
          · obtain rfl : k = l := by omega
            have d3 : decide ((k : Int) < (k : Int)) = false := by simp
            clear t3 ho3 hbw hM hC hlt
            go_wp2_with fail
            go_loopw [14, 15, 16, 17] (fun last i _ _ wr => ∃ (j : Nat) (q : Int) (M : List Bool), j ≤ many ∧ -1 ≤ q ∧ last = .int .i64 q ∧ i = .int .i64 (j : Int) ∧ M.length = n + 1 ∧ (allT M).length + many = n + 1 + j ∧ (∀ x : Nat, (x : Int) ≤ q → hasT M (x : Int) = true) ∧ Tin wr p b M ∧ Off (Xp p b) w1 wr) (fun _ i _ _ _ => many - (Go.RowKit.intOf i).toNat)
            case atStart => exact ⟨0, -1, M, by omega, by omega, rfl, rfl, HM.out, HCt.out, fun x hx => by omega, HT3.out, HO3.out⟩
            case round =>
              obtain ⟨j, q, M2, hj2, hq2, rfl, rfl, hM2, hC2, hh2, t4, ho4⟩ := hrel
              have HM2 := Lib.hid hM2
              have HC2 := Lib.hid hC2
              have HH2 := Lib.hid hh2
              have HO4 := Lib.hid ho4
              by_cases hlt : j < many
              · have d4 : decide ((j : Int) < (many : Int)) = true := by simpa using hlt
                have hlow := low_of_count (L := M2) (by omega)
                obtain ⟨r, hr0⟩ : ∃ r, lowT M2 = r := ⟨_, rfl⟩
                rw [hr0] at hlow
                have hgt : q < (r : Int) := by
                  rcases Int.lt_or_le q (r : Int) with h | h
                  · exact h
                  · have h1 := hh2 r h
                    have h2 := low_not (L := M2)
                    rw [hr0, h1] at h2
                    cases h2
                have d5 : decide ((r : Int) ≤ q) = false := by simp; omega
                have HK := Lib.hid (take_is wr t4 hr0 hlow)
                have HR0 := Lib.hid hr0
                have HLo := Lib.hid hlow
                clear t4 ho4 hh2 hM2 hC2 hlow hgt hr0
                go_wp2_with (first
                  | (go_at_call 20; (with_reducible refine HK.out.mono ?_); rintro e w4 ⟨rfl, t5, o5⟩)
                  | fail)
                go_roundw
                case rel =>
                  have h1 := all_set_true (L := M2) (i := r) HLo.out (by have := low_not (L := M2); rwa [HR0.out] at this)
                  have h2 := HC2.out
                  refine ⟨j + 1, r, M2.set r true, by omega, by omega, rfl, by go_num, by rw [List.length_set]; exact HM2.out, by omega, fun x hx => ?_, t5, HO4.out.trans o5⟩
                  rw [hasT_set HLo.out]
                  by_cases hxr : (x : Int) = (r : Int)
                  · rw [if_pos hxr]
                  · rw [if_neg hxr]
                    exact low_has (by rw [HR0.out]; omega)
                case measure => simp [Go.RowKit.intOf]; omega
              · obtain rfl : j = many := by omega
                have d4 : decide ((j : Int) < (j : Int)) = false := by simp
                have hfull := full_of_count (L := M2) (by omega)
                have HK := Lib.hid (take_not wr t4 hfull)
                have hN : (allT M2).length = n + 1 := by omega
                have HCn := Lib.hid (fun wx (tx : Tin wx p b M2) => by have := tcount_any wx tx; rw [hN] at this; exact this)
                have hi64 : IntKind.i64.wrap ((n : Int) + 1) = ((n + 1 : Nat) : Int) := by rw [show (n : Int) + 1 = ((n + 1 : Nat) : Int) by simp]; exact IntWalk.i64_in _ (by omega)
                clear t4 ho4 hh2 hM2 hC2 hlt hfull hN
                go_wp2_with (first
                  | (go_at_call 20; (with_reducible refine HK.out.mono ?_); rintro e w4 ⟨rfl, t5, o5⟩)
                  | (go_at_call 18; (with_reducible refine (HCn.out _ t5).mono ?_); rintro e w5 ⟨rfl, rfl⟩)
                  | (go_at_call 8; (with_reducible refine (works13_any _).mono ?_); rintro e w6 ⟨rfl, hb6⟩)
                  | fail)
                go_ret
                exact ⟨rfl, new_off HB1.out.2.2 HB1.out.1 HB1.out.2.1 ((HO4.out.trans o5).next hb6)⟩
end Go.Proofs.Ytnbofokdhkoglaa.tableFull
