/-
  The walk of the statement EncodeNumbers. Condition: the table utf.shapes lies as the program's text lays it.
-/
import Derived.Test.YtophlpkbpjhhjaaDoorBeg
import Derived.Deep.CutRange
import Derived.Deep.CutBlock
namespace Go.Proofs.YtophlpkbpjhhjaaDoor.encodeNumbers
set_option maxRecDepth 100000
open Go.RowKit Go.Proofs.YtophlpkbpjhhjaaDoor.Utf Go.Proofs.YtophlpkbpjhhjaaDoor.Val Go.Proofs.YtophlpkbpjhhjaaDoor.Enc V

/-- How many bytes a number of a kind has that needs all of them. -/
def baseN : Nat → Nat
  | 3 => 1
  | 4 => 2
  | 5 => 4
  | 6 => 8
  | 7 => 1
  | 8 => 2
  | 9 => 4
  | 10 => 8
  | 11 => 4
  | 12 => 8
  | 13 => 4
  | 14 => 8
  | _ => 0
def sizeN (k n : Nat) : Nat := if (k = 5 ∨ k = 6) ∧ n = 0 then 0 else if ((k = 5 ∨ k = 6) ∧ n < 256) ∨ ((k = 9 ∨ k = 10) ∧ (n < 128 ∨ 18446744073709551488 ≤ n)) then 1 else baseN k
theorem near_iff {n : Nat} (hn : n < 18446744073709551616) : n = sg1 n ↔ (n < 128 ∨ 18446744073709551488 ≤ n) := by
  unfold sg1
  split <;> omega
theorem num_lay {k n : Nat} (h : 3 ≤ k ∧ k ≤ 14) (hn : n < 18446744073709551616) : ∃ c, lay (plan (.mk k n ⟨#[]⟩ [])) = c :: be n (sizeN k n) := by
  have hd : ∀ c, dat c (.mk k n ⟨#[]⟩ []) = be n (wid c) := fun c => by
    simp only [dat, dlay]
    rw [if_pos (show k < 15 by omega)]
    split
    · rename_i h0; rw [h0]; rfl
    · rfl
  refine ⟨pick (chs k) [rawv (.mk k n ⟨#[]⟩ [])], ?_⟩
  rw [lay_core (show k ≠ 25 by omega), hd]
  suffices hx : wid (pick (chs k) [rawv (.mk k n ⟨#[]⟩ [])]) = sizeN k n by rw [hx]
  have hne := near_iff hn
  have : k = 3 ∨ k = 4 ∨ k = 5 ∨ k = 6 ∨ k = 7 ∨ k = 8 ∨ k = 9 ∨ k = 10 ∨ k = 11 ∨ k = 12 ∨ k = 13 ∨ k = 14 := by omega
  rcases this with rfl | rfl | rfl | rfl | rfl | rfl | rfl | rfl | rfl | rfl | rfl | rfl <;>
    simp only [chs, pick, List.all_cons, List.all_nil, Bool.and_true, can, decide_eq_true_eq] <;> simp only [rawv, raw, Pl.num, sizeN, baseN] <;>
    first | rfl | (by_cases h1 : n = 0 <;> by_cases h2 : n < 256 <;> (try have h3 : n ≤ 255 := by omega) <;> (try have h3 : ¬ n ≤ 255 := by omega) <;> simp [h1, h2, h3, wid] <;> omega) | (by_cases h3 : n < 128 ∨ 18446744073709551488 ≤ n <;> simp [hne, h3, wid])
theorem be_at (X : Nat) : ∀ (S i : Nat), i < S → (be X S)[i]? = some (X / 256 ^ (S - 1 - i) % 256)
  | 0, i, h => by omega
  | S + 1, 0, _ => by simp [be]
  | S + 1, i + 1, h => by
    rw [be, List.getElem?_cons_succ, be_at X S i (by omega)]
    congr 4
    omega

set_option maxHeartbeats 1000000 in
theorem out_of (k n : Nat) (w : World) (ht : Tab w) (hr : ¬ (3 ≤ k ∧ k ≤ 14)) : Calls Tryd.prog 5 #[.int .u8 k, .int .u64 n] w (Val.GivesB true w) := by
  by_cases h3 : k < 3
  · have d3 : decide ((k : Int) < 3) = true := by simp; omega
    clear h3 hr
    go_enter Tryd.func5, Tryd.ntmps5
    go_wp2_with (first
      | (go_at_call 20; (with_reducible refine (number_any k n w).mono ?_); rintro e w1 ⟨rfl, hb1⟩; have hB1 := hb1.alloc hb1.size (.cells #[.int .u8 (k : Int), .int .u64 (n : Int), .string ⟨#[]⟩, .slice none 0 0] 25))
      | (go_at_call 10; (with_reducible refine (works_any _ (ht.call hB1)).mono ?_); rintro e w2 ⟨rfl, hb2⟩))
    go_ret
    exact ⟨rfl, below_next hB1 hb2⟩
  · have d3 : decide ((k : Int) < 3) = false := by simp; omega
    have d14 : decide ((14 : Int) < (k : Int)) = true := by simp; omega
    clear h3 hr
    go_enter Tryd.func5, Tryd.ntmps5
    go_wp2_with (first
      | (go_at_call 20; (with_reducible refine (number_any k n w).mono ?_); rintro e w1 ⟨rfl, hb1⟩; have hB1 := hb1.alloc hb1.size (.cells #[.int .u8 (k : Int), .int .u64 (n : Int), .string ⟨#[]⟩, .slice none 0 0] 25))
      | (go_at_call 10; (with_reducible refine (works_any _ (ht.call hB1)).mono ?_); rintro e w2 ⟨rfl, hb2⟩))
    go_ret
    exact ⟨rfl, below_next hB1 hb2⟩
set_option maxHeartbeats 1000000 in
theorem not_ok (k n : Nat) (w : World) (ht : Tab w) (hn : n < 18446744073709551616) (hr : 3 ≤ k ∧ k ≤ 14) (hok : okB (.mk k n ⟨#[]⟩ []) = false) : Calls Tryd.prog 5 #[.int .u8 k, .int .u64 n] w (Val.GivesB true w) := by
  have d3 : decide ((k : Int) < 3) = false := by simp; omega
  have d14 : decide ((14 : Int) < (k : Int)) = false := by simp; omega
  have HOK := Lib.hid hok
  clear hr hok
  go_enter Tryd.func5, Tryd.ntmps5
  go_wp2_with (first
    | (go_at_call 20; (with_reducible refine (number_any k n w).mono ?_); rintro e w1 ⟨rfl, hb1⟩; have hB1 := hb1.alloc hb1.size (.cells #[.int .u8 (k : Int), .int .u64 (n : Int), .string ⟨#[]⟩, .slice none 0 0] 25); have hbx := Box.new w1 (.int .u8 (k : Int)) (.int .u64 (n : Int)) (.string ⟨#[]⟩) (.slice none 0 0); obtain ⟨z0, z1, z2, z3, _⟩ := hbx.all)
    | (go_at_call 17; (with_reducible refine (vright_any k n ⟨#[]⟩ [] none 0 0 _ (by decide) (by decide) hn (Kd.none_ _ _ _) (ht.call hB1)).mono ?_); rw [HOK.out]; rintro e w2 ⟨rfl, hb2⟩)
    | (go_at_call 10; (with_reducible refine (works_any _ (ht.call (below_next hB1 hb2))).mono ?_); rintro e w3 ⟨rfl, hb3⟩))
  go_ret
  exact ⟨rfl, below_next (below_next hB1 hb2) hb3⟩

set_option maxHeartbeats 4000000 in
theorem yes_ok (k n : Nat) (w : World) (ht : Tab w) (hn : n < 18446744073709551616) (hr : 3 ≤ k ∧ k ≤ 14) (hok : okB (.mk k n ⟨#[]⟩ []) = true) : Calls Tryd.prog 5 #[.int .u8 k, .int .u64 n] w (Val.GivesB true w) := by
  have d3 : decide ((k : Int) < 3) = false := by simp; omega
  have d14 : decide ((14 : Int) < (k : Int)) = false := by simp; omega
  have HOK := Lib.hid hok
  have HR := Lib.hid hr
  obtain ⟨C, hC⟩ := num_lay hr hn
  have HC := Lib.hid hC
  have hk256 : k < 256 := by omega
  clear hr hok hC
  go_enter Tryd.func5, Tryd.ntmps5
  go_upto_region 7 with (first
    | (go_at_call 20; (with_reducible refine (number_any k n w).mono ?_); rintro e w1 ⟨rfl, hb1⟩; have hB1 := hb1.alloc hb1.size (.cells #[.int .u8 (k : Int), .int .u64 (n : Int), .string ⟨#[]⟩, .slice none 0 0] 25); have hbx := Box.new w1 (.int .u8 (k : Int)) (.int .u64 (n : Int)) (.string ⟨#[]⟩) (.slice none 0 0); obtain ⟨z0, z1, z2, z3, _⟩ := hbx.all)
    | (go_at_call 17; (with_reducible refine (vright_any k n ⟨#[]⟩ [] none 0 0 _ (by decide) (by decide) hn (Kd.none_ _ _ _) (ht.call hB1)).mono ?_); rw [HOK.out]; rintro e w2 ⟨rfl, hb2⟩; have hB2 := below_next hB1 hb2; obtain ⟨y0, y1, y2, y3, _⟩ := (hbx.call hb2).all)
    | (go_at_call 12; (with_reducible refine (encv_yes k n ⟨#[]⟩ [] none 0 0 w2 HOK.out (by simp [bulk, bulkL, ByteArray.size]) hk256 hn (Kd.none_ _ _ _) (ht.call hB2)).mono ?_); rintro e w3 ⟨A3, m3, c3, rfl, ho3, hb3⟩; have hB3 := below_next hB2 hb3; rw [HC.out] at ho3; have hl3 := ho3.len; simp only [List.length_cons, be_length] at hl3; have hm3n : 0 < m3 := (by omega); have hm3 : ((m3 : Int) == 0) = false := (by rw [beq_eq_false_iff_ne]; omega); have HL3 := Lib.hid hl3; have HO3 := Lib.hid ho3; clear hl3 ho3))
  obtain ⟨W3, hW3⟩ : ∃ W3, w3 = W3 := ⟨_, rfl⟩
  subst hW3
  go_cut [8] from 38 to 42 (fun s wx => s = .int .i64 (baseN k : Int) ∧ wx = w3.alloc (.cells #[.int .i64 1, .int .i64 2, .int .i64 4, .int .i64 8, .int .i64 1, .int .i64 2, .int .i64 4, .int .i64 8, .int .i64 4, .int .i64 8, .int .i64 4, .int .i64 8] 3))
  case first =>
    have hr := HR.out
    have : k = 3 ∨ k = 4 ∨ k = 5 ∨ k = 6 ∨ k = 7 ∨ k = 8 ∨ k = 9 ∨ k = 10 ∨ k = 11 ∨ k = 12 ∨ k = 13 ∨ k = 14 := by omega
    clear hr HR HC HOK HL3 HO3 hbx z0 z1 z2 z3 y0 y1 y2 y3 d3 d14
    rcases this with rfl | rfl | rfl | rfl | rfl | rfl | rfl | rfl | rfl | rfl | rfl | rfl <;> (go_wp2_with fail; go_meet; exact ⟨rfl, rfl⟩)
  case rest =>
    obtain ⟨rfl, rfl⟩ := hcut
    obtain ⟨sm, hsm⟩ : ∃ sm : Bool, decide (n < 128 ∨ 18446744073709551488 ≤ n) = sm := ⟨_, rfl⟩
    have HSM := Lib.hid hsm
    obtain ⟨W4, hW4⟩ : ∃ W4, w3.alloc (.cells #[.int .i64 1, .int .i64 2, .int .i64 4, .int .i64 8, .int .i64 1, .int .i64 2, .int .i64 4, .int .i64 8, .int .i64 4, .int .i64 8, .int .i64 4, .int .i64 8] 3) = W4 := ⟨_, rfl⟩
    have hB4 : Below w.heap.size w W4 := hW4 ▸ hB3.alloc hB3.size _
    have hr4 : Rd .u8 256 W4 W4.heap.size A3 m3 (C :: be n (sizeN k n)) := (HO3.out.rd).call (hW4 ▸ (Below.refl _ _).alloc (Nat.le_refl _) _)
    rw [hW4]
    have HR4 := Lib.hid hr4
    have HB4 := Lib.hid hB4
    clear hW4 hsm hr4 hB4 HO3 hB3 hB2 hB1 hbx z0 z1 z2 z3 y0 y1 y2 y3 hb1 hb2 hb3
    go_upto_region 8 with fail
    go_cut [9] from 43 to 50 (fun s wx => s = .bool sm ∧ wx = W4)
    case first =>
      clear HR4 HB4 HL3 HC HR HOK
      have hs := HSM.out
      clear HSM
      by_cases h1 : n < 9223372036854775808
      · have hw : wrap64 (n : Int) = (n : Int) := by unfold wrap64; omega
        have c1 : decide ((-128 : Int) ≤ (n : Int)) = true := decide_eq_true (by omega)
        by_cases h2 : n < 128
        · have c2 : decide ((n : Int) < 128) = true := decide_eq_true (by omega)
          have hsm : sm = true := by rw [← hs]; exact decide_eq_true (by omega)
          subst hsm
          clear h1 h2 hs hn
          go_wp2_with fail
          go_meet
          exact ⟨rfl, rfl⟩
        · have c2 : decide ((n : Int) < 128) = false := decide_eq_false (by omega)
          have hsm : sm = false := by rw [← hs]; exact decide_eq_false (by omega)
          subst hsm
          clear h1 h2 hs hn
          go_wp2_with fail
          go_meet
          exact ⟨rfl, rfl⟩
      · obtain ⟨X, hX⟩ : ∃ X : Int, X = (n : Int) - 18446744073709551616 := ⟨_, rfl⟩
        have hw : wrap64 (n : Int) = X := by unfold wrap64; omega
        have c2 : decide (X < 128) = true := decide_eq_true (by omega)
        by_cases h2 : 18446744073709551488 ≤ n
        · have c1 : decide ((-128 : Int) ≤ X) = true := decide_eq_true (by omega)
          have hsm : sm = true := by rw [← hs]; exact decide_eq_true (by omega)
          subst hsm
          clear h1 h2 hs hn hX
          go_wp2_with fail
          go_meet
          exact ⟨rfl, rfl⟩
        · have c1 : decide ((-128 : Int) ≤ X) = false := decide_eq_false (by omega)
          have hsm : sm = false := by rw [← hs]; exact decide_eq_false (by omega)
          subst hsm
          clear h1 h2 hs hn hX
          go_wp2_with fail
          go_meet
          exact ⟨rfl, rfl⟩
    case rest =>
      obtain ⟨rfl, rfl⟩ := hcut
      rename World => W4
      obtain ⟨S, hS⟩ : ∃ S, sizeN k n = S := ⟨_, rfl⟩
      have HS := Lib.hid hS
      rw [hS] at HL3 HR4
      clear hS
      go_upto_block 0 with fail
      go_cut [8] from 51 to 83 (fun s wx => s = .int .i64 (S : Int) ∧ wx = W4)
      case first =>
        have hr := HR.out
        have hS := HS.out
        have hs := HSM.out
        have : k = 3 ∨ k = 4 ∨ k = 5 ∨ k = 6 ∨ k = 7 ∨ k = 8 ∨ k = 9 ∨ k = 10 ∨ k = 11 ∨ k = 12 ∨ k = 13 ∨ k = 14 := by omega
        clear hr HR HC HOK HL3 HR4 HB4 d3 d14 HS HSM hm3 hm3n
        rcases this with rfl | rfl | rfl | rfl | rfl | rfl | rfl | rfl | rfl | rfl | rfl | rfl
        any_goals
          obtain rfl : S = _ := (show S = baseN _ from by rw [← hS]; unfold sizeN; rw [if_neg (by omega), if_neg (by omega)])
          clear hS hs hn
          go_wp2_with fail
          go_meet
          exact ⟨rfl, rfl⟩
        iterate 2
          by_cases h0 : n = 0
          · have e0 : ((n : Int) == 0) = true := by rw [beq_iff_eq]; omega
            obtain rfl : S = 0 := by rw [← hS, sizeN, if_pos (by omega)]
            clear hS hs hn h0
            go_wp2_with fail
            go_meet
            exact ⟨rfl, rfl⟩
          · have e0 : ((n : Int) == 0) = false := by rw [beq_eq_false_iff_ne]; omega
            by_cases h1 : n < 256
            · have e1 : decide ((n : Int) < 256) = true := decide_eq_true (by omega)
              obtain rfl : S = 1 := by rw [← hS, sizeN, if_neg (by omega), if_pos (by omega)]
              clear hS hs hn h0 h1
              go_wp2_with fail
              go_meet
              exact ⟨rfl, rfl⟩
            · have e1 : decide ((n : Int) < 256) = false := decide_eq_false (by omega)
              obtain rfl : S = baseN _ := (show S = baseN _ from by rw [← hS]; unfold sizeN; rw [if_neg (by omega), if_neg (by omega)])
              clear hS hs hn h0 h1
              go_wp2_with fail
              go_meet
              exact ⟨rfl, rfl⟩
        iterate 2
          cases sm with
          | true =>
            have h1 := of_decide_eq_true hs
            obtain rfl : S = 1 := by rw [← hS, sizeN, if_neg (by omega), if_pos (by omega)]
            clear hS hs hn h1
            go_wp2_with fail
            go_meet
            exact ⟨rfl, rfl⟩
          | false =>
            have h1 := of_decide_eq_false hs
            obtain rfl : S = baseN _ := (show S = baseN _ from by rw [← hS]; unfold sizeN; rw [if_neg (by omega), if_neg (by omega)])
            clear hS hs hn h1
            go_wp2_with fail
            go_meet
            exact ⟨rfl, rfl⟩
      case rest =>
        obtain ⟨rfl, rfl⟩ := hcut
        have hS8 : S ≤ 8 := by
          have hr := HR.out
          have : k = 3 ∨ k = 4 ∨ k = 5 ∨ k = 6 ∨ k = 7 ∨ k = 8 ∨ k = 9 ∨ k = 10 ∨ k = 11 ∨ k = 12 ∨ k = 13 ∨ k = 14 := by omega
          rw [← HS.out]
          unfold sizeN
          split
          · omega
          · split
            · omega
            · rcases this with rfl | rfl | rfl | rfl | rfl | rfl | rfl | rfl | rfl | rfl | rfl | rfl <;> simp [baseN]
        rename World => W4
        obtain rfl : m3 = S + 1 := HL3.out.symm
        clear HL3 HS HSM HR HOK HC d3 d14 hm3 hm3n
        go_wp2_with fail
        go_loopw [10] (fun i wr => ∃ j : Nat, j ≤ S ∧ i = .int .i64 (j : Nat) ∧ wr = W4) (fun i _ => S - (intOf i).toNat)
        case atStart => exact ⟨0, Nat.zero_le _, rfl, rfl⟩
        case round =>
          obtain ⟨j, hj, rfl, rfl⟩ := hrel
          by_cases hlt : j < S
          · obtain ⟨q, hq⟩ : ∃ q : Nat, q + j = S := ⟨S - j, by omega⟩
            obtain ⟨b, o, x, rfl, hb, hx, hx2, hc⟩ := HR4.out.at_ (k := q) (by omega)
            obtain ⟨bv, hbv⟩ : ∃ bv : Nat, n / 256 ^ j % 256 = bv := ⟨_, rfl⟩
            have hxe : x = bv := by
              obtain ⟨q', rfl⟩ : ∃ q', q = q' + 1 := ⟨q - 1, by omega⟩
              rw [List.getElem?_cons_succ, be_at n S q' (by omega)] at hx
              rw [← hbv, ← Option.some.inj hx]
              congr 3
              omega
            subst hxe
            have hsb := shr_byte n j
            rw [hbv] at hsb
            have hq2 : q ≤ S := by omega
            have hidx : (S : Int) - (j : Int) = (q : Int) := by omega
            clear hbv hx hq hx2
            go_wp2_with fail
            go_roundw
            case rel => exact ⟨j + 1, by omega, by go_num, trivial⟩
            case measure => simp [intOf]; omega
          · go_wp2_with (go_at_call 10; (with_reducible refine (works_any _ (ht.call HB4.out)).mono ?_); rintro e w5 ⟨rfl, hb5⟩)
            go_ret
            exact ⟨rfl, below_next HB4.out hb5⟩
theorem walk (k n : Nat) (w : World) (ht : Tab w) (_ : k < 256) (hn : n < 18446744073709551616) : Calls Tryd.prog 5 #[.int .u8 k, .int .u64 n] w (Val.GivesB true w) := by
  by_cases hr : 3 ≤ k ∧ k ≤ 14
  · cases hok : okB (.mk k n ⟨#[]⟩ []) with
    | false => exact not_ok k n w ht hn hr hok
    | true => exact yes_ok k n w ht hn hr hok
  · exact out_of k n w ht hr
end Go.Proofs.YtophlpkbpjhhjaaDoor.encodeNumbers
