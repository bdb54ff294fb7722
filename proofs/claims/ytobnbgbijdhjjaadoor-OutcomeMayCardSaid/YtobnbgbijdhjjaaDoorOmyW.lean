/-
  The walk of the statement OutcomeMay: just such outcomes may be as have what their kind has. Condition, as the card has it: the table utf.shapes lies as the program's text lays it.
-/
import Derived.Test.YtobnbgbijdhjjaaDoorOci
namespace Go.Proofs.YtobnbgbijdhjjaaDoor.outcomeMay
set_option maxRecDepth 100000
open Go.RowKit Go.Proofs.YtobnbgbijdhjjaaDoor.Utf Go.Proofs.YtobnbgbijdhjjaaDoor.Val Go.Proofs.YtobnbgbijdhjjaaDoor.Fl Go.Proofs.YtobnbgbijdhjjaaDoor.Oc V

theorem idx_str (s : ByteArray) (j : Nat) (b : UInt8) (h : s[j]? = some b) (W : World) : (Instr.index 9 (.string s) (.int .i64 (j : Int))).run Tryd.prog W = .ok (.int .u8 b.toNat) W := by
  have e : (Instr.index 9 (.string s) (.int .i64 (j : Int))).run Tryd.prog W = (match (if 0 ≤ (j : Int) then s[(j : Int).toNat]? else none) with | some b => (pure (.int .u8 b.toNat) : Sem Value) | none => boundsPanic .i64 (j : Int) s.size .index).run Tryd.prog W := by kernel_rfl
  rw [e, if_pos (by omega), Int.toNat_natCast, h]
  rfl
/-- What the law has found of the first bytes. -/
def fineN (k : Nat) (c : ByteArray) (j : Nat) : Bool := decide (k ≤ 5) && asc ((Go.Proofs.YtobnbgbijdhjjaaDoor.Val.nb c).take j) && (decide (j = 0) || decide (k = 3))
theorem fine_step {k : Nat} {c : ByteArray} {j : Nat} {x : UInt8} (h : c[j]? = some x) : fineN k c (j + 1) = (fineN k c j && decide (x.toNat < 128) && decide (k = 3)) := by
  have hx : (Go.Proofs.YtobnbgbijdhjjaaDoor.Val.nb c)[j]? = some x.toNat := by
    have : c.data.toList[j]? = some x := by
      have h' : c.data[j]? = some x := h
      simpa using h'
    simp [Go.Proofs.YtobnbgbijdhjjaaDoor.Val.nb, this]
  unfold fineN
  rw [List.take_add_one, hx]
  simp only [asc, List.all_append, Option.toList_some, List.all_cons, List.all_nil, Bool.and_true, Nat.add_eq_zero_iff, Nat.one_ne_zero, and_false, decide_false, Bool.false_or]
  cases decide (k ≤ 5) <;> cases decide (k = 3) <;> cases decide (x.toNat < 128) <;> cases (List.take j (Go.Proofs.YtobnbgbijdhjjaaDoor.Val.nb c)).all (fun x => decide (x < 128)) <;> cases decide (j = 0) <;> rfl
theorem fine_zero (k : Nat) (c : ByteArray) : fineN k c 0 = decide (k ≤ 5) := by simp [fineN, asc]
theorem fine_end (k : Nat) (c : ByteArray) : fineN k c c.size = (decide (k ≤ 5) && cOk c && (decide (c.size = 0) || decide (k = 3))) := by
  unfold fineN cOk
  rw [List.take_of_length_le (by rw [nb_len]; omega)]
theorem put_err0 {o : O} (h : mayO o = true) : (putR o).2 = 0 := by unfold putR; rw [h]; rfl
theorem put_err1 {o : O} (h : mayO o = false) : (putR o).2 = 1 := by unfold putR; rw [h]; rfl

set_option maxHeartbeats 4000000 in
theorem walk (k a b : Nat) (c : ByteArray) (w : World) (hTab : Tab w) (ha : a < 18446744073709551616) (hb : b < 18446744073709551616) : Calls Tryd.prog 7 #[.agg #[.int .u8 (k : Int), .int .u64 (a : Int), .int .u64 (b : Int), .string c]] w (GivesB true w) := by
  have hB : Below w.heap.size w (w.alloc (.cells #[.int .u8 (k : Int), .int .u64 (a : Int), .int .u64 (b : Int), .string c] 52)) := (Below.refl _ _).alloc (Nat.le_refl _) _
  have HX := Lib.hid (BxO.new w (.int .u8 (k : Int)) (.int .u64 (a : Int)) (.int .u64 (b : Int)) (.string c))
  have HB := Lib.hid hB
  have HT := Lib.hid hTab
  clear hB hTab
  by_cases hs : 4096 < c.size
  · have hd : decide ((4096 : Int) < (c.size : Int)) = true := decide_eq_true (by omega)
    clear hs ha hb
    go_enter Tryd.func7, Tryd.ntmps7
    go_wp2_with fail
    refine (works8_any _ (HT.out.call HB.out)).mono ?_
    rintro e w1 ⟨rfl, hb1⟩
    go_wp2_with fail
    go_ret
    exact ⟨rfl, below_next HB.out hb1⟩
  · have hd : decide ((4096 : Int) < (c.size : Int)) = false := decide_eq_false (by omega)
    have HP := Lib.hid (fun w => oput_any k a b c w (by omega) ha hb)
    have HS := Lib.hid (show c.size ≤ 4096 by omega)
    have HM := Lib.hid (show mayO ⟨k, a, b, c⟩ = (fineN k c c.size && (if k = 1 then decide (a < 4294967296) else if k = 5 then decide (a ≤ 1) && decide (b ≤ 1) else decide (a = 0) && decide (b = 0))) by rw [fine_end]; rfl)
    have HID := Lib.hid (idx_str c)
    clear hs ha hb
    obtain ⟨f0, hf0⟩ : ∃ f, decide ((k : Int) ≤ 5) = f := ⟨_, rfl⟩
    have HF0 := Lib.hid (show fineN k c 0 = f0 by rw [fine_zero, ← hf0]; simp; omega)
    obtain ⟨x0, x1, x2, x3, xf⟩ := HX.out.all
    go_enter Tryd.func7, Tryd.ntmps7
    go_wp2
    clear hd hf0
    go_loopw [3, 4] (fun s3 s wr => ∃ (j : Nat) (f : Bool), j ≤ c.size ∧ s3 = .bool f ∧ s = .int .i64 j ∧ fineN k c j = f ∧ w.alloc (.cells #[.int .u8 (k : Int), .int .u64 (a : Int), .int .u64 (b : Int), .string c] 52) = wr) (fun _ s _ => c.size - (intOf s).toNat)
    case atStart => exact ⟨0, f0, Nat.zero_le _, rfl, rfl, HF0.out, rfl⟩
    case round =>
      obtain ⟨j, f, hj, rfl, rfl, hf, rfl⟩ := hrel
      have HF := Lib.hid hf
      have HJ := Lib.hid hj
      clear hf
      by_cases hlt : j < c.size
      · have hS4 := HS.out
        obtain ⟨x, hx⟩ : ∃ x, c[j]? = some x := ⟨c[j], by simp [hlt]⟩
        have hix := HID.out j x hx
        have HST := Lib.hid (fine_step (k := k) hx)
        clear hx
        obtain ⟨y, hy⟩ : ∃ y : Nat, x.toNat = y := ⟨_, rfl⟩
        rw [hy] at hix HST
        clear hy
        cases f with
        | false =>
          go_wp2
          go_roundw
          case rel => exact ⟨j + 1, false, by omega, rfl, by go_num, by rw [HST.out, HF.out]; rfl, by trivial⟩
          case measure => simp [intOf]; omega
        | true =>
          by_cases h128 : y < 128
          · have hd1 : decide ((y : Int) < 128) = true := decide_eq_true (by omega)
            obtain ⟨d, hd3⟩ : ∃ d, ((k : Int) == 3) = d := ⟨_, rfl⟩
            have HD : Hid (decide (k = 3) = d) := Lib.hid (by rw [← hd3]; by_cases h : k = 3 <;> simp [h] <;> omega)
            have HY := Lib.hid (decide_eq_true h128)
            clear h128
            go_wp2
            go_roundw
            case rel => exact ⟨j + 1, d, by omega, rfl, by go_num, by rw [HST.out, HF.out, HY.out, HD.out]; rfl, by trivial⟩
            case measure => simp [intOf]; omega
          · have hd1 : decide ((y : Int) < 128) = false := decide_eq_false (by omega)
            have HY := Lib.hid (decide_eq_false h128)
            clear h128
            go_wp2
            go_roundw
            case rel => exact ⟨j + 1, false, by omega, rfl, by go_num, by rw [HST.out, HF.out, HY.out]; rfl, by trivial⟩
            case measure => simp [intOf]; omega
      · have HM2 : Hid (mayO ⟨k, a, b, c⟩ = (f && (if k = 1 then decide (a < 4294967296) else if k = 5 then decide (a ≤ 1) && decide (b ≤ 1) else decide (a = 0) && decide (b = 0)))) := Lib.hid (by rw [HM.out, ← HF.out, show j = c.size from Nat.le_antisymm HJ.out (Nat.le_of_not_lt hlt)])
        clear HM HF HF0 HID
        by_cases h1 : k = 1
        · have hd1 : ((k : Int) == 1) = true := by rw [h1]; rfl
          have HV0 : Hid (mayO ⟨k, a, b, c⟩ = (f && decide (a < 4294967296))) := Lib.hid (by rw [HM2.out, if_pos h1])
          clear h1 HM2
          cases f with
          | false =>
            have HV : Hid (mayO ⟨k, a, b, c⟩ = false) := Lib.hid (by rw [HV0.out]; rfl)
            have hp := HP.out
            have hmm : mayO ⟨k, a, b, c⟩ = false := HV.out
            rw [put_err1 hmm] at hp
            have HP := Lib.hid hp
            clear hp hmm HV
            go_wp2_with fail
            refine (HP.out _).mono ?_
            rintro e w1 ⟨pk, pn, pt, pks, pA, pl, pc, _, _, _, rfl, _, hb1⟩
            have HB1 := Lib.hid (below_next (below_next HB.out hb1) ((Below.refl w1.heap.size w1).alloc (Nat.le_refl _) (.cells #[.int .u8 (pk : Int), .int .u64 (pn : Int), .string pt, .slice pA pl pc] 25)))
            clear hb1
            go_wp2_with fail
            refine (works8_any _ (HT.out.call HB1.out)).mono ?_
            rintro e w2 ⟨rfl, hb2⟩
            go_wp2_with fail
            go_ret
            exact ⟨rfl, below_next HB1.out hb2⟩
          | true =>
            by_cases hA : a < 4294967296
            · have hAd : decide ((a : Int) < 4294967296) = true := decide_eq_true (by omega)
              have HV : Hid (mayO ⟨k, a, b, c⟩ = true) := Lib.hid (by rw [HV0.out, decide_eq_true hA]; rfl)
              clear hA
              have hp := HP.out
              have hmm : mayO ⟨k, a, b, c⟩ = true := HV.out
              rw [put_err0 hmm] at hp
              have HP := Lib.hid hp
              clear hp hmm HV
              go_wp2_with fail
              refine (HP.out _).mono ?_
              rintro e w1 ⟨pk, pn, pt, pks, pA, pl, pc, _, _, _, rfl, _, hb1⟩
              have HB1 := Lib.hid (below_next (below_next HB.out hb1) ((Below.refl w1.heap.size w1).alloc (Nat.le_refl _) (.cells #[.int .u8 (pk : Int), .int .u64 (pn : Int), .string pt, .slice pA pl pc] 25)))
              clear hb1
              go_wp2_with fail
              refine (works8_any _ (HT.out.call HB1.out)).mono ?_
              rintro e w2 ⟨rfl, hb2⟩
              go_wp2_with fail
              go_ret
              exact ⟨rfl, below_next HB1.out hb2⟩
            · have hAd : decide ((a : Int) < 4294967296) = false := decide_eq_false (by omega)
              have HV : Hid (mayO ⟨k, a, b, c⟩ = false) := Lib.hid (by rw [HV0.out, decide_eq_false hA]; rfl)
              clear hA
              have hp := HP.out
              have hmm : mayO ⟨k, a, b, c⟩ = false := HV.out
              rw [put_err1 hmm] at hp
              have HP := Lib.hid hp
              clear hp hmm HV
              go_wp2_with fail
              refine (HP.out _).mono ?_
              rintro e w1 ⟨pk, pn, pt, pks, pA, pl, pc, _, _, _, rfl, _, hb1⟩
              have HB1 := Lib.hid (below_next (below_next HB.out hb1) ((Below.refl w1.heap.size w1).alloc (Nat.le_refl _) (.cells #[.int .u8 (pk : Int), .int .u64 (pn : Int), .string pt, .slice pA pl pc] 25)))
              clear hb1
              go_wp2_with fail
              refine (works8_any _ (HT.out.call HB1.out)).mono ?_
              rintro e w2 ⟨rfl, hb2⟩
              go_wp2_with fail
              go_ret
              exact ⟨rfl, below_next HB1.out hb2⟩
        have hd1 : ((k : Int) == 1) = false := by rw [beq_eq_false_iff_ne]; omega
        by_cases h5 : k = 5
        · have hd5 : ((k : Int) == 5) = true := by rw [h5]; rfl
          have HV0 : Hid (mayO ⟨k, a, b, c⟩ = (f && (decide (a ≤ 1) && decide (b ≤ 1)))) := Lib.hid (by rw [HM2.out, if_neg h1, if_pos h5])
          clear h1 h5 HM2
          cases f with
          | false =>
            have HV : Hid (mayO ⟨k, a, b, c⟩ = false) := Lib.hid (by rw [HV0.out]; rfl)
            have hp := HP.out
            have hmm : mayO ⟨k, a, b, c⟩ = false := HV.out
            rw [put_err1 hmm] at hp
            have HP := Lib.hid hp
            clear hp hmm HV
            go_wp2_with fail
            refine (HP.out _).mono ?_
            rintro e w1 ⟨pk, pn, pt, pks, pA, pl, pc, _, _, _, rfl, _, hb1⟩
            have HB1 := Lib.hid (below_next (below_next HB.out hb1) ((Below.refl w1.heap.size w1).alloc (Nat.le_refl _) (.cells #[.int .u8 (pk : Int), .int .u64 (pn : Int), .string pt, .slice pA pl pc] 25)))
            clear hb1
            go_wp2_with fail
            refine (works8_any _ (HT.out.call HB1.out)).mono ?_
            rintro e w2 ⟨rfl, hb2⟩
            go_wp2_with fail
            go_ret
            exact ⟨rfl, below_next HB1.out hb2⟩
          | true =>
            by_cases hA : a ≤ 1
            · have hAd : decide ((a : Int) < 2) = true := decide_eq_true (by omega)
              by_cases hBB : b ≤ 1
              · have hBBd : decide ((b : Int) < 2) = true := decide_eq_true (by omega)
                have HV : Hid (mayO ⟨k, a, b, c⟩ = true) := Lib.hid (by rw [HV0.out, decide_eq_true hA, decide_eq_true hBB]; rfl)
                clear hA hBB
                have hp := HP.out
                have hmm : mayO ⟨k, a, b, c⟩ = true := HV.out
                rw [put_err0 hmm] at hp
                have HP := Lib.hid hp
                clear hp hmm HV
                go_wp2_with fail
                refine (HP.out _).mono ?_
                rintro e w1 ⟨pk, pn, pt, pks, pA, pl, pc, _, _, _, rfl, _, hb1⟩
                have HB1 := Lib.hid (below_next (below_next HB.out hb1) ((Below.refl w1.heap.size w1).alloc (Nat.le_refl _) (.cells #[.int .u8 (pk : Int), .int .u64 (pn : Int), .string pt, .slice pA pl pc] 25)))
                clear hb1
                go_wp2_with fail
                refine (works8_any _ (HT.out.call HB1.out)).mono ?_
                rintro e w2 ⟨rfl, hb2⟩
                go_wp2_with fail
                go_ret
                exact ⟨rfl, below_next HB1.out hb2⟩
              · have hBBd : decide ((b : Int) < 2) = false := decide_eq_false (by omega)
                have HV : Hid (mayO ⟨k, a, b, c⟩ = false) := Lib.hid (by rw [HV0.out, decide_eq_true hA, decide_eq_false hBB]; rfl)
                clear hA hBB
                have hp := HP.out
                have hmm : mayO ⟨k, a, b, c⟩ = false := HV.out
                rw [put_err1 hmm] at hp
                have HP := Lib.hid hp
                clear hp hmm HV
                go_wp2_with fail
                refine (HP.out _).mono ?_
                rintro e w1 ⟨pk, pn, pt, pks, pA, pl, pc, _, _, _, rfl, _, hb1⟩
                have HB1 := Lib.hid (below_next (below_next HB.out hb1) ((Below.refl w1.heap.size w1).alloc (Nat.le_refl _) (.cells #[.int .u8 (pk : Int), .int .u64 (pn : Int), .string pt, .slice pA pl pc] 25)))
                clear hb1
                go_wp2_with fail
                refine (works8_any _ (HT.out.call HB1.out)).mono ?_
                rintro e w2 ⟨rfl, hb2⟩
                go_wp2_with fail
                go_ret
                exact ⟨rfl, below_next HB1.out hb2⟩
            · have hAd : decide ((a : Int) < 2) = false := decide_eq_false (by omega)
              have HV : Hid (mayO ⟨k, a, b, c⟩ = false) := Lib.hid (by rw [HV0.out, decide_eq_false hA]; rfl)
              clear hA
              have hp := HP.out
              have hmm : mayO ⟨k, a, b, c⟩ = false := HV.out
              rw [put_err1 hmm] at hp
              have HP := Lib.hid hp
              clear hp hmm HV
              go_wp2_with fail
              refine (HP.out _).mono ?_
              rintro e w1 ⟨pk, pn, pt, pks, pA, pl, pc, _, _, _, rfl, _, hb1⟩
              have HB1 := Lib.hid (below_next (below_next HB.out hb1) ((Below.refl w1.heap.size w1).alloc (Nat.le_refl _) (.cells #[.int .u8 (pk : Int), .int .u64 (pn : Int), .string pt, .slice pA pl pc] 25)))
              clear hb1
              go_wp2_with fail
              refine (works8_any _ (HT.out.call HB1.out)).mono ?_
              rintro e w2 ⟨rfl, hb2⟩
              go_wp2_with fail
              go_ret
              exact ⟨rfl, below_next HB1.out hb2⟩
        have hd5 : ((k : Int) == 5) = false := by rw [beq_eq_false_iff_ne]; omega
        have HV0 : Hid (mayO ⟨k, a, b, c⟩ = (f && (decide (a = 0) && decide (b = 0)))) := Lib.hid (by rw [HM2.out, if_neg h1, if_neg h5])
        clear h1 h5 HM2
        cases f with
        | false =>
          have HV : Hid (mayO ⟨k, a, b, c⟩ = false) := Lib.hid (by rw [HV0.out]; rfl)
          have hp := HP.out
          have hmm : mayO ⟨k, a, b, c⟩ = false := HV.out
          rw [put_err1 hmm] at hp
          have HP := Lib.hid hp
          clear hp hmm HV
          go_wp2_with fail
          refine (HP.out _).mono ?_
          rintro e w1 ⟨pk, pn, pt, pks, pA, pl, pc, _, _, _, rfl, _, hb1⟩
          have HB1 := Lib.hid (below_next (below_next HB.out hb1) ((Below.refl w1.heap.size w1).alloc (Nat.le_refl _) (.cells #[.int .u8 (pk : Int), .int .u64 (pn : Int), .string pt, .slice pA pl pc] 25)))
          clear hb1
          go_wp2_with fail
          refine (works8_any _ (HT.out.call HB1.out)).mono ?_
          rintro e w2 ⟨rfl, hb2⟩
          go_wp2_with fail
          go_ret
          exact ⟨rfl, below_next HB1.out hb2⟩
        | true =>
          by_cases hA : a = 0
          · have hAd : ((a : Int) == 0) = true := by rw [hA]; rfl
            by_cases hBB : b = 0
            · have hBBd : ((b : Int) == 0) = true := by rw [hBB]; rfl
              have HV : Hid (mayO ⟨k, a, b, c⟩ = true) := Lib.hid (by rw [HV0.out, decide_eq_true hA, decide_eq_true hBB]; rfl)
              clear hA hBB
              have hp := HP.out
              have hmm : mayO ⟨k, a, b, c⟩ = true := HV.out
              rw [put_err0 hmm] at hp
              have HP := Lib.hid hp
              clear hp hmm HV
              go_wp2_with fail
              refine (HP.out _).mono ?_
              rintro e w1 ⟨pk, pn, pt, pks, pA, pl, pc, _, _, _, rfl, _, hb1⟩
              have HB1 := Lib.hid (below_next (below_next HB.out hb1) ((Below.refl w1.heap.size w1).alloc (Nat.le_refl _) (.cells #[.int .u8 (pk : Int), .int .u64 (pn : Int), .string pt, .slice pA pl pc] 25)))
              clear hb1
              go_wp2_with fail
              refine (works8_any _ (HT.out.call HB1.out)).mono ?_
              rintro e w2 ⟨rfl, hb2⟩
              go_wp2_with fail
              go_ret
              exact ⟨rfl, below_next HB1.out hb2⟩
            · have hBBd : ((b : Int) == 0) = false := by rw [beq_eq_false_iff_ne]; omega
              have HV : Hid (mayO ⟨k, a, b, c⟩ = false) := Lib.hid (by rw [HV0.out, decide_eq_true hA, decide_eq_false hBB]; rfl)
              clear hA hBB
              have hp := HP.out
              have hmm : mayO ⟨k, a, b, c⟩ = false := HV.out
              rw [put_err1 hmm] at hp
              have HP := Lib.hid hp
              clear hp hmm HV
              go_wp2_with fail
              refine (HP.out _).mono ?_
              rintro e w1 ⟨pk, pn, pt, pks, pA, pl, pc, _, _, _, rfl, _, hb1⟩
              have HB1 := Lib.hid (below_next (below_next HB.out hb1) ((Below.refl w1.heap.size w1).alloc (Nat.le_refl _) (.cells #[.int .u8 (pk : Int), .int .u64 (pn : Int), .string pt, .slice pA pl pc] 25)))
              clear hb1
              go_wp2_with fail
              refine (works8_any _ (HT.out.call HB1.out)).mono ?_
              rintro e w2 ⟨rfl, hb2⟩
              go_wp2_with fail
              go_ret
              exact ⟨rfl, below_next HB1.out hb2⟩
          · have hAd : ((a : Int) == 0) = false := by rw [beq_eq_false_iff_ne]; omega
            have HV : Hid (mayO ⟨k, a, b, c⟩ = false) := Lib.hid (by rw [HV0.out, decide_eq_false hA]; rfl)
            clear hA
            have hp := HP.out
            have hmm : mayO ⟨k, a, b, c⟩ = false := HV.out
            rw [put_err1 hmm] at hp
            have HP := Lib.hid hp
            clear hp hmm HV
            go_wp2_with fail
            refine (HP.out _).mono ?_
            rintro e w1 ⟨pk, pn, pt, pks, pA, pl, pc, _, _, _, rfl, _, hb1⟩
            have HB1 := Lib.hid (below_next (below_next HB.out hb1) ((Below.refl w1.heap.size w1).alloc (Nat.le_refl _) (.cells #[.int .u8 (pk : Int), .int .u64 (pn : Int), .string pt, .slice pA pl pc] 25)))
            clear hb1
            go_wp2_with fail
            refine (works8_any _ (HT.out.call HB1.out)).mono ?_
            rintro e w2 ⟨rfl, hb2⟩
            go_wp2_with fail
            go_ret
            exact ⟨rfl, below_next HB1.out hb2⟩
end Go.Proofs.YtobnbgbijdhjjaaDoor.outcomeMay
