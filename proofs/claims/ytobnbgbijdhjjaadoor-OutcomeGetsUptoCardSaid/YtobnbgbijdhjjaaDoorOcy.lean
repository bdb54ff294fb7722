/-
  Contracts of the program's mayBe (and what it says). Memory that was there stays. Conditions: conditions of at most 2^28 bytes.
-/
import Derived.Test.YtobnbgbijdhjjaaDoorOca
namespace Go.Proofs.YtobnbgbijdhjjaaDoor.Oc
set_option maxRecDepth 100000
open Go.RowKit Go.Proofs.YtobnbgbijdhjjaaDoor.Utf Go.Proofs.YtobnbgbijdhjjaaDoor.Val Go.Proofs.YtobnbgbijdhjjaaDoor.Fl V

theorem mayO_eq (k a b : Nat) (c : ByteArray) : mayO ⟨k, a, b, c⟩ = (decide (k ≤ 5) && cOk c && (decide (c.size = 0) || decide (k = 3)) &&
    (if k = 1 then decide (a < 4294967296) else if k = 5 then decide (a ≤ 1) && decide (b ≤ 1) else decide (a = 0) && decide (b = 0))) := rfl

set_option maxHeartbeats 1000000 in
theorem maybe_any (k a b : Nat) (c : ByteArray) (w : World) (hs : c.size ≤ 1073741824) : Calls Tryd.prog 51 #[.agg #[.int .u8 (k : Int), .int .u64 (a : Int), .int .u64 (b : Int), .string c]] w (GivesB (mayO ⟨k, a, b, c⟩) w) := by
  have HI := Lib.hid (fun w => iscond_any c w hs)
  have HX := Lib.hid (BxO.new w (.int .u8 (k : Int)) (.int .u64 (a : Int)) (.int .u64 (b : Int)) (.string c))
  have hb0 : Below w.heap.size w (w.alloc (.cells #[.int .u8 (k : Int), .int .u64 (a : Int), .int .u64 (b : Int), .string c] 52)) := (Below.refl _ _).alloc (Nat.le_refl _) _
  have HB := Lib.hid hb0
  have HM := Lib.hid (mayO_eq k a b c)
  clear hs hb0
  by_cases h5 : k ≤ 5
  case neg =>
    have HR : Hid (mayO ⟨k, a, b, c⟩ = false) := Lib.hid (by rw [HM.out, decide_eq_false h5]; rfl)
    have hd : decide ((5 : Int) < (k : Int)) = true := decide_eq_true (by omega)
    clear h5
    go_enter Tryd.func51, Tryd.ntmps51
    go_wp2
    go_ret
    exact ⟨by rw [HR.out]; rfl, HB.out⟩
  case pos =>
  have hd5 : decide ((5 : Int) < (k : Int)) = false := decide_eq_false (by omega)
  cases hc : cOk c with
  | false =>
    rw [hc] at HI
    have HR : Hid (mayO ⟨k, a, b, c⟩ = false) := Lib.hid (by rw [HM.out, hc, Bool.and_false]; rfl)
    clear h5 hc
    go_enter Tryd.func51, Tryd.ntmps51
    go_wp2_with (go_at_call 62; refine (HI.out _).mono ?_; rintro e w1 ⟨rfl, hb1⟩; obtain ⟨d0, d1, d2, d3, df⟩ := (HX.out.call hb1).all; have HB1 := Lib.hid (below_next HB.out hb1); clear hb1)
    go_ret
    exact ⟨by rw [HR.out]; rfl, HB1.out⟩
  | true =>
    rw [hc] at HI
    by_cases h3 : k = 3
    · subst h3
      have HR0 : Hid (mayO ⟨3, a, b, c⟩ = (decide (a = 0) && decide (b = 0))) := Lib.hid (by rw [HM.out, hc]; simp)
      clear h5 hd5 hc HM
      by_cases h0 : c.size = 0
      · obtain rfl := empty_of h0
        clear h0
        obtain ⟨d, hd⟩ : ∃ d, ((b : Int) == 0) = d := ⟨_, rfl⟩
        by_cases ha : a = 0
        · have HR : Hid (mayO ⟨3, a, b, ⟨#[]⟩⟩ = d) := Lib.hid (by rw [HR0.out, decide_eq_true ha, ← hd, Bool.true_and]; by_cases hb : b = 0 <;> simp [hb])
          have hda : ((a : Int) == 0) = true := by rw [ha]; rfl
          clear ha
          go_enter Tryd.func51, Tryd.ntmps51
          go_wp2_with (go_at_call 62; refine (HI.out _).mono ?_; rintro e w1 ⟨rfl, hb1⟩; obtain ⟨d0, d1, d2, d3, df⟩ := (HX.out.call hb1).all; have HB1 := Lib.hid (below_next HB.out hb1); clear hb1)
          go_ret
          exact ⟨by rw [HR.out]; rfl, HB1.out⟩
        · have HR : Hid (mayO ⟨3, a, b, ⟨#[]⟩⟩ = false) := Lib.hid (by rw [HR0.out, decide_eq_false ha]; rfl)
          have hda : ((a : Int) == 0) = false := by rw [beq_eq_false_iff_ne]; omega
          clear ha
          go_enter Tryd.func51, Tryd.ntmps51
          go_wp2_with (go_at_call 62; refine (HI.out _).mono ?_; rintro e w1 ⟨rfl, hb1⟩; obtain ⟨d0, d1, d2, d3, df⟩ := (HX.out.call hb1).all; have HB1 := Lib.hid (below_next HB.out hb1); clear hb1)
          go_ret
          exact ⟨by rw [HR.out]; rfl, HB1.out⟩
      · have hd : c.toList.isEmpty = false := empty_no' h0
        clear h0
        obtain ⟨d, hdb⟩ : ∃ d, ((b : Int) == 0) = d := ⟨_, rfl⟩
        by_cases ha : a = 0
        · have HR : Hid (mayO ⟨3, a, b, c⟩ = d) := Lib.hid (by rw [HR0.out, decide_eq_true ha, ← hdb, Bool.true_and]; by_cases hb : b = 0 <;> simp [hb])
          have hda : ((a : Int) == 0) = true := by rw [ha]; rfl
          clear ha
          go_enter Tryd.func51, Tryd.ntmps51
          go_wp2_with (go_at_call 62; refine (HI.out _).mono ?_; rintro e w1 ⟨rfl, hb1⟩; obtain ⟨d0, d1, d2, d3, df⟩ := (HX.out.call hb1).all; have HB1 := Lib.hid (below_next HB.out hb1); clear hb1)
          go_ret
          exact ⟨by rw [HR.out]; rfl, HB1.out⟩
        · have HR : Hid (mayO ⟨3, a, b, c⟩ = false) := Lib.hid (by rw [HR0.out, decide_eq_false ha]; rfl)
          have hda : ((a : Int) == 0) = false := by rw [beq_eq_false_iff_ne]; omega
          clear ha
          go_enter Tryd.func51, Tryd.ntmps51
          go_wp2_with (go_at_call 62; refine (HI.out _).mono ?_; rintro e w1 ⟨rfl, hb1⟩; obtain ⟨d0, d1, d2, d3, df⟩ := (HX.out.call hb1).all; have HB1 := Lib.hid (below_next HB.out hb1); clear hb1)
          go_ret
          exact ⟨by rw [HR.out]; rfl, HB1.out⟩
    · have hd3 : ((k : Int) == 3) = false := by rw [beq_eq_false_iff_ne]; omega
      by_cases h0 : c.size = 0
      case neg =>
        have HR : Hid (mayO ⟨k, a, b, c⟩ = false) := Lib.hid (by rw [HM.out, decide_eq_false h0, decide_eq_false h3, Bool.or_false, Bool.and_false]; rfl)
        have hd : c.toList.isEmpty = false := empty_no' h0
        clear h5 hc h3 h0
        go_enter Tryd.func51, Tryd.ntmps51
        go_wp2_with (go_at_call 62; refine (HI.out _).mono ?_; rintro e w1 ⟨rfl, hb1⟩; obtain ⟨d0, d1, d2, d3, df⟩ := (HX.out.call hb1).all; have HB1 := Lib.hid (below_next HB.out hb1); clear hb1)
        go_ret
        exact ⟨by rw [HR.out]; rfl, HB1.out⟩
      case pos =>
        obtain rfl := empty_of h0
        by_cases h1 : k = 1
        · subst h1
          obtain ⟨d, hd⟩ : ∃ d, decide ((a : Int) < 4294967296) = d := ⟨_, rfl⟩
          have HR : Hid (mayO ⟨1, a, b, ⟨#[]⟩⟩ = d) := Lib.hid (by rw [HM.out, ← hd, hc]; simp [ByteArray.size]; omega)
          clear h5 hd5 hc h3 h0 HM
          go_enter Tryd.func51, Tryd.ntmps51
          go_wp2_with (go_at_call 62; refine (HI.out _).mono ?_; rintro e w1 ⟨rfl, hb1⟩; obtain ⟨d0, d1, d2, d3, df⟩ := (HX.out.call hb1).all; have HB1 := Lib.hid (below_next HB.out hb1); clear hb1)
          go_ret
          exact ⟨by rw [HR.out]; rfl, HB1.out⟩
        have hd1 : ((k : Int) == 1) = false := by rw [beq_eq_false_iff_ne]; omega
        by_cases h55 : k = 5
        · subst h55
          have HR0 : Hid (mayO ⟨5, a, b, ⟨#[]⟩⟩ = (decide (a ≤ 1) && decide (b ≤ 1))) := Lib.hid (by rw [HM.out, hc]; simp [ByteArray.size])
          clear h5 hd5 hc h3 h0 HM h1
          obtain ⟨d, hd⟩ : ∃ d, decide ((b : Int) ≤ 1) = d := ⟨_, rfl⟩
          by_cases ha : a ≤ 1
          · have HR : Hid (mayO ⟨5, a, b, ⟨#[]⟩⟩ = d) := Lib.hid (by rw [HR0.out, decide_eq_true ha, ← hd]; simp; omega)
            have hda : decide ((a : Int) ≤ 1) = true := decide_eq_true (by omega)
            clear ha
            go_enter Tryd.func51, Tryd.ntmps51
            go_wp2_with (go_at_call 62; refine (HI.out _).mono ?_; rintro e w1 ⟨rfl, hb1⟩; obtain ⟨d0, d1, d2, d3, df⟩ := (HX.out.call hb1).all; have HB1 := Lib.hid (below_next HB.out hb1); clear hb1)
            go_ret
            exact ⟨by rw [HR.out]; rfl, HB1.out⟩
          · have HR : Hid (mayO ⟨5, a, b, ⟨#[]⟩⟩ = false) := Lib.hid (by rw [HR0.out, decide_eq_false ha]; rfl)
            have hda : decide ((a : Int) ≤ 1) = false := decide_eq_false (by omega)
            clear ha
            go_enter Tryd.func51, Tryd.ntmps51
            go_wp2_with (go_at_call 62; refine (HI.out _).mono ?_; rintro e w1 ⟨rfl, hb1⟩; obtain ⟨d0, d1, d2, d3, df⟩ := (HX.out.call hb1).all; have HB1 := Lib.hid (below_next HB.out hb1); clear hb1)
            go_ret
            exact ⟨by rw [HR.out]; rfl, HB1.out⟩
        have hd55 : ((k : Int) == 5) = false := by rw [beq_eq_false_iff_ne]; omega
        have HR0 : Hid (mayO ⟨k, a, b, ⟨#[]⟩⟩ = (decide (a = 0) && decide (b = 0))) := Lib.hid (by rw [HM.out, hc, decide_eq_true h5, if_neg h1, if_neg h55]; simp [ByteArray.size])
        clear h5 hc h3 h0 HM h1 h55
        obtain ⟨d, hd⟩ : ∃ d, ((b : Int) == 0) = d := ⟨_, rfl⟩
        by_cases ha : a = 0
        · have HR : Hid (mayO ⟨k, a, b, ⟨#[]⟩⟩ = d) := Lib.hid (by rw [HR0.out, decide_eq_true ha, ← hd, Bool.true_and]; by_cases hb : b = 0 <;> simp [hb])
          have hda : ((a : Int) == 0) = true := by rw [ha]; rfl
          clear ha
          go_enter Tryd.func51, Tryd.ntmps51
          go_wp2_with (go_at_call 62; refine (HI.out _).mono ?_; rintro e w1 ⟨rfl, hb1⟩; obtain ⟨d0, d1, d2, d3, df⟩ := (HX.out.call hb1).all; have HB1 := Lib.hid (below_next HB.out hb1); clear hb1)
          go_ret
          exact ⟨by rw [HR.out]; rfl, HB1.out⟩
        · have HR : Hid (mayO ⟨k, a, b, ⟨#[]⟩⟩ = false) := Lib.hid (by rw [HR0.out, decide_eq_false ha]; rfl)
          have hda : ((a : Int) == 0) = false := by rw [beq_eq_false_iff_ne]; omega
          clear ha
          go_enter Tryd.func51, Tryd.ntmps51
          go_wp2_with (go_at_call 62; refine (HI.out _).mono ?_; rintro e w1 ⟨rfl, hb1⟩; obtain ⟨d0, d1, d2, d3, df⟩ := (HX.out.call hb1).all; have HB1 := Lib.hid (below_next HB.out hb1); clear hb1)
          go_ret
          exact ⟨by rw [HR.out]; rfl, HB1.out⟩
end Go.Proofs.YtobnbgbijdhjjaaDoor.Oc
