/-
  Contracts of the program's mayBe (and what it says). Memory that was there stays. Conditions: conditions of at most 2^28 bytes.
  Contract of the program's outcome.Put. Memory that was there stays. Conditions: conditions of at most 2^28 bytes.
-/
import Derived.Test.YtohmnbefokhjpaaDoorOca
import Derived.Test.YtohmnbefokhjpaaDoorOch
import Derived.Deep.RegionWith
import Derived.Laws.EntriesVeiled
namespace Go.Proofs.YtohmnbefokhjpaaDoor.Oc
set_option maxRecDepth 100000
open Go.RowKit Go.Proofs.YtohmnbefokhjpaaDoor.Utf Go.Proofs.YtohmnbefokhjpaaDoor.Val Go.Proofs.YtohmnbefokhjpaaDoor.Fl V

theorem mayO_eq (k a b : Nat) (c : ByteArray) : mayO ⟨k, a, b, c⟩ = (decide (k ≤ 5) && cOk c && (decide (c.size = 0) || decide (k = 3)) &&
    (if k = 1 then decide (a < 4294967296) else if k = 5 then decide (a ≤ 1) && decide (b ≤ 1) else decide (a = 0) && decide (b = 0))) := rfl

set_option maxHeartbeats 1000000 in
theorem maybe_any (k a b : Nat) (c : ByteArray) (w : World) (hs : c.size ≤ 1073741824) : Calls Tryd.prog 11 #[.agg #[.int .u8 (k : Int), .int .u64 (a : Int), .int .u64 (b : Int), .string c]] w (GivesB (mayO ⟨k, a, b, c⟩) w) := by
  have HI := Lib.hid (fun w => iscond_any c w hs)
  have HX := Lib.hid (BxO.new w (.int .u8 (k : Int)) (.int .u64 (a : Int)) (.int .u64 (b : Int)) (.string c))
  have hb0 : Below w.heap.size w (w.alloc (.cells #[.int .u8 (k : Int), .int .u64 (a : Int), .int .u64 (b : Int), .string c] 24)) := (Below.refl _ _).alloc (Nat.le_refl _) _
  have HB := Lib.hid hb0
  have HM := Lib.hid (mayO_eq k a b c)
  clear hs hb0
  by_cases h5 : k ≤ 5
  case neg =>
    have HR : Hid (mayO ⟨k, a, b, c⟩ = false) := Lib.hid (by rw [HM.out, decide_eq_false h5]; rfl)
    have hd : decide ((5 : Int) < (k : Int)) = true := decide_eq_true (by omega)
    clear h5
    go_enter Tryd.func11, Tryd.ntmps11
    go_wp2
    go_ret
    exact ⟨by rw [HR.out]; rfl, HB.out⟩
  case pos =>
  have hd5 : decide ((5 : Int) < (k : Int)) = false := decide_eq_false (by omega)
  cases hc : cOk c with
  | false =>
    rw [hc] at HI
    have HR : Hid (mayO ⟨k, a, b, c⟩ = false) := Lib.hid (by rw [HM.out, hc, Bool.and_false]; rfl)
    clear h5 hc
    go_enter Tryd.func11, Tryd.ntmps11
    go_wp2_with (go_at_call 19; refine (HI.out _).mono ?_; rintro e w1 ⟨rfl, hb1⟩; obtain ⟨d0, d1, d2, d3, df⟩ := (HX.out.call hb1).all; have HB1 := Lib.hid (below_next HB.out hb1); clear hb1)
    go_ret
    exact ⟨by rw [HR.out]; rfl, HB1.out⟩
  | true =>
    rw [hc] at HI
    by_cases h3 : k = 3
    · subst h3
      have HR0 : Hid (mayO ⟨3, a, b, c⟩ = (decide (a = 0) && decide (b = 0))) := Lib.hid (by rw [HM.out, hc]; simp)
      clear h5 hd5 hc HM
      by_cases h0 : c.size = 0
      · obtain rfl := empty_of h0
        clear h0
        obtain ⟨d, hd⟩ : ∃ d, ((b : Int) == 0) = d := ⟨_, rfl⟩
        by_cases ha : a = 0
        · have HR : Hid (mayO ⟨3, a, b, ⟨#[]⟩⟩ = d) := Lib.hid (by rw [HR0.out, decide_eq_true ha, ← hd, Bool.true_and]; by_cases hb : b = 0 <;> simp [hb])
          have hda : ((a : Int) == 0) = true := by rw [ha]; rfl
          clear ha
          go_enter Tryd.func11, Tryd.ntmps11
          go_wp2_with (go_at_call 19; refine (HI.out _).mono ?_; rintro e w1 ⟨rfl, hb1⟩; obtain ⟨d0, d1, d2, d3, df⟩ := (HX.out.call hb1).all; have HB1 := Lib.hid (below_next HB.out hb1); clear hb1)
          go_ret
          exact ⟨by rw [HR.out]; rfl, HB1.out⟩
        · have HR : Hid (mayO ⟨3, a, b, ⟨#[]⟩⟩ = false) := Lib.hid (by rw [HR0.out, decide_eq_false ha]; rfl)
          have hda : ((a : Int) == 0) = false := by rw [beq_eq_false_iff_ne]; omega
          clear ha
          go_enter Tryd.func11, Tryd.ntmps11
          go_wp2_with (go_at_call 19; refine (HI.out _).mono ?_; rintro e w1 ⟨rfl, hb1⟩; obtain ⟨d0, d1, d2, d3, df⟩ := (HX.out.call hb1).all; have HB1 := Lib.hid (below_next HB.out hb1); clear hb1)
          go_ret
          exact ⟨by rw [HR.out]; rfl, HB1.out⟩
      · have hd : c.toList.isEmpty = false := empty_no' h0
        clear h0
        obtain ⟨d, hdb⟩ : ∃ d, ((b : Int) == 0) = d := ⟨_, rfl⟩
        by_cases ha : a = 0
        · have HR : Hid (mayO ⟨3, a, b, c⟩ = d) := Lib.hid (by rw [HR0.out, decide_eq_true ha, ← hdb, Bool.true_and]; by_cases hb : b = 0 <;> simp [hb])
          have hda : ((a : Int) == 0) = true := by rw [ha]; rfl
          clear ha
          go_enter Tryd.func11, Tryd.ntmps11
          go_wp2_with (go_at_call 19; refine (HI.out _).mono ?_; rintro e w1 ⟨rfl, hb1⟩; obtain ⟨d0, d1, d2, d3, df⟩ := (HX.out.call hb1).all; have HB1 := Lib.hid (below_next HB.out hb1); clear hb1)
          go_ret
          exact ⟨by rw [HR.out]; rfl, HB1.out⟩
        · have HR : Hid (mayO ⟨3, a, b, c⟩ = false) := Lib.hid (by rw [HR0.out, decide_eq_false ha]; rfl)
          have hda : ((a : Int) == 0) = false := by rw [beq_eq_false_iff_ne]; omega
          clear ha
          go_enter Tryd.func11, Tryd.ntmps11
          go_wp2_with (go_at_call 19; refine (HI.out _).mono ?_; rintro e w1 ⟨rfl, hb1⟩; obtain ⟨d0, d1, d2, d3, df⟩ := (HX.out.call hb1).all; have HB1 := Lib.hid (below_next HB.out hb1); clear hb1)
          go_ret
          exact ⟨by rw [HR.out]; rfl, HB1.out⟩
    · have hd3 : ((k : Int) == 3) = false := by rw [beq_eq_false_iff_ne]; omega
      by_cases h0 : c.size = 0
      case neg =>
        have HR : Hid (mayO ⟨k, a, b, c⟩ = false) := Lib.hid (by rw [HM.out, decide_eq_false h0, decide_eq_false h3, Bool.or_false, Bool.and_false]; rfl)
        have hd : c.toList.isEmpty = false := empty_no' h0
        clear h5 hc h3 h0
        go_enter Tryd.func11, Tryd.ntmps11
        go_wp2_with (go_at_call 19; refine (HI.out _).mono ?_; rintro e w1 ⟨rfl, hb1⟩; obtain ⟨d0, d1, d2, d3, df⟩ := (HX.out.call hb1).all; have HB1 := Lib.hid (below_next HB.out hb1); clear hb1)
        go_ret
        exact ⟨by rw [HR.out]; rfl, HB1.out⟩
      case pos =>
        obtain rfl := empty_of h0
        by_cases h1 : k = 1
        · subst h1
          obtain ⟨d, hd⟩ : ∃ d, decide ((a : Int) < 4294967296) = d := ⟨_, rfl⟩
          have HR : Hid (mayO ⟨1, a, b, ⟨#[]⟩⟩ = d) := Lib.hid (by rw [HM.out, ← hd, hc]; simp [ByteArray.size]; omega)
          clear h5 hd5 hc h3 h0 HM
          go_enter Tryd.func11, Tryd.ntmps11
          go_wp2_with (go_at_call 19; refine (HI.out _).mono ?_; rintro e w1 ⟨rfl, hb1⟩; obtain ⟨d0, d1, d2, d3, df⟩ := (HX.out.call hb1).all; have HB1 := Lib.hid (below_next HB.out hb1); clear hb1)
          go_ret
          exact ⟨by rw [HR.out]; rfl, HB1.out⟩
        have hd1 : ((k : Int) == 1) = false := by rw [beq_eq_false_iff_ne]; omega
        by_cases h55 : k = 5
        · subst h55
          have HR0 : Hid (mayO ⟨5, a, b, ⟨#[]⟩⟩ = (decide (a ≤ 1) && decide (b ≤ 1))) := Lib.hid (by rw [HM.out, hc]; simp [ByteArray.size])
          clear h5 hd5 hc h3 h0 HM h1
          obtain ⟨d, hd⟩ : ∃ d, decide ((b : Int) ≤ 1) = d := ⟨_, rfl⟩
          by_cases ha : a ≤ 1
          · have HR : Hid (mayO ⟨5, a, b, ⟨#[]⟩⟩ = d) := Lib.hid (by rw [HR0.out, decide_eq_true ha, ← hd]; simp; omega)
            have hda : decide ((a : Int) ≤ 1) = true := decide_eq_true (by omega)
            clear ha
            go_enter Tryd.func11, Tryd.ntmps11
            go_wp2_with (go_at_call 19; refine (HI.out _).mono ?_; rintro e w1 ⟨rfl, hb1⟩; obtain ⟨d0, d1, d2, d3, df⟩ := (HX.out.call hb1).all; have HB1 := Lib.hid (below_next HB.out hb1); clear hb1)
            go_ret
            exact ⟨by rw [HR.out]; rfl, HB1.out⟩
          · have HR : Hid (mayO ⟨5, a, b, ⟨#[]⟩⟩ = false) := Lib.hid (by rw [HR0.out, decide_eq_false ha]; rfl)
            have hda : decide ((a : Int) ≤ 1) = false := decide_eq_false (by omega)
            clear ha
            go_enter Tryd.func11, Tryd.ntmps11
            go_wp2_with (go_at_call 19; refine (HI.out _).mono ?_; rintro e w1 ⟨rfl, hb1⟩; obtain ⟨d0, d1, d2, d3, df⟩ := (HX.out.call hb1).all; have HB1 := Lib.hid (below_next HB.out hb1); clear hb1)
            go_ret
            exact ⟨by rw [HR.out]; rfl, HB1.out⟩
        have hd55 : ((k : Int) == 5) = false := by rw [beq_eq_false_iff_ne]; omega
        have HR0 : Hid (mayO ⟨k, a, b, ⟨#[]⟩⟩ = (decide (a = 0) && decide (b = 0))) := Lib.hid (by rw [HM.out, hc, decide_eq_true h5, if_neg h1, if_neg h55]; simp [ByteArray.size])
        clear h5 hc h3 h0 HM h1 h55
        obtain ⟨d, hd⟩ : ∃ d, ((b : Int) == 0) = d := ⟨_, rfl⟩
        by_cases ha : a = 0
        · have HR : Hid (mayO ⟨k, a, b, ⟨#[]⟩⟩ = d) := Lib.hid (by rw [HR0.out, decide_eq_true ha, ← hd, Bool.true_and]; by_cases hb : b = 0 <;> simp [hb])
          have hda : ((a : Int) == 0) = true := by rw [ha]; rfl
          clear ha
          go_enter Tryd.func11, Tryd.ntmps11
          go_wp2_with (go_at_call 19; refine (HI.out _).mono ?_; rintro e w1 ⟨rfl, hb1⟩; obtain ⟨d0, d1, d2, d3, df⟩ := (HX.out.call hb1).all; have HB1 := Lib.hid (below_next HB.out hb1); clear hb1)
          go_ret
          exact ⟨by rw [HR.out]; rfl, HB1.out⟩
        · have HR : Hid (mayO ⟨k, a, b, ⟨#[]⟩⟩ = false) := Lib.hid (by rw [HR0.out, decide_eq_false ha]; rfl)
          have hda : ((a : Int) == 0) = false := by rw [beq_eq_false_iff_ne]; omega
          clear ha
          go_enter Tryd.func11, Tryd.ntmps11
          go_wp2_with (go_at_call 19; refine (HI.out _).mono ?_; rintro e w1 ⟨rfl, hb1⟩; obtain ⟨d0, d1, d2, d3, df⟩ := (HX.out.call hb1).all; have HB1 := Lib.hid (below_next HB.out hb1); clear hb1)
          go_ret
          exact ⟨by rw [HR.out]; rfl, HB1.out⟩
end Go.Proofs.YtohmnbefokhjpaaDoor.Oc

namespace Go.Proofs.YtohmnbefokhjpaaDoor.Oc
set_option maxRecDepth 100000
open Go.RowKit Go.Proofs.YtohmnbefokhjpaaDoor.Utf Go.Proofs.YtohmnbefokhjpaaDoor.Val Go.Proofs.YtohmnbefokhjpaaDoor.Fl V

/-- What Put answers. -/
def putR (o : O) : V × Int := if mayO o = true then (putO o, 0) else (zeroV, 1)
theorem put_null {o : O} (h : mayO o = true) (h0 : ∀ m, m < 5 → o.k ≠ m + 1) : putO o = nullV := by
  refine if_pos ?_
  unfold mayO at h
  simp only [Bool.and_eq_true] at h
  have := of_decide_eq_true h.1.1.1
  have h4 := h0 (o.k - 1)
  omega
theorem put_some {o : O} (h : o.k ≠ 0) : putO o = .mk 25 0 ⟨#[]⟩ (putL (34 + o.k) (trim (tellO o))) := if_neg h
theorem size_nil : (⟨#[]⟩ : ByteArray).size = 0 := rfl
theorem flag_bulk (n : Nat) : bulk (flagV n) = 1 := by
  unfold flagV
  by_cases h : n = 0
  · rw [if_pos h]; rfl
  · rw [if_neg h]; rfl
theorem tell_bulk (o : O) : bulkL (tellO o) ≤ o.c.size + 10 := by
  unfold tellO
  by_cases e1 : o.k = 1
  · rw [if_pos e1]; simp only [bulkL, bulk, size_nil]; omega
  · rw [if_neg e1]
    by_cases e3 : o.k = 3
    · rw [if_pos e3]
      unfold errV
      by_cases hc : o.c.size = 0
      · rw [if_pos hc]; simp only [nullV, bulkL, bulk, size_nil]; omega
      · rw [if_neg hc]; simp only [putL, bulkL, bulk, size_nil]; omega
    · rw [if_neg e3]
      by_cases e5 : o.k = 5
      · rw [if_pos e5]
        simp only [bulkL, flag_bulk]; omega
      · rw [if_neg e5]; simp only [bulkL]; omega
/-- What is kept while an outcome is put: its box, the answer's box, the five. -/
structure SG (w wi : World) (x0 x1 x2 x3 : Value) (g o : Nat) : Prop where
  b1 : BxO wi w.heap.size x0 x1 x2 x3
  b2 : Box wi (w.heap.size + 1) (.int .u8 0) (.int .u64 0) (.string ⟨#[]⟩) (.slice none 0 0)
  fv : Fv wi g o
  low : Below w.heap.size w wi
section
variable {w wi w' : World} {x0 x1 x2 x3 : Value} {g o : Nat}
theorem SG.call (h : SG w wi x0 x1 x2 x3 g o) (hb : Below wi.heap.size wi w') : SG w w' x0 x1 x2 x3 g o := ⟨h.b1.call hb, h.b2.call hb, h.fv.call hb, below_next h.low hb⟩
theorem SG.alloc (h : SG w wi x0 x1 x2 x3 g o) (b : Obj) : SG w (wi.alloc b) x0 x1 x2 x3 g o := h.call ((Below.refl _ _).alloc (Nat.le_refl _) _)
theorem SG.drew (h : SG w wi x0 x1 x2 x3 g o) : SG w wi.drew x0 x1 x2 x3 g o := h.call (Below.refl _ _).drew
end

set_option maxHeartbeats 2000000 in
theorem oput_any (k a b : Nat) (c : ByteArray) (w : World) (hs : c.size ≤ 268435456) (ha : a < 18446744073709551616) (hb : b < 18446744073709551616) : Calls Tryd.prog 4 #[.agg #[.int .u8 (k : Int), .int .u64 (a : Int), .int .u64 (b : Int), .string c]] w (GivesVE (putR ⟨k, a, b, c⟩).1 (putR ⟨k, a, b, c⟩).2 w) := by
  have hB : Below w.heap.size w ((w.alloc (.cells #[.int .u8 (k : Int), .int .u64 (a : Int), .int .u64 (b : Int), .string c] 24)).alloc (.cells #[.int .u8 0, .int .u64 0, .string ⟨#[]⟩, .slice none 0 0] 27)) := two_boxes w _ _
  have h1 : BxO ((w.alloc (.cells #[.int .u8 (k : Int), .int .u64 (a : Int), .int .u64 (b : Int), .string c] 24)).alloc (.cells #[.int .u8 0, .int .u64 0, .string ⟨#[]⟩, .slice none 0 0] 27)) w.heap.size (.int .u8 (k : Int)) (.int .u64 (a : Int)) (.int .u64 (b : Int)) (.string c) := (BxO.new w _ _ _ _).call ((Below.refl _ _).alloc (Nat.le_refl _) _)
  have h2 := Box.new2 w (.cells #[.int .u8 (k : Int), .int .u64 (a : Int), .int .u64 (b : Int), .string c] 24) (.int .u8 0) (.int .u64 0) (.string ⟨#[]⟩) (.slice none 0 0)
  have HM := Lib.hid (fun w => maybe_any k a b c w (by omega))
  have HB := Lib.hid hB
  have H1 := Lib.hid h1
  have H2 := Lib.hid h2
  clear hB h1 h2
  cases hm : mayO ⟨k, a, b, c⟩ with
  | false =>
    rw [hm] at HM
    have HE : Hid (putR ⟨k, a, b, c⟩ = (zeroV, 1)) := Lib.hid (if_neg (by rw [hm]; exact Bool.false_ne_true))
    clear hm hs ha hb
    go_enter Tryd.func4, Tryd.ntmps4
    go_wp2_with fail
    refine (HM.out _).mono ?_
    rintro e w1 ⟨rfl, hb1⟩
    obtain ⟨d0, d1, d2, d3, df⟩ := (H2.out.call hb1).all
    have HB1 := Lib.hid (below_next HB.out hb1)
    clear hb1
    go_wp2
    refine bodyPost_ret (v := .tuple #[.agg #[.int .u8 0, .int .u64 0, .string ⟨#[]⟩, .slice none 0 0], .int .i64 1]) (by simp [results, Tryd.results4, go_sem, d0, d1, d2, d3]) rfl ?_
    rw [HE.out]
    exact ⟨0, 0, ⟨#[]⟩, [], none, 0, 0, rfl, by omega, by omega, rfl, Go.Proofs.YtohmnbefokhjpaaDoor.Val.Kids.none_ _ _ _ _ _, below_set4 HB1.out (by omega) _ _ _ _⟩
  | true =>
    rw [hm] at HM
    have HE : Hid (putR ⟨k, a, b, c⟩ = (putO ⟨k, a, b, c⟩, 0)) := Lib.hid (if_pos hm)
    have HMM := Lib.hid hm
    have HS := Lib.hid hs
    have HA := Lib.hid ha
    have HBB := Lib.hid hb
    clear hm hs ha hb
    go_enter Tryd.func4, Tryd.ntmps4
    go_wp2_with fail
    refine (HM.out _).mono ?_
    rintro e w1 ⟨rfl, hb1⟩
    have h11 := H1.out.call hb1
    have h21 := H2.out.call hb1
    have hB1 := below_next HB.out hb1
    have H11 := Lib.hid h11
    have H21 := Lib.hid h21
    have HB1 := Lib.hid hB1
    clear hb1 h11 h21 hB1 HM
    go_wp2_with fail
    refine (five_any _).mono ?_
    rintro e w2 ⟨g, o, rfl, hF, hb2⟩
    have hG : SG w w2 (.int .u8 (k : Int)) (.int .u64 (a : Int)) (.int .u64 (b : Int)) (.string c) g o := ⟨H11.out.call hb2, H21.out.call hb2, hF, below_next HB1.out hb2⟩
    have HG := Lib.hid hG
    clear hb2 hF hG H11 H21 HB1 H1 H2 HB
    go_wp2_with fail
    go_loopw [12] (fun s wr => ∃ j : Nat, j ≤ 5 ∧ s = .int .i64 j ∧ (∀ m, m < j → k ≠ m + 1) ∧ SG w wr (.int .u8 (k : Int)) (.int .u64 (a : Int)) (.int .u64 (b : Int)) (.string c) g o) (fun s _ => 5 - (intOf s).toNat)
    case atStart => exact ⟨0, by omega, rfl, fun m hm => by omega, HG.out⟩
    case round =>
      obtain ⟨j, hj, rfl, hno, hS⟩ := hrel
      have HNO := Lib.hid hno
      have HSS := Lib.hid hS
      clear hno hS HG
      by_cases hlt : j < 5
      · obtain ⟨ft, fr, htl, hrd, het, _, c0, c1, c2, c3, c4, c5⟩ := HSS.out.fv.2 j hlt
        obtain ⟨x0, x1, x2, x3, xf⟩ := HSS.out.b1.all
        have hs1 := HSS.out.b1.lt
        have hs2 := HSS.out.b2.lt
        have hne : ¬ w.heap.size = wr.heap.size := by omega
        have hct : ∀ (args : Array Value) (w : World), (callFunc ft args).run Tryd.prog w = .ok (.enter ft args) w := het
        clear het
        have HTL := Lib.hid htl
        obtain ⟨p, hp⟩ : ∃ p, o + j * 6 = p := ⟨_, rfl⟩
        obtain ⟨k', hk'⟩ : ∃ k', j + 1 = k' := ⟨_, rfl⟩
        obtain ⟨cd, hcd⟩ : ∃ cd, 34 + k' = cd := ⟨_, rfl⟩
        obtain ⟨nm, hnm⟩ : ∃ nm, oname k' = nm := ⟨_, rfl⟩
        obtain ⟨mo, hmo⟩ : ∃ mo, mostN k' = mo := ⟨_, rfl⟩
        rw [hk'] at c0 c1 c2 c3 HTL
        rw [hp] at c0 c1 c2 c3 c4 c5
        rw [hcd] at c1
        rw [hnm] at c2
        rw [hmo] at c3
        clear htl hrd hnm hmo
        by_cases hk : k = k'
        · subst hk
          have HCD := Lib.hid hcd
          have HKK := Lib.hid hk'
          clear hcd hk'
          go_upto_region 7 with fail
          go_region_with (first
            | (go_at_call 13; refine (put_any cd (tellO ⟨k, a, b, c⟩) A1 l1 m1 w3 (by have := HS.out; have := tell_bulk ⟨k, a, b, c⟩; simp only at this; omega) (by have := HCD.out; have := HKK.out; omega) HK3.out).mono ?_; rintro e w4 ⟨A4, l4, c4', rfl, hN4, hb4⟩; have HS4 := Lib.hid (HS3.out.call hb4); have HN4 := Lib.hid hN4; clear hb4 hN4; obtain ⟨d0, d1, d2, d3, df⟩ := HS4.out.b2.all)
            | (refine (HTL.out a b c _ HMM.out HS.out HA.out HBB.out).mono ?_; rintro e w3 ⟨A1, l1, m1, rfl, hK3, hb3⟩; have HS3 := Lib.hid (SG.call (SG.drew (SG.alloc HSS.out _)) hb3); have e1 : w3.cell? ⟨wr.heap.size, 1, none⟩ = some (.int .u64 (cd : Int)) := (hb3.cell (p := ⟨wr.heap.size, 1, none⟩) (by simp)).trans (by simp); have HK3 := Lib.hid hK3; clear hb3 hK3)
            | fail)
          all_goals
            go_wp2_with fail
            refine bodyPost_ret (v := .tuple #[.agg #[.int .u8 25, .int .u64 0, .string ⟨#[]⟩, .slice A4 l4 c4'], .int .i64 0]) (by simp [results, Tryd.results4, go_sem, d0, d1, d2, d3]) rfl ?_
            rw [HE.out]
            have hl3 := HS3.out.b2.lt
            refine ⟨25, 0, ⟨#[]⟩, putL cd (trim (tellO ⟨k, a, b, c⟩)), A4, l4, c4', ?_, by omega, by omega, rfl, (HN4.out.far4 hl3 _ _ _ _).less (by omega), below_set4 HS4.out.low (by omega) _ _ _ _⟩
            have := put_some (o := ⟨k, a, b, c⟩) (by have := HKK.out; simp only; omega)
            rw [← HCD.out]
            exact this
        · have hkd : ((k' : Int) == (k : Int)) = false := by rw [beq_eq_false_iff_ne]; omega
          have HKK := Lib.hid hk'
          have HKN := Lib.hid hk
          clear hcd hk' hk
          go_wp2
          go_roundw
          case rel => exact ⟨j + 1, by omega, by go_num, fun m hm => by (by_cases h : m = j); (· subst h; rw [HKK.out]; exact HKN.out); (· exact HNO.out m (by omega)), HSS.out.alloc _⟩
          case measure => simp [intOf]; omega
      · have HNL : Hid (putO ⟨k, a, b, c⟩ = nullV) := Lib.hid (put_null HMM.out fun m hm => HNO.out m (by omega))
        go_wp2_with fail
        refine (nul_new _).mono ?_
        rintro e w3 ⟨rfl, hb3⟩
        have HS3 := Lib.hid (HSS.out.call hb3)
        clear hb3
        obtain ⟨d0, d1, d2, d3, df⟩ := HS3.out.b2.all
        go_wp2
        refine bodyPost_ret (v := .tuple #[.agg #[.int .u8 1, .int .u64 0, .string ⟨#[]⟩, .slice none 0 0], .int .i64 0]) (by simp [results, Tryd.results4, go_sem, d0, d1, d2, d3]) rfl ?_
        rw [HE.out]
        exact ⟨1, 0, ⟨#[]⟩, [], none, 0, 0, HNL.out, by omega, by omega, rfl, Go.Proofs.YtohmnbefokhjpaaDoor.Val.Kids.none_ _ _ _ _ _, below_set4 HS3.out.low (by omega) _ _ _ _⟩
end Go.Proofs.YtohmnbefokhjpaaDoor.Oc
