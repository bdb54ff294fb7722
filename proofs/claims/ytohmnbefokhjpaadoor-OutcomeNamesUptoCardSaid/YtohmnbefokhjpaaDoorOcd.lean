/-
  Contracts of those that tell an outcome's fields. Memory that was there stays. Conditions: conditions of at most 2^28 bytes.
-/
import Derived.Test.YtohmnbefokhjpaaDoorOca
import Derived.Test.YtohmnbefokhjpaaDoorElem
namespace Go.Proofs.YtohmnbefokhjpaaDoor.Oc
set_option maxRecDepth 100000
open Go.RowKit Go.Proofs.YtohmnbefokhjpaaDoor.Utf Go.Proofs.YtohmnbefokhjpaaDoor.Val Go.Proofs.YtohmnbefokhjpaaDoor.Fl V

/-- Fields that are told. -/
def GivesTell (o : O) (w : World) (e : Ending) (w' : World) : Prop := ∃ A l c, e = .returned (.slice A l c) ∧ Kd w' (tellO o) A l c ∧ Below w.heap.size w w'
theorem tellno_any (o : O) (ho : tellO o = []) (x0 x1 x2 x3 : Value) (w : World) : Calls Tryd.prog 22 #[.agg #[x0, x1, x2, x3]] w (GivesTell o w) := by
  have hb0 : Below w.heap.size w (w.alloc (.cells #[x0, x1, x2, x3] 24)) := (Below.refl _ _).alloc (Nat.le_refl _) _
  have HB := Lib.hid hb0
  have HO := Lib.hid ho
  clear hb0 ho
  go_enter Tryd.func22, Tryd.ntmps22
  go_wp2
  go_ret
  exact ⟨none, 0, 0, rfl, by rw [HO.out]; exact Kd.none_ _ _ _, HB.out⟩
set_option maxHeartbeats 2000000 in
theorem tellrec_any (a b : Nat) (c : ByteArray) (w : World) (ha : a < 18446744073709551616) (hb : b < 18446744073709551616) : Calls Tryd.prog 20 #[.agg #[.int .u8 1, .int .u64 (a : Int), .int .u64 (b : Int), .string c]] w (GivesTell ⟨1, a, b, c⟩ w) := by
  have HX := Lib.hid (BxO.new w (.int .u8 1) (.int .u64 (a : Int)) (.int .u64 (b : Int)) (.string c))
  have hb0 : Below w.heap.size w (w.alloc (.cells #[.int .u8 1, .int .u64 (a : Int), .int .u64 (b : Int), .string c] 24)) := (Below.refl _ _).alloc (Nat.le_refl _) _
  have HB := Lib.hid hb0
  have HA := Lib.hid ha
  have HBB := Lib.hid hb
  clear hb0 ha hb
  go_enter Tryd.func20, Tryd.ntmps20
  go_upto_region 1 with fail
  go_region_with (first
    | (go_at_call 10; with_reducible refine (num_any 5 (a : Int) _).mono ?_; rintro e w1 ⟨rfl, hb1⟩; obtain ⟨d0, d1, d2, d3, df⟩ := ((HX.out.call ((Below.refl _ _).drew)).call hb1).all; have HB1 := Lib.hid (below_next (HB.out.drew) hb1); have HX1 := Lib.hid ((HX.out.call ((Below.refl _ _).drew)).call hb1); clear hb1)
    | (go_at_call 10; with_reducible refine (num_any 6 (b : Int) _).mono ?_; rintro e w2 ⟨rfl, hb2⟩; have HB2 := Lib.hid (below_next HB1.out hb2); clear hb2)
    | fail)
  all_goals
    go_wp2_with fail
    go_ret
    refine ⟨_, _, _, rfl, ?_, HB2.out.alloc HB2.out.size _⟩
    exact kids_two (k := 5) (k' := 6) (by omega) HA.out (by omega) HBB.out (Kd.none_ _ _ _) (Kd.none_ _ _ _)
set_option maxHeartbeats 2000000 in
theorem tellmod_any (a b : Nat) (c : ByteArray) (w : World) : Calls Tryd.prog 27 #[.agg #[.int .u8 5, .int .u64 (a : Int), .int .u64 (b : Int), .string c]] w (GivesTell ⟨5, a, b, c⟩ w) := by
  have HX := Lib.hid (BxO.new w (.int .u8 5) (.int .u64 (a : Int)) (.int .u64 (b : Int)) (.string c))
  have hb0 : Below w.heap.size w (w.alloc (.cells #[.int .u8 5, .int .u64 (a : Int), .int .u64 (b : Int), .string c] 24)) := (Below.refl _ _).alloc (Nat.le_refl _) _
  have HB := Lib.hid hb0
  have HE : Hid (tellO ⟨5, a, b, c⟩ = [flagV a, flagV b]) := Lib.hid rfl
  clear hb0
  go_enter Tryd.func27, Tryd.ntmps27
  go_upto_region 1 with fail
  go_region_with (first
    | (go_at_call 40; with_reducible refine (true_any a _).mono ?_; rintro e w1 ⟨k1, n1, hf1, hk1, hn1, rfl, hb1⟩; obtain ⟨d0, d1, d2, d3, df⟩ := ((HX.out.call ((Below.refl _ _).drew)).call hb1).all; have HB1 := Lib.hid (below_next (HB.out.drew) hb1); have HX1 := Lib.hid ((HX.out.call ((Below.refl _ _).drew)).call hb1); have HF1 := Lib.hid hf1; have HK1 := Lib.hid hk1; have HN1 := Lib.hid hn1; clear hb1 hf1 hk1 hn1)
    | (go_at_call 40; with_reducible refine (true_any b _).mono ?_; rintro e w2 ⟨k2, n2, hf2, hk2, hn2, rfl, hb2⟩; have HB2 := Lib.hid (below_next HB1.out hb2); have HF2 := Lib.hid hf2; have HK2 := Lib.hid hk2; have HN2 := Lib.hid hn2; clear hb2 hf2 hk2 hn2)
    | fail)
  all_goals
    go_wp2_with fail
    go_ret
    refine ⟨_, _, _, rfl, ?_, HB2.out.alloc HB2.out.size _⟩
    rw [HE.out, HF1.out, HF2.out]
    exact kids_two HK1.out HN1.out HK2.out HN2.out (Kd.none_ _ _ _) (Kd.none_ _ _ _)
theorem tellrej_any (a b : Nat) (c : ByteArray) (w : World) (hc : cOk c = true) (hs : c.size ≤ 268435456) : Calls Tryd.prog 24 #[.agg #[.int .u8 3, .int .u64 (a : Int), .int .u64 (b : Int), .string c]] w (GivesTell ⟨3, a, b, c⟩ w) := by
  have hb0 : Below w.heap.size w (w.alloc (.cells #[.int .u8 3, .int .u64 (a : Int), .int .u64 (b : Int), .string c] 24)) := (Below.refl _ _).alloc (Nat.le_refl _) _
  have hp := fun w => putcond_any c w hs
  rw [show condV c = (errV c, 0) from if_pos hc] at hp
  have HP := Lib.hid hp
  have HB := Lib.hid hb0
  have HE : Hid (tellO ⟨3, a, b, c⟩ = [errV c]) := Lib.hid rfl
  clear hb0 hc hs hp
  go_enter Tryd.func24, Tryd.ntmps24
  go_wp2_with fail
  refine (HP.out _).mono ?_
  rintro e w1 ⟨k, n, t, ks, A1, l1, c1, hv, hk, hn, rfl, hN, hb1⟩
  have HV := Lib.hid hv
  have HK := Lib.hid hk
  have HN := Lib.hid hn
  have HW := Lib.hid hN.kd
  have HB1 := Lib.hid (below_next HB.out hb1)
  clear hv hk hn hN hb1
  go_wp2
  go_ret
  refine ⟨_, _, _, rfl, ?_, (HB1.out.alloc HB1.out.size _).alloc (by have := HB1.out.size; simp; omega) _⟩
  rw [HE.out]
  have hv : errV c = .mk k n t ks := HV.out
  rw [hv]
  have := kid1 (t := t) HK.out HN.out (HW.out.alloc (.cells #[.int .u8 (k : Int), .int .u64 (n : Int), .string t, .slice A1 l1 c1] 27))
  simpa using this
end Go.Proofs.YtohmnbefokhjpaaDoor.Oc
