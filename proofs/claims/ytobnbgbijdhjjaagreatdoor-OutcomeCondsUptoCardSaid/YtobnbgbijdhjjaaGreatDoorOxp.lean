/-
  Contracts of the document's PutCond, May, flag and what they lean on. Memory that was there stays. Conditions: conditions of at most 2^28 bytes.
-/
import Derived.Test.YtobnbgbijdhjjaaGreatDoorOcg
import Derived.Test.YtobnbgbijdhjjaaGreatDoorFxp
namespace Go.Proofs.YtobnbgbijdhjjaaGreatDoor.Oc
set_option maxRecDepth 100000
open Go.RowKit Go.Proofs.YtobnbgbijdhjjaaGreatDoor.Utf Go.Proofs.YtobnbgbijdhjjaaGreatDoor.Val Go.Proofs.YtobnbgbijdhjjaaGreatDoor.Fl V

theorem xnul_new (w : World) : Calls Tryz.prog 20 #[] w fun e w' => e = .returned (.agg #[.int .u8 1, .int .u64 0, .string ⟨#[]⟩, .slice none 0 0]) ∧ Below w.heap.size w w' := by
  go_enter Tryz.func20, Tryz.ntmps20
  go_wp2
  exact bodyPost_ret (v := .agg #[.int .u8 1, .int .u64 0, .string ⟨#[]⟩, .slice none 0 0]) (by simp [results, Tryz.results20, go_sem]) rfl ⟨rfl, (Below.refl _ _).alloc (Nat.le_refl _) _⟩
theorem xnum_new (k n : Int) (w : World) : Calls Tryz.prog 38 #[.int .u8 k, .int .u64 n] w fun e w' => e = .returned (.agg #[.int .u8 k, .int .u64 n, .string ⟨#[]⟩, .slice none 0 0]) ∧ Below w.heap.size w w' := by
  go_enter Tryz.func38, Tryz.ntmps38
  go_wp2
  exact bodyPost_ret (v := .agg #[.int .u8 k, .int .u64 n, .string ⟨#[]⟩, .slice none 0 0]) (by simp [results, Tryz.results38, go_sem]) rfl ⟨rfl, (Below.refl _ _).alloc (Nat.le_refl _) _⟩
theorem xsym_new (t : ByteArray) (w : World) : Calls Tryz.prog 22 #[.int .u8 21, .string t] w fun e w' => e = .returned (.agg #[.int .u8 21, .int .u64 0, .string t, .slice none 0 0]) ∧ Below w.heap.size w w' := by
  go_enter Tryz.func22, Tryz.ntmps22
  go_wp2
  exact bodyPost_ret (v := .agg #[.int .u8 21, .int .u64 0, .string t, .slice none 0 0]) (by simp [results, Tryz.results22, go_sem]) rfl ⟨rfl, (Below.refl _ _).alloc (Nat.le_refl _) _⟩
theorem xp29 (ls : List V) (A : Option Addr) (l c : Nat) (w : World) (hN : bulkL ls ≤ 536870912) (hK : Kd w ls A l c) : Calls Tryz.prog 21 #[.int .u64 29, .slice A l c] w (GivesU 29 (trim ls) w) := Fl.xput_any 29 ls A l c w hN (by omega) hK

set_option maxHeartbeats 1000000 in
theorem xputcond_any (c : ByteArray) (w : World) (hs : c.size ≤ 268435456) : Calls Tryz.prog 7 #[.string c] w (GivesVE (condV c).1 (condV c).2 w) := by
  have hx := Box.new w (.int .u8 0) (.int .u64 0) (.string ⟨#[]⟩) (.slice none 0 0)
  have hb0 : Below w.heap.size w (w.alloc (.cells #[.int .u8 0, .int .u64 0, .string ⟨#[]⟩, .slice none 0 0] 25)) := (Below.refl _ _).alloc (Nat.le_refl _) _
  obtain ⟨w1, cc, hrun, hc', hr, hb1⟩ := conv_str (w.alloc (.cells #[.int .u8 0, .int .u64 0, .string ⟨#[]⟩, .slice none 0 0] 25)) c
  simp only [World.size_alloc] at hr hrun
  have HX1 := Lib.hid (hx.call hb1)
  have HB1 := Lib.hid (below_next hb0 hb1)
  have HA := Lib.hid (rascii_any _ _ _ cc _ w1 hr (by omega))
  have HS := Lib.hid hs
  clear hx hb0 hs hb1 hr hc'
  cases hc : cOk c with
  | false =>
    have HA2 : Hid (Calls Tryz.prog 19 #[.slice _ c.size cc] w1 fun e w' => e = .returned (.bool false) ∧ w1 = w') := Lib.hid (by have := HA.out; unfold cOk at hc; rw [hc] at this; exact this)
    have HE : Hid (condV c = (Oc.zeroV, 1)) := Lib.hid (by unfold condV; rw [hc]; rfl)
    clear hc HA
    go_enter Tryz.func7, Tryz.ntmps7
    go_wp2_with fail
    with_reducible refine HA2.out.mono ?_
    rintro e w2 ⟨rfl, rfl⟩
    obtain ⟨d0, d1, d2, d3, df⟩ := HX1.out.all
    go_wp2
    refine bodyPost_ret (v := .tuple #[.agg #[.int .u8 0, .int .u64 0, .string ⟨#[]⟩, .slice none 0 0], .int .i64 1]) (by simp [results, Tryz.results7, go_sem, d0, d1, d2, d3]) rfl ?_
    rw [HE.out]
    exact ⟨0, 0, ⟨#[]⟩, [], none, 0, 0, rfl, by omega, by omega, rfl, Go.Proofs.YtobnbgbijdhjjaaGreatDoor.Val.Kids.none_ _ _ _ _ _, below_set4 HB1.out (by omega) _ _ _ _⟩
  | true =>
    have HA2 : Hid (Calls Tryz.prog 19 #[.slice _ c.size cc] w1 fun e w' => e = .returned (.bool true) ∧ w1 = w') := Lib.hid (by have := HA.out; unfold cOk at hc; rw [hc] at this; exact this)
    have HE : Hid (condV c = (errV c, 0)) := Lib.hid (by unfold condV; rw [hc]; rfl)
    clear hc HA
    by_cases h0 : c.size = 0
    · have HE2 : Hid (errV c = nullV) := Lib.hid (err_null h0)
      obtain rfl := empty_of h0
      clear h0
      go_enter Tryz.func7, Tryz.ntmps7
      go_wp2_with fail
      refine HA2.out.mono ?_
      rintro e w2 ⟨rfl, rfl⟩
      go_wp2_with fail
      refine (xnul_new _).mono ?_
      rintro e w2 ⟨rfl, hb2⟩
      obtain ⟨d0, d1, d2, d3, df⟩ := (HX1.out.call hb2).all
      have HB2 := Lib.hid (below_next HB1.out hb2)
      clear hb2
      go_wp2
      refine bodyPost_ret (v := .tuple #[.agg #[.int .u8 1, .int .u64 0, .string ⟨#[]⟩, .slice none 0 0], .int .i64 0]) (by simp [results, Tryz.results7, go_sem, d0, d1, d2, d3]) rfl ?_
      rw [HE.out, HE2.out]
      exact ⟨1, 0, ⟨#[]⟩, [], none, 0, 0, rfl, by omega, by omega, rfl, Go.Proofs.YtobnbgbijdhjjaaGreatDoor.Val.Kids.none_ _ _ _ _ _, below_set4 HB2.out (by omega) _ _ _ _⟩
    · have HE2 := Lib.hid (err_kind h0)
      have hd : c.toList.isEmpty = false := empty_no' h0
      clear h0
      go_enter Tryz.func7, Tryz.ntmps7
      go_wp2_with fail
      with_reducible refine HA2.out.mono ?_
      rintro e w2 ⟨rfl, rfl⟩
      go_wp2_with fail
      refine (xsym_new c _).mono ?_
      rintro e w2 ⟨rfl, hb2⟩
      have HX2 := Lib.hid ((HX1.out.call hb2).alloc (.cells #[.int .u8 21, .int .u64 0, .string c, .slice none 0 0] 25))
      have HB2 := Lib.hid (below_next (below_next HB1.out hb2) ((Below.refl _ _).alloc (Nat.le_refl _) (.cells #[.int .u8 21, .int .u64 0, .string c, .slice none 0 0] 25)))
      clear hb2
      go_wp2_with fail
      refine (xp29 [.mk 21 0 c []] _ 1 1 _ (by have := HS.out; simp [bulkL, bulk]; omega) (kid21 c w2 _ rfl)).mono ?_
      rintro e w3 ⟨A1, l1, c1, rfl, hN3, hb3⟩
      obtain ⟨d0, d1, d2, d3, df⟩ := (HX2.out.call hb3).all
      have HN3 := Lib.hid hN3
      have HB3 := Lib.hid (below_next HB2.out hb3)
      have hs2 := HX2.out.lt
      clear hb3 hN3
      go_wp2
      refine bodyPost_ret (v := .tuple #[.agg #[.int .u8 25, .int .u64 0, .string ⟨#[]⟩, .slice A1 l1 c1], .int .i64 0]) (by simp [results, Tryz.results7, go_sem, d0, d1, d2, d3]) rfl ?_
      rw [HE.out, HE2.out]
      refine ⟨25, 0, ⟨#[]⟩, _, A1, l1, c1, rfl, by omega, by omega, rfl, ?_, below_set4 HB3.out (by omega) _ _ _ _⟩
      have hN3 := HN3.out
      rw [trim_sym] at hN3
      exact (hN3.far4 hs2 _ _ _ _).less (by have := HB2.out.size; omega)

end Go.Proofs.YtobnbgbijdhjjaaGreatDoor.Oc
