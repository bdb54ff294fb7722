/-
  Contract of the document's Put. Memory that was there stays. Conditions: values of bulk at most 2^29.
-/
import Derived.Test.YtobnbgbijdhjjaaGreatDoorFpu
import Derived.Test.YtobnbgbijdhjjaaGreatDoorXdesc
import Derived.Deep.RegionWith
namespace Go.Proofs.YtobnbgbijdhjjaaGreatDoor.Fl
set_option maxRecDepth 100000
open Go.RowKit Go.Proofs.YtobnbgbijdhjjaaGreatDoor.Utf Go.Proofs.YtobnbgbijdhjjaaGreatDoor.Val V

theorem xnum6 (code : Nat) (w : World) : Calls Tryz.prog 38 #[.int .u8 6, .int .u64 (code : Int)] w fun e w' => e = .returned (.agg #[.int .u8 6, .int .u64 (code : Int), .string ⟨#[]⟩, .slice none 0 0]) ∧ Below w.heap.size w w' := by
  go_enter Tryz.func38, Tryz.ntmps38
  go_wp2
  exact bodyPost_ret (v := .agg #[.int .u8 6, .int .u64 (code : Int), .string ⟨#[]⟩, .slice none 0 0]) (by simp [results, Tryz.results38, go_sem]) rfl ⟨rfl, (Below.refl _ _).alloc (Nat.le_refl _) _⟩
/-- A list of values, in new memory. -/
def GivesM (ks : List V) (w : World) (e : Ending) (w' : World) : Prop := ∃ A l c, e = .returned (.agg #[.int .u8 22, .int .u64 0, .string ⟨#[]⟩, .slice A l c]) ∧ Nw w.heap.size w' ks A l c ∧ Below w.heap.size w w'
theorem xmany22 (ks : List V) (A : Option Addr) (l c : Nat) (w : World) (hN : bulkL ks ≤ 1073741824) (hK : Kd w ks A l c) : Calls Tryz.prog 39 #[.int .u8 22, .slice A l c] w (GivesM ks w) := xmany_any 22 ks A l c w hN hK
theorem xdesc_put (code : Nat) (ks : List V) (A : Option Addr) (l c : Nat) (w : World) (hN : bulkL ks ≤ 536870912) (hcode : code < 18446744073709551616) (hK : Kd w ks A l c) :
    Calls Tryz.prog 37 #[.agg #[.int .u8 6, .int .u64 (code : Int), .string ⟨#[]⟩, .slice none 0 0], .agg #[.int .u8 22, .int .u64 0, .string ⟨#[]⟩, .slice A l c]] w (GivesU code ks w) :=
  xdesc_any 6 code ⟨#[]⟩ [] none 0 0 22 0 ⟨#[]⟩ ks A l c w (by simp [bulkL]) (by omega) (by omega) hcode (by omega) (by omega) (Kd.none_ _ _ _) hK

set_option maxHeartbeats 2000000 in
theorem xput_any (code : Nat) (ls : List V) (A : Option Addr) (l c : Nat) (w : World) (hN : bulkL ls ≤ 536870912) (hcode : code < 18446744073709551616) (hK : Kd w ls A l c) :
    Calls Tryz.prog 21 #[.int .u64 (code : Int), .slice A l c] w (GivesU code (trim ls) w) := by
  have hx := Box.new w (.int .u8 0) (.int .u64 0) (.string ⟨#[]⟩) (.slice none 0 0)
  have hb0 : Below w.heap.size w (w.alloc (.cells #[.int .u8 0, .int .u64 0, .string ⟨#[]⟩, .slice none 0 0] 25)) := (Below.refl _ _).alloc (Nat.le_refl _) _
  have HT := Lib.hid (show trim ls = ls.take (cutN ls l) by unfold trim; rw [hK.len])
  have HCUT := Lib.hid (fun (j : Nat) (h1 : j ≤ l) => (cut_top (T := 23) (e := 25) (size := 4) Tryz.underlying23 rfl rfl A l c j h1 hK.cap))
  have hlb := length_bulk ls
  have hlen := hK.len
  have HL := Lib.hid (show l ≤ 536870912 by omega)
  have HN := Lib.hid hN
  have HC := Lib.hid hcode
  have HK := Lib.hid (hK.call hb0)
  have HX := Lib.hid hx
  have HB := Lib.hid hb0
  clear hN hcode hK hx hb0 hlb hlen
  go_enter Tryz.func21, Tryz.ntmps21
  go_wp2
  obtain ⟨W, hW⟩ : ∃ W, w.alloc (.cells #[.int .u8 0, .int .u64 0, .string ⟨#[]⟩, .slice none 0 0] 25) = W := ⟨_, rfl⟩
  have HWK : Hid (Kd W ls A l c) := Lib.hid (hW ▸ HK.out)
  have HWB : Hid (Below w.heap.size w W) := Lib.hid (hW ▸ HB.out)
  have HWX : Hid (Box W w.heap.size (.int .u8 0) (.int .u64 0) (.string ⟨#[]⟩) (.slice none 0 0)) := Lib.hid (hW ▸ HX.out)
  clear HK HB HX
  rw [hW]
  clear hW
  go_loopw [5] (fun s wr => ∃ j : Nat, j ≤ l ∧ s = .int .i64 j ∧ cutN ls j = cutN ls l ∧ W = wr) (fun s _ => (intOf s).toNat)
  case atStart => exact ⟨l, Nat.le_refl _, rfl, rfl, rfl⟩
  case round =>
    obtain ⟨j, hj, rfl, hq, rfl⟩ := hrel
    have HQ := Lib.hid hq
    have hL := HL.out
    have hDR : W.drew.heap.size = W.heap.size := rfl
    cases j with
    | zero =>
      clear hq
      have HKJ := Lib.hid (show Kd W.drew (ls.take 0) A 0 c from (kids_take (Kd.drew HWK.out) hj))
      have HE : Hid (ls.take 0 = trim ls) := Lib.hid (by rw [HT.out, ← HQ.out]; rfl)
      have hct := (HCUT.out 0 hj).1
      have hct2 := (HCUT.out 0 hj).2
      go_upto_region 4 with fail
      go_region_with (first
        | (go_at_call 38; refine (xnum6 code _).mono ?_; rintro e w2 ⟨rfl, hb2⟩; have HB2 := Lib.hid (show Below W.heap.size W w2 from below_next ((Below.refl _ W).drew) hb2))
        | (go_at_call 39; refine (xmany22 (ls.take (0)) A (0) c w2 (by have := HN.out; have := bulk_take ls (0); omega) (Kd.call (by exact HKJ.out) (by exact hb2))).mono ?_; rintro e w3 ⟨A3, l3, c3, rfl, hN3, hb3⟩; have HN3 := Lib.hid hN3)
        | (go_at_call 37; refine (xdesc_put code (ls.take (0)) A3 l3 c3 w3 (by have := HN.out; have := bulk_take ls (0); omega) HC.out (by exact HN3.out.kd)).mono ?_; rintro e w4 ⟨A4, l4, c4, rfl, hN4, hb4⟩; have HB4 := Lib.hid (below_next (below_next HB2.out hb3) hb4); have HS3 := Lib.hid (Nat.le_trans HB2.out.size hb3.size); have HN4 := Lib.hid hN4; obtain ⟨d0, d1, d2, d3, df⟩ := (HWX.out.call HB4.out).all)
        | fail)
      all_goals
        go_wp2_with fail
        refine bodyPost_ret (v := .agg #[.int .u8 25, .int .u64 0, .string ⟨#[]⟩, .slice A4 l4 c4]) (by simp [results, Tryz.results21, go_sem, d0, d1, d2, d3]) rfl ?_
        have hs1 := HWX.out.lt
        have hs3 := HS3.out
        have hsB := HWB.out.size
        exact ⟨A4, l4, c4, rfl, by rw [← HE.out]; exact (HN4.out.far4 (by omega) _ _ _ _).less (by omega), below_set4 (HWB.out.trans (HB4.out.mono hsB)) (by omega) _ _ _ _⟩
    | succ i =>
      obtain ⟨bb, oo, k', n', t', ks', A', l', c', hAA, hb', hx, h0, h1, h2, h3, hk', hn', hK'⟩ := HWK.out.at_ (i := i) (by omega)
      subst hAA
      have HX := Lib.hid hx
      by_cases hk1 : k' = 1
      · have hd : ((k' : Int) == 1) = true := by rw [hk1]; rfl
        have HE : Hid (cutN ls i = cutN ls l) := Lib.hid (by rw [← HQ.out, cutN_null HX.out hk1])
        clear hq hx hk1 hK' hk' hn'
        go_wp2
        go_roundw
        case rel => exact ⟨i, by omega, rfl, HE.out, by trivial⟩
        case measure => simp [intOf]
      · have hd : ((k' : Int) == 1) = false := by simp; omega
        have HE : Hid (ls.take (i + 1) = trim ls) := Lib.hid (by rw [HT.out, ← HQ.out, cutN_some HX.out hk1])
        have HKJ := Lib.hid (show Kd W.drew (ls.take (i + 1)) (some ⟨bb, oo, none⟩) (i + 1) c from (kids_take (Kd.drew HWK.out) hj))
        have hct := (HCUT.out (i + 1) hj).1
        have hct2 := (HCUT.out (i + 1) hj).2
        clear hq hx hk1 hK' hk' hn'
        go_upto_region 4 with fail
        go_region_with (first
          | (go_at_call 38; refine (xnum6 code _).mono ?_; rintro e w2 ⟨rfl, hb2⟩; have HB2 := Lib.hid (show Below W.heap.size W w2 from below_next ((Below.refl _ W).drew) hb2))
          | (go_at_call 39; refine (xmany22 (ls.take (i + 1)) (some ⟨bb, oo, none⟩) (i + 1) c w2 (by have := HN.out; have := bulk_take ls (i + 1); omega) (Kd.call (by exact HKJ.out) (by exact hb2))).mono ?_; rintro e w3 ⟨A3, l3, c3, rfl, hN3, hb3⟩; have HN3 := Lib.hid hN3)
          | (go_at_call 37; refine (xdesc_put code (ls.take (i + 1)) A3 l3 c3 w3 (by have := HN.out; have := bulk_take ls (i + 1); omega) HC.out (by exact HN3.out.kd)).mono ?_; rintro e w4 ⟨A4, l4, c4, rfl, hN4, hb4⟩; have HB4 := Lib.hid (below_next (below_next HB2.out hb3) hb4); have HS3 := Lib.hid (Nat.le_trans HB2.out.size hb3.size); have HN4 := Lib.hid hN4; obtain ⟨d0, d1, d2, d3, df⟩ := (HWX.out.call HB4.out).all)
          | fail)
        all_goals
          go_wp2_with fail
          refine bodyPost_ret (v := .agg #[.int .u8 25, .int .u64 0, .string ⟨#[]⟩, .slice A4 l4 c4]) (by simp [results, Tryz.results21, go_sem, d0, d1, d2, d3]) rfl ?_
          have hs1 := HWX.out.lt
          have hs3 := HS3.out
          have hsB := HWB.out.size
          exact ⟨A4, l4, c4, rfl, by rw [← HE.out]; exact (HN4.out.far4 (by omega) _ _ _ _).less (by omega), below_set4 (HWB.out.trans (HB4.out.mono hsB)) (by omega) _ _ _ _⟩
end Go.Proofs.YtobnbgbijdhjjaaGreatDoor.Fl
