/-
  Contract of the document's Desc: a value that is called something, in new memory. Memory that was there stays. Condition: values of bulk at most 2^30.
-/
import Derived.Test.YtobnbgbijdhjjaaGreatDoorMade
import Derived.Deep.RegionWith
namespace Go.Proofs.YtobnbgbijdhjjaaGreatDoor.Val
set_option maxRecDepth 100000
open Go.RowKit Go.Proofs.YtobnbgbijdhjjaaGreatDoor.Utf V

theorem news_two {w : World} {B : Nat} {k n k' n' : Nat} {t t' : ByteArray} {ks ks' : List V} {A A' : Option Addr} {l c l' c' : Nat} (hB : B ≤ w.heap.size) (hk : k < 256) (hn : n < 18446744073709551616) (hk' : k' < 256) (hn' : n' < 18446744073709551616) (hK : Nw B w ks A l c) (hK' : Nw B w ks' A' l' c') :
    Nw B (w.alloc (.cells #[.int .u8 k, .int .u64 n, .string t, .slice A l c, .int .u8 k', .int .u64 n', .string t', .slice A' l' c'] 25)) [.mk k n t ks, .mk k' n' t' ks'] (some ⟨w.heap.size, 0, none⟩) 2 2 := by
  have hb : Below w.heap.size w (w.alloc (.cells #[.int .u8 k, .int .u64 n, .string t, .slice A l c, .int .u8 k', .int .u64 n', .string t', .slice A' l' c'] 25)) := (Below.refl _ _).alloc (Nat.le_refl _) _
  refine ⟨rfl, Nat.le_refl _, fun _ => ⟨w.heap.size, 0, rfl, ⟨hB, by simp⟩, fun _ => ⟨_, heap_alloc_new w _⟩, ?_⟩⟩
  exact ⟨repV_iff.2 ⟨A, l, c, by simp, by simp, by simp, by simp, hk, hn, hK.call hb⟩, repV_iff.2 ⟨A', l', c', by simp, by simp, by simp, by simp, hk', hn', hK'.call hb⟩, trivial⟩

set_option maxRecDepth 100000 in
set_option maxHeartbeats 1000000 in
theorem xdesc_any (k n : Nat) (t : ByteArray) (ks : List V) (A : Option Addr) (l c : Nat) (k' n' : Nat) (t' : ByteArray) (ks' : List V) (A' : Option Addr) (l' c' : Nat) (w : World) (hN : bulkL ks ≤ 1073741824) (hN' : bulkL ks' ≤ 1073741824) (hk : k < 256) (hn : n < 18446744073709551616) (hk' : k' < 256) (hn' : n' < 18446744073709551616) (hK : Kd w ks A l c) (hK' : Kd w ks' A' l' c') :
    Calls Tryz.prog 37 #[.agg #[.int .u8 k, .int .u64 n, .string t, .slice A l c], .agg #[.int .u8 k', .int .u64 n', .string t', .slice A' l' c']] w (GivesN 25 0 ⟨#[]⟩ [.mk k n t ks, .mk k' n' t' ks'] w) := by
  have b0 := ((Box.new w (.int .u8 k) (.int .u64 n) (.string t) (.slice A l c)).alloc (.cells #[.int .u8 k', .int .u64 n', .string t', .slice A' l' c'] 25)).alloc (.cells #[.int .u8 0, .int .u64 0, .string ⟨#[]⟩, .slice none 0 0] 25)
  have b1 := (Box.new2 w (.cells #[.int .u8 k, .int .u64 n, .string t, .slice A l c] 25) (.int .u8 k') (.int .u64 n') (.string t') (.slice A' l' c')).alloc (.cells #[.int .u8 0, .int .u64 0, .string ⟨#[]⟩, .slice none 0 0] 25)
  have b2 := (Box.new ((w.alloc (.cells #[.int .u8 k, .int .u64 n, .string t, .slice A l c] 25)).alloc (.cells #[.int .u8 k', .int .u64 n', .string t', .slice A' l' c'] 25)) (.int .u8 0) (.int .u64 0) (.string ⟨#[]⟩) (.slice none 0 0))
  have bb : Below w.heap.size w (((w.alloc (.cells #[.int .u8 k, .int .u64 n, .string t, .slice A l c] 25)).alloc (.cells #[.int .u8 k', .int .u64 n', .string t', .slice A' l' c'] 25)).alloc (.cells #[.int .u8 0, .int .u64 0, .string ⟨#[]⟩, .slice none 0 0] 25)) :=
    (two_boxes w _ _).alloc (by simp; omega) _
  have hKW := ((hK.alloc (.cells #[.int .u8 k, .int .u64 n, .string t, .slice A l c] 25)).alloc (.cells #[.int .u8 k', .int .u64 n', .string t', .slice A' l' c'] 25)).alloc (.cells #[.int .u8 0, .int .u64 0, .string ⟨#[]⟩, .slice none 0 0] 25)
  have hKW' := ((hK'.alloc (.cells #[.int .u8 k, .int .u64 n, .string t, .slice A l c] 25)).alloc (.cells #[.int .u8 k', .int .u64 n', .string t', .slice A' l' c'] 25)).alloc (.cells #[.int .u8 0, .int .u64 0, .string ⟨#[]⟩, .slice none 0 0] 25)
  simp only [World.size_alloc] at b2
  have hsz : (((w.alloc (.cells #[.int .u8 k, .int .u64 n, .string t, .slice A l c] 25)).alloc (.cells #[.int .u8 k', .int .u64 n', .string t', .slice A' l' c'] 25)).alloc (.cells #[.int .u8 0, .int .u64 0, .string ⟨#[]⟩, .slice none 0 0] 25)).heap.size = w.heap.size + 3 := by simp
  obtain ⟨W0, hW0⟩ : ∃ W0, (((w.alloc (.cells #[.int .u8 k, .int .u64 n, .string t, .slice A l c] 25)).alloc (.cells #[.int .u8 k', .int .u64 n', .string t', .slice A' l' c'] 25)).alloc (.cells #[.int .u8 0, .int .u64 0, .string ⟨#[]⟩, .slice none 0 0] 25)) = W0 := ⟨_, rfl⟩
  rw [hW0] at b0 b1 b2 bb hKW hKW' hsz
  obtain ⟨p0, p1, p2, p3, pf⟩ := b0.all
  obtain ⟨q0, q1, q2, q3, qf⟩ := b1.all
  have HN := Lib.hid hN
  have HN' := Lib.hid hN'
  have HKW := Lib.hid hKW.drew
  have HKW' := Lib.hid hKW'.drew
  clear hN hN' hK hK' hKW hKW'
  go_enter Tryz.func37, Tryz.ntmps37
  go_upto_region 1 with fail
  clear hW0
  have hdr : W0.drew.heap.size = W0.heap.size := rfl
  go_region_with (first
    | (go_at_call 51; refine (xcopy_any k n t ks A l c W0.drew (by exact HN.out) (by exact HKW.out)).mono ?_; rintro e w1 ⟨A1, l1, c1, rfl, hNw1, hb1⟩; have y0 := box_kept (wr := W0.drew) q0 hb1 (by omega); have y1 := box_kept (wr := W0.drew) q1 hb1 (by omega); have y2 := box_kept (wr := W0.drew) q2 hb1 (by omega); have y3 := box_kept (wr := W0.drew) q3 hb1 (by omega))
    | (go_at_call 51; refine (xcopy_any k' n' t' ks' A' l' c' w1 (by exact HN'.out) (by exact HKW'.out.call hb1)).mono ?_; rintro e w2 ⟨A2, l2, c2, rfl, hNw2, hb2⟩; have hbd := below_next (w := W0) ((Below.refl _ W0).drew) hb1; have hbe := below_next hbd hb2; have B2 := (b2.call hbe).alloc (.cells #[.int .u8 k, .int .u64 n, .string t, .slice A1 l1 c1, .int .u8 k', .int .u64 n', .string t', .slice A2 l2 c2] 25); have B2s := B2.all; obtain ⟨d0, d1, d2, d3, df⟩ := B2s))
  all_goals
    have hs1 := hbd.size
    have hs2 := hbe.size
    have HNW := Lib.hid (news_two (B := W0.heap.size) (by omega) hk hn hk' hn' (t := t) (t' := t') ((hNw1.less (Nat.le_of_eq hdr.symm)).call hb2) (hNw2.less hs1))
    have HBE := Lib.hid (below_next bb hbe)
    clear hNw1 hNw2
    go_wp2_with fail
    obtain ⟨f0, f1, f2, f3, ff⟩ := (B2.set4 (.int .u8 25) (.int .u64 0) (.string ⟨#[]⟩) (.slice (some ⟨w2.heap.size, 0, none⟩) 2 2)).all
    refine bodyPost_ret (v := .agg #[.int .u8 25, .int .u64 0, .string ⟨#[]⟩, .slice (some ⟨w2.heap.size, 0, none⟩) 2 2]) (by simp [results, Tryz.results37, go_sem, f0, f1, f2, f3]) rfl ?_
    exact ⟨some ⟨w2.heap.size, 0, none⟩, 2, 2, rfl, (HNW.out.far4 (g := w.heap.size + 1 + 1) (by omega) _ _ _ _).less (by omega), below_set4 (HBE.out.alloc (by omega) _) (by omega) _ _ _ _⟩
end Go.Proofs.YtobnbgbijdhjjaaGreatDoor.Val
