/-
  Contracts of value.Copy, Many, Desc, Depth, Items, and of the document's Many and Desc. Memory that was there stays. Condition: values of bulk at most 2^30.
-/
import Derived.Test.YtobnbgbijdhjjaaGreatDoorFoldv
namespace Go.Proofs.YtobnbgbijdhjjaaGreatDoor.Val
set_option maxRecDepth 100000
open Go.RowKit Go.Proofs.YtobnbgbijdhjjaaGreatDoor.Utf V

theorem vcopy_any (k n : Nat) (t : ByteArray) (ks : List V) (A : Option Addr) (l c : Nat) (w : World) (hN : bulkL ks ≤ 1073741824) (hk : k < 256) (hn : n < 18446744073709551616) (hK : Kd w ks A l c) :
    Calls Tryz.prog 42 #[.agg #[.int .u8 k, .int .u64 n, .string t, .slice A l c]] w (GivesN k n t ks w) := by
  have hb1 := Box.new2 w (.cells #[.int .u8 k, .int .u64 n, .string t, .slice A l c] 25) (.int .u8 0) (.int .u64 0) (.string ⟨#[]⟩) (.slice none 0 0)
  have hB := two_boxes w (.cells #[.int .u8 k, .int .u64 n, .string t, .slice A l c] 25) (.cells #[.int .u8 0, .int .u64 0, .string ⟨#[]⟩, .slice none 0 0] 25)
  have HN := Lib.hid hn
  clear hn
  go_enter Tryz.func42, Tryz.ntmps42
  go_wp2_with fail
  refine (foldV_any k n t ks A l c _ hN hk HN.out ((hK.alloc _).alloc _)).mono ?_
  rintro e w1 ⟨A1, l1, c1, rfl, hNw, hb⟩
  obtain ⟨d0, d1, d2, d3, df⟩ := (hb1.call hb).all
  have hB2 := below_next hB hb
  simp only [World.size_alloc] at hNw
  have HW := Lib.hid hNw
  clear hNw
  go_wp2
  refine bodyPost_ret (v := .agg #[.int .u8 k, .int .u64 n, .string t, .slice A1 l1 c1]) (by simp [results, Tryz.results42, go_sem, d0, d1, d2, d3]) rfl ?_
  exact ⟨A1, l1, c1, rfl, (HW.out.far4 (g := w.heap.size + 1) (by omega) _ _ _ _).less (by omega), below_set4 hB2 (by omega) _ _ _ _⟩
theorem vmany_any (k : Nat) (ks : List V) (A : Option Addr) (l c : Nat) (w : World) (hN : bulkL ks ≤ 1073741824) (hk : k < 256) (hK : Kd w ks A l c) :
    Calls Tryz.prog 61 #[.int .u8 k, .slice A l c] w (GivesN k 0 ⟨#[]⟩ ks w) := by
  have hb1 := Box.new w (.int .u8 0) (.int .u64 0) (.string ⟨#[]⟩) (.slice none 0 0)
  have hB : Below w.heap.size w (w.alloc (.cells #[.int .u8 0, .int .u64 0, .string ⟨#[]⟩, .slice none 0 0] 25)) := (Below.refl _ _).alloc (Nat.le_refl _) _
  go_enter Tryz.func61, Tryz.ntmps61
  go_wp2_with fail
  refine (vcopy_any k 0 ⟨#[]⟩ ks A l c _ hN hk (by omega) (hK.alloc _)).mono ?_
  rintro e w1 ⟨A1, l1, c1, rfl, hNw, hb⟩
  obtain ⟨d0, d1, d2, d3, df⟩ := (hb1.call hb).all
  have hB2 := below_next hB hb
  simp only [World.size_alloc] at hNw
  have HW := Lib.hid hNw
  clear hNw
  go_wp2
  refine bodyPost_ret (v := .agg #[.int .u8 k, .int .u64 0, .string ⟨#[]⟩, .slice A1 l1 c1]) (by simp [results, Tryz.results61, go_sem, d0, d1, d2, d3]) rfl ?_
  exact ⟨A1, l1, c1, rfl, (HW.out.far4 (g := w.heap.size) (by omega) _ _ _ _).less (by omega), below_set4 hB2 (by omega) _ _ _ _⟩
theorem xmany_any (k : Nat) (ks : List V) (A : Option Addr) (l c : Nat) (w : World) (hN : bulkL ks ≤ 1073741824) (hK : Kd w ks A l c) :
    Calls Tryz.prog 39 #[.int .u8 k, .slice A l c] w (GivesN k 0 ⟨#[]⟩ ks w) := by
  have hb1 := Box.new w (.int .u8 0) (.int .u64 0) (.string ⟨#[]⟩) (.slice none 0 0)
  have hB : Below w.heap.size w (w.alloc (.cells #[.int .u8 0, .int .u64 0, .string ⟨#[]⟩, .slice none 0 0] 25)) := (Below.refl _ _).alloc (Nat.le_refl _) _
  go_enter Tryz.func39, Tryz.ntmps39
  go_wp2_with fail
  refine (xcopyAll_any _ ks A l c _ (Nat.le_refl _) hN (hK.alloc _)).mono ?_
  rintro e w1 ⟨A1, l1, c1, rfl, hNw, hb⟩
  obtain ⟨d0, d1, d2, d3, df⟩ := (hb1.call hb).all
  have hB2 := below_next hB hb
  simp only [World.size_alloc] at hNw
  have HW := Lib.hid hNw
  clear hNw
  go_wp2
  refine bodyPost_ret (v := .agg #[.int .u8 k, .int .u64 0, .string ⟨#[]⟩, .slice A1 l1 c1]) (by simp [results, Tryz.results39, go_sem, d0, d1, d2, d3]) rfl ?_
  exact ⟨A1, l1, c1, rfl, (HW.out.far4 (g := w.heap.size) (by omega) _ _ _ _).less (by omega), below_set4 hB2 (by omega) _ _ _ _⟩

/-- Two values beside one another, in a new row. -/
theorem kids_two {w : World} {k n k' n' : Nat} {t t' : ByteArray} {ks ks' : List V} {A A' : Option Addr} {l c l' c' : Nat} (hk : k < 256) (hn : n < 18446744073709551616) (hk' : k' < 256) (hn' : n' < 18446744073709551616) (hK : Kd w ks A l c) (hK' : Kd w ks' A' l' c') :
    Kd (w.alloc (.cells #[.int .u8 k, .int .u64 n, .string t, .slice A l c, .int .u8 k', .int .u64 n', .string t', .slice A' l' c'] 25)) [.mk k n t ks, .mk k' n' t' ks'] (some ⟨w.heap.size, 0, none⟩) 2 2 := by
  refine ⟨rfl, Nat.le_refl _, fun _ => ⟨w.heap.size, 0, rfl, by simp, fun h => (by cases h), ?_⟩⟩
  refine ⟨repV_iff.2 ⟨A, l, c, by simp, by simp, by simp, by simp, hk, hn, hK.alloc _⟩, repV_iff.2 ⟨A', l', c', by simp, by simp, by simp, by simp, hk', hn', hK'.alloc _⟩, trivial⟩
theorem vdesc_any (k n : Nat) (t : ByteArray) (ks : List V) (A : Option Addr) (l c : Nat) (k' n' : Nat) (t' : ByteArray) (ks' : List V) (A' : Option Addr) (l' c' : Nat) (w : World) (hN : bulkL [.mk k n t ks, .mk k' n' t' ks'] ≤ 1073741824) (hk : k < 256) (hn : n < 18446744073709551616) (hk' : k' < 256) (hn' : n' < 18446744073709551616) (hK : Kd w ks A l c) (hK' : Kd w ks' A' l' c') :
    Calls Tryz.prog 35 #[.agg #[.int .u8 k, .int .u64 n, .string t, .slice A l c], .agg #[.int .u8 k', .int .u64 n', .string t', .slice A' l' c']] w (GivesN 25 0 ⟨#[]⟩ [.mk k n t ks, .mk k' n' t' ks'] w) := by
  have hb1 := (Box.new2 (w.alloc (.cells #[.int .u8 k, .int .u64 n, .string t, .slice A l c] 25)) (.cells #[.int .u8 k', .int .u64 n', .string t', .slice A' l' c'] 25) (.int .u8 0) (.int .u64 0) (.string ⟨#[]⟩) (.slice none 0 0)).alloc (.cells #[.int .u8 k, .int .u64 n, .string t, .slice A l c, .int .u8 k', .int .u64 n', .string t', .slice A' l' c'] 25)
  have hB := ((two_boxes w (.cells #[.int .u8 k, .int .u64 n, .string t, .slice A l c] 25) (.cells #[.int .u8 k', .int .u64 n', .string t', .slice A' l' c'] 25)).alloc (by simp; omega) (.cells #[.int .u8 0, .int .u64 0, .string ⟨#[]⟩, .slice none 0 0] 25)).alloc (by simp; omega) (.cells #[.int .u8 k, .int .u64 n, .string t, .slice A l c, .int .u8 k', .int .u64 n', .string t', .slice A' l' c'] 25)
  simp only [World.size_alloc] at hb1
  have hK2 := kids_two (t := t) (t' := t') hk hn hk' hn' (((hK.alloc (.cells #[.int .u8 k, .int .u64 n, .string t, .slice A l c] 25)).alloc (.cells #[.int .u8 k', .int .u64 n', .string t', .slice A' l' c'] 25)).alloc (.cells #[.int .u8 0, .int .u64 0, .string ⟨#[]⟩, .slice none 0 0] 25)) (((hK'.alloc (.cells #[.int .u8 k, .int .u64 n, .string t, .slice A l c] 25)).alloc (.cells #[.int .u8 k', .int .u64 n', .string t', .slice A' l' c'] 25)).alloc (.cells #[.int .u8 0, .int .u64 0, .string ⟨#[]⟩, .slice none 0 0] 25))
  simp only [World.size_alloc] at hK2
  have HK := Lib.hid hK2
  clear hK2 hn hn'
  go_enter Tryz.func35, Tryz.ntmps35
  go_wp2_with fail
  refine (vmany_any 25 _ _ 2 2 _ hN (by omega) HK.out).mono ?_
  rintro e w1 ⟨A1, l1, c1, rfl, hNw, hb⟩
  obtain ⟨d0, d1, d2, d3, df⟩ := (hb1.call hb).all
  have hB2 := below_next hB hb
  simp only [World.size_alloc] at hNw
  have HW := Lib.hid hNw
  clear hNw
  go_wp2
  refine bodyPost_ret (v := .agg #[.int .u8 25, .int .u64 0, .string ⟨#[]⟩, .slice A1 l1 c1]) (by simp [results, Tryz.results35, go_sem, d0, d1, d2, d3]) rfl ?_
  exact ⟨A1, l1, c1, rfl, (HW.out.far4 (g := w.heap.size + 1 + 1) (by omega) _ _ _ _).less (by omega), below_set4 hB2 (by omega) _ _ _ _⟩
end Go.Proofs.YtobnbgbijdhjjaaGreatDoor.Val
