/-
  Contracts of value.Copy, Many, Desc, Depth, Items, and of the document's Many and Desc. Memory that was there stays. Condition: values of bulk at most 2^30.
-/
import Derived.Test.YtohmnbefokhjpaaDoorFoldv
namespace Go.Proofs.YtohmnbefokhjpaaDoor.Val
set_option maxRecDepth 100000
open Go.RowKit Go.Proofs.YtohmnbefokhjpaaDoor.Utf V

theorem vcopy_any (k n : Nat) (t : ByteArray) (ks : List V) (A : Option Addr) (l c : Nat) (w : World) (hN : bulkL ks ≤ 1073741824) (hk : k < 256) (hn : n < 18446744073709551616) (hK : Kd w ks A l c) :
    Calls Tryd.prog 6 #[.agg #[.int .u8 k, .int .u64 n, .string t, .slice A l c]] w (GivesN k n t ks w) := by
  have hb1 := Box.new2 w (.cells #[.int .u8 k, .int .u64 n, .string t, .slice A l c] 27) (.int .u8 0) (.int .u64 0) (.string ⟨#[]⟩) (.slice none 0 0)
  have hB := two_boxes w (.cells #[.int .u8 k, .int .u64 n, .string t, .slice A l c] 27) (.cells #[.int .u8 0, .int .u64 0, .string ⟨#[]⟩, .slice none 0 0] 27)
  have HN := Lib.hid hn
  clear hn
  go_enter Tryd.func6, Tryd.ntmps6
  go_wp2_with fail
  refine (foldV_any k n t ks A l c _ hN hk HN.out ((hK.alloc _).alloc _)).mono ?_
  rintro e w1 ⟨A1, l1, c1, rfl, hNw, hb⟩
  obtain ⟨d0, d1, d2, d3, df⟩ := (hb1.call hb).all
  have hB2 := below_next hB hb
  simp only [World.size_alloc] at hNw
  have HW := Lib.hid hNw
  clear hNw
  go_wp2
  refine bodyPost_ret (v := .agg #[.int .u8 k, .int .u64 n, .string t, .slice A1 l1 c1]) (by simp [results, Tryd.results6, go_sem, d0, d1, d2, d3]) rfl ?_
  exact ⟨A1, l1, c1, rfl, (HW.out.far4 (g := w.heap.size + 1) (by omega) _ _ _ _).less (by omega), below_set4 hB2 (by omega) _ _ _ _⟩
theorem vmany_any (k : Nat) (ks : List V) (A : Option Addr) (l c : Nat) (w : World) (hN : bulkL ks ≤ 1073741824) (hk : k < 256) (hK : Kd w ks A l c) :
    Calls Tryd.prog 41 #[.int .u8 k, .slice A l c] w (GivesN k 0 ⟨#[]⟩ ks w) := by
  have hb1 := Box.new w (.int .u8 0) (.int .u64 0) (.string ⟨#[]⟩) (.slice none 0 0)
  have hB : Below w.heap.size w (w.alloc (.cells #[.int .u8 0, .int .u64 0, .string ⟨#[]⟩, .slice none 0 0] 27)) := (Below.refl _ _).alloc (Nat.le_refl _) _
  go_enter Tryd.func41, Tryd.ntmps41
  go_wp2_with fail
  refine (vcopy_any k 0 ⟨#[]⟩ ks A l c _ hN hk (by omega) (hK.alloc _)).mono ?_
  rintro e w1 ⟨A1, l1, c1, rfl, hNw, hb⟩
  obtain ⟨d0, d1, d2, d3, df⟩ := (hb1.call hb).all
  have hB2 := below_next hB hb
  simp only [World.size_alloc] at hNw
  have HW := Lib.hid hNw
  clear hNw
  go_wp2
  refine bodyPost_ret (v := .agg #[.int .u8 k, .int .u64 0, .string ⟨#[]⟩, .slice A1 l1 c1]) (by simp [results, Tryd.results41, go_sem, d0, d1, d2, d3]) rfl ?_
  exact ⟨A1, l1, c1, rfl, (HW.out.far4 (g := w.heap.size) (by omega) _ _ _ _).less (by omega), below_set4 hB2 (by omega) _ _ _ _⟩
/-- Two values beside one another, in a new row. -/
theorem kids_two {w : World} {k n k' n' : Nat} {t t' : ByteArray} {ks ks' : List V} {A A' : Option Addr} {l c l' c' : Nat} (hk : k < 256) (hn : n < 18446744073709551616) (hk' : k' < 256) (hn' : n' < 18446744073709551616) (hK : Kd w ks A l c) (hK' : Kd w ks' A' l' c') :
    Kd (w.alloc (.cells #[.int .u8 k, .int .u64 n, .string t, .slice A l c, .int .u8 k', .int .u64 n', .string t', .slice A' l' c'] 27)) [.mk k n t ks, .mk k' n' t' ks'] (some ⟨w.heap.size, 0, none⟩) 2 2 := by
  refine ⟨rfl, Nat.le_refl _, fun _ => ⟨w.heap.size, 0, rfl, by simp, fun h => (by cases h), ?_⟩⟩
  refine ⟨repV_iff.2 ⟨A, l, c, by simp, by simp, by simp, by simp, hk, hn, hK.alloc _⟩, repV_iff.2 ⟨A', l', c', by simp, by simp, by simp, by simp, hk', hn', hK'.alloc _⟩, trivial⟩
theorem vdesc_any (k n : Nat) (t : ByteArray) (ks : List V) (A : Option Addr) (l c : Nat) (k' n' : Nat) (t' : ByteArray) (ks' : List V) (A' : Option Addr) (l' c' : Nat) (w : World) (hN : bulkL [.mk k n t ks, .mk k' n' t' ks'] ≤ 1073741824) (hk : k < 256) (hn : n < 18446744073709551616) (hk' : k' < 256) (hn' : n' < 18446744073709551616) (hK : Kd w ks A l c) (hK' : Kd w ks' A' l' c') :
    Calls Tryd.prog 30 #[.agg #[.int .u8 k, .int .u64 n, .string t, .slice A l c], .agg #[.int .u8 k', .int .u64 n', .string t', .slice A' l' c']] w (GivesN 25 0 ⟨#[]⟩ [.mk k n t ks, .mk k' n' t' ks'] w) := by
  have hb1 := (Box.new2 (w.alloc (.cells #[.int .u8 k, .int .u64 n, .string t, .slice A l c] 27)) (.cells #[.int .u8 k', .int .u64 n', .string t', .slice A' l' c'] 27) (.int .u8 0) (.int .u64 0) (.string ⟨#[]⟩) (.slice none 0 0)).alloc (.cells #[.int .u8 k, .int .u64 n, .string t, .slice A l c, .int .u8 k', .int .u64 n', .string t', .slice A' l' c'] 27)
  have hB := ((two_boxes w (.cells #[.int .u8 k, .int .u64 n, .string t, .slice A l c] 27) (.cells #[.int .u8 k', .int .u64 n', .string t', .slice A' l' c'] 27)).alloc (by simp; omega) (.cells #[.int .u8 0, .int .u64 0, .string ⟨#[]⟩, .slice none 0 0] 27)).alloc (by simp; omega) (.cells #[.int .u8 k, .int .u64 n, .string t, .slice A l c, .int .u8 k', .int .u64 n', .string t', .slice A' l' c'] 27)
  simp only [World.size_alloc] at hb1
  have hK2 := kids_two (t := t) (t' := t') hk hn hk' hn' (((hK.alloc (.cells #[.int .u8 k, .int .u64 n, .string t, .slice A l c] 27)).alloc (.cells #[.int .u8 k', .int .u64 n', .string t', .slice A' l' c'] 27)).alloc (.cells #[.int .u8 0, .int .u64 0, .string ⟨#[]⟩, .slice none 0 0] 27)) (((hK'.alloc (.cells #[.int .u8 k, .int .u64 n, .string t, .slice A l c] 27)).alloc (.cells #[.int .u8 k', .int .u64 n', .string t', .slice A' l' c'] 27)).alloc (.cells #[.int .u8 0, .int .u64 0, .string ⟨#[]⟩, .slice none 0 0] 27))
  simp only [World.size_alloc] at hK2
  have HK := Lib.hid hK2
  clear hK2 hn hn'
  go_enter Tryd.func30, Tryd.ntmps30
  go_wp2_with fail
  refine (vmany_any 25 _ _ 2 2 _ hN (by omega) HK.out).mono ?_
  rintro e w1 ⟨A1, l1, c1, rfl, hNw, hb⟩
  obtain ⟨d0, d1, d2, d3, df⟩ := (hb1.call hb).all
  have hB2 := below_next hB hb
  simp only [World.size_alloc] at hNw
  have HW := Lib.hid hNw
  clear hNw
  go_wp2
  refine bodyPost_ret (v := .agg #[.int .u8 25, .int .u64 0, .string ⟨#[]⟩, .slice A1 l1 c1]) (by simp [results, Tryd.results30, go_sem, d0, d1, d2, d3]) rfl ?_
  exact ⟨A1, l1, c1, rfl, (HW.out.far4 (g := w.heap.size + 1 + 1) (by omega) _ _ _ _).less (by omega), below_set4 hB2 (by omega) _ _ _ _⟩
end Go.Proofs.YtohmnbefokhjpaaDoor.Val
