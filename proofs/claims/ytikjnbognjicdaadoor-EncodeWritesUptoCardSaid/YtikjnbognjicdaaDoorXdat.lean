/-
  Contract of the document's data: the bytes of a value that is told by a code. Conditions: a value that may be, which is not called something; a code of its kind that can tell it; what 'inside' answers of it is given.
-/
import Derived.Test.YtikjnbognjicdaaDoorXfit
import Derived.Deep.RegionLaw
namespace Go.Proofs.YtikjnbognjicdaaDoor.Enc
set_option maxRecDepth 100000
open Go.RowKit Go.Proofs.YtikjnbognjicdaaDoor.Utf Go.Proofs.YtikjnbognjicdaaDoor.Val V

/-- The call answers bytes that can be read; memory that was there stays. -/
def GivesD (L : List Nat) (w : World) (e : Ending) (w' : World) : Prop := ∃ A n c, e = .returned (.slice A n c) ∧ Rd .u8 256 w' w'.heap.size A n L ∧ Below w.heap.size w w'
theorem nb_tb (t : ByteArray) : nb t = tb t := rfl
set_option maxHeartbeats 1000000 in
theorem data_4 (k n : Nat) (t : ByteArray) (A : Option Addr) (l c code : Nat) (w : World) (hd : code / 16 = 4) : Calls Tryd.prog 60 #[.int .u8 (code : Int), .agg #[.int .u8 (k : Int), .int .u64 (n : Int), .string t, .slice A l c]] w (GivesD ([]) w) := by
  have hB0 : Below w.heap.size w (w.alloc (.cells #[.int .u8 (k : Int), .int .u64 (n : Int), .string t, .slice A l c] 25)) := (Below.refl _ _).alloc (Nat.le_refl _) _
  have hB : Below w.heap.size w ((w.alloc (.cells #[.int .u8 (k : Int), .int .u64 (n : Int), .string t, .slice A l c] 25)).alloc (.cells #[.int .i64 0, .int .i64 1, .int .i64 2, .int .i64 4, .int .i64 8] 3)) := hB0.alloc hB0.size _
  have hbx := (Box.new w (.int .u8 (k : Int)) (.int .u64 (n : Int)) (.string t) (.slice A l c)).alloc (.cells #[.int .i64 0, .int .i64 1, .int .i64 2, .int .i64 4, .int .i64 8] 3)
  obtain ⟨z0, z1, z2, z3, _⟩ := hbx.all
  have hd1 : (code : Int) / 16 = 4 := by omega
  have hd2 : (code : Int).tdiv 16 = 4 := by rw [Int.tdiv_eq_ediv_of_nonneg (by omega)]; omega
  clear hd
  go_enter Tryd.func60, Tryd.ntmps60
  go_wp2
  go_ret
  exact ⟨none, 0, 0, rfl, Rd.zero _ _ _ _ _, hB⟩
set_option maxHeartbeats 1000000 in
theorem data_9 (k n : Nat) (t : ByteArray) (A : Option Addr) (l c code : Nat) (w : World) (hd : code / 16 = 9) : Calls Tryd.prog 60 #[.int .u8 (code : Int), .agg #[.int .u8 (k : Int), .int .u64 (n : Int), .string t, .slice A l c]] w (GivesD (tb t) w) := by
  have hB0 : Below w.heap.size w (w.alloc (.cells #[.int .u8 (k : Int), .int .u64 (n : Int), .string t, .slice A l c] 25)) := (Below.refl _ _).alloc (Nat.le_refl _) _
  have hB : Below w.heap.size w ((w.alloc (.cells #[.int .u8 (k : Int), .int .u64 (n : Int), .string t, .slice A l c] 25)).alloc (.cells #[.int .i64 0, .int .i64 1, .int .i64 2, .int .i64 4, .int .i64 8] 3)) := hB0.alloc hB0.size _
  have hbx := (Box.new w (.int .u8 (k : Int)) (.int .u64 (n : Int)) (.string t) (.slice A l c)).alloc (.cells #[.int .i64 0, .int .i64 1, .int .i64 2, .int .i64 4, .int .i64 8] 3)
  obtain ⟨z0, z1, z2, z3, _⟩ := hbx.all
  have hd1 : (code : Int) / 16 = 9 := by omega
  have hd2 : (code : Int).tdiv 16 = 9 := by rw [Int.tdiv_eq_ediv_of_nonneg (by omega)]; omega
  clear hd
  obtain ⟨w3, c3, hcv, _, hr3, hb3⟩ := conv_str ((w.alloc (.cells #[.int .u8 (k : Int), .int .u64 (n : Int), .string t, .slice A l c] 25)).alloc (.cells #[.int .i64 0, .int .i64 1, .int .i64 2, .int .i64 4, .int .i64 8] 3)) t
  have hB3 := below_next hB hb3
  rw [nb_tb] at hr3
  simp only [World.size_alloc] at hcv hr3
  go_enter Tryd.func60, Tryd.ntmps60
  go_wp2
  go_ret
  exact ⟨_, _, _, rfl, hr3, hB3⟩
set_option maxHeartbeats 1000000 in
theorem data_10 (k n : Nat) (t : ByteArray) (A : Option Addr) (l c code : Nat) (w : World) (hd : code / 16 = 10) (hs : t.size ≤ 255) : Calls Tryd.prog 60 #[.int .u8 (code : Int), .agg #[.int .u8 (k : Int), .int .u64 (n : Int), .string t, .slice A l c]] w (GivesD (be t.size 1 ++ tb t) w) := by
  have hB0 : Below w.heap.size w (w.alloc (.cells #[.int .u8 (k : Int), .int .u64 (n : Int), .string t, .slice A l c] 25)) := (Below.refl _ _).alloc (Nat.le_refl _) _
  have hB : Below w.heap.size w ((w.alloc (.cells #[.int .u8 (k : Int), .int .u64 (n : Int), .string t, .slice A l c] 25)).alloc (.cells #[.int .i64 0, .int .i64 1, .int .i64 2, .int .i64 4, .int .i64 8] 3)) := hB0.alloc hB0.size _
  have hbx := (Box.new w (.int .u8 (k : Int)) (.int .u64 (n : Int)) (.string t) (.slice A l c)).alloc (.cells #[.int .i64 0, .int .i64 1, .int .i64 2, .int .i64 4, .int .i64 8] 3)
  obtain ⟨z0, z1, z2, z3, _⟩ := hbx.all
  have hd1 : (code : Int) / 16 = 10 := by omega
  have hd2 : (code : Int).tdiv 16 = 10 := by rw [Int.tdiv_eq_ediv_of_nonneg (by omega)]; omega
  clear hd
  obtain ⟨w3, c3, hcv, _, hr3, hb3⟩ := conv_str ((w.alloc (.cells #[.int .u8 (k : Int), .int .u64 (n : Int), .string t, .slice A l c] 25)).alloc (.cells #[.int .i64 0, .int .i64 1, .int .i64 2, .int .i64 4, .int .i64 8] 3)) t
  have hB3 := below_next hB hb3
  rw [nb_tb] at hr3
  simp only [World.size_alloc] at hcv hr3
  go_enter Tryd.func60, Tryd.ntmps60
  go_wp2_with (go_at_call 79; (with_reducible refine (xlayp_1 _ t.size c3 _ w3 hr3 hs).mono ?_); rintro e w4 ⟨A4, n4, c4, rfl, ho4, hb4⟩)
  go_ret
  exact ⟨_, _, _, rfl, ho4.rd, below_next hB3 hb4⟩
set_option maxHeartbeats 1000000 in
theorem data_11 (k n : Nat) (t : ByteArray) (A : Option Addr) (l c code : Nat) (w : World) (hd : code / 16 = 11) (hs : t.size ≤ 2147483647) : Calls Tryd.prog 60 #[.int .u8 (code : Int), .agg #[.int .u8 (k : Int), .int .u64 (n : Int), .string t, .slice A l c]] w (GivesD (be t.size 4 ++ tb t) w) := by
  have hB0 : Below w.heap.size w (w.alloc (.cells #[.int .u8 (k : Int), .int .u64 (n : Int), .string t, .slice A l c] 25)) := (Below.refl _ _).alloc (Nat.le_refl _) _
  have hB : Below w.heap.size w ((w.alloc (.cells #[.int .u8 (k : Int), .int .u64 (n : Int), .string t, .slice A l c] 25)).alloc (.cells #[.int .i64 0, .int .i64 1, .int .i64 2, .int .i64 4, .int .i64 8] 3)) := hB0.alloc hB0.size _
  have hbx := (Box.new w (.int .u8 (k : Int)) (.int .u64 (n : Int)) (.string t) (.slice A l c)).alloc (.cells #[.int .i64 0, .int .i64 1, .int .i64 2, .int .i64 4, .int .i64 8] 3)
  obtain ⟨z0, z1, z2, z3, _⟩ := hbx.all
  have hd1 : (code : Int) / 16 = 11 := by omega
  have hd2 : (code : Int).tdiv 16 = 11 := by rw [Int.tdiv_eq_ediv_of_nonneg (by omega)]; omega
  clear hd
  obtain ⟨w3, c3, hcv, _, hr3, hb3⟩ := conv_str ((w.alloc (.cells #[.int .u8 (k : Int), .int .u64 (n : Int), .string t, .slice A l c] 25)).alloc (.cells #[.int .i64 0, .int .i64 1, .int .i64 2, .int .i64 4, .int .i64 8] 3)) t
  have hB3 := below_next hB hb3
  rw [nb_tb] at hr3
  simp only [World.size_alloc] at hcv hr3
  go_enter Tryd.func60, Tryd.ntmps60
  go_wp2_with (go_at_call 79; (with_reducible refine (xlayp_4 _ t.size c3 _ w3 hr3 hs).mono ?_); rintro e w4 ⟨A4, n4, c4, rfl, ho4, hb4⟩)
  go_ret
  exact ⟨_, _, _, rfl, ho4.rd, below_next hB3 hb4⟩
set_option maxHeartbeats 1000000 in
theorem data_12 (k n : Nat) (t : ByteArray) (A : Option Addr) (l c code : Nat) (w : World) (hd : code / 16 = 12) (L : List Nat) (hl : l ≤ 1099511627776) (hL : 1 + L.length ≤ 255) (hIns : ∀ wx, Below w.heap.size w wx → Calls Tryd.prog 81 #[.agg #[.int .u8 (k : Int), .int .u64 (n : Int), .string t, .slice A l c]] wx (GivesL wx.heap.size L wx)) : Calls Tryd.prog 60 #[.int .u8 (code : Int), .agg #[.int .u8 (k : Int), .int .u64 (n : Int), .string t, .slice A l c]] w (GivesD (be (1 + L.length) 1 ++ be l 1 ++ L) w) := by
  have hB0 : Below w.heap.size w (w.alloc (.cells #[.int .u8 (k : Int), .int .u64 (n : Int), .string t, .slice A l c] 25)) := (Below.refl _ _).alloc (Nat.le_refl _) _
  have hB : Below w.heap.size w ((w.alloc (.cells #[.int .u8 (k : Int), .int .u64 (n : Int), .string t, .slice A l c] 25)).alloc (.cells #[.int .i64 0, .int .i64 1, .int .i64 2, .int .i64 4, .int .i64 8] 3)) := hB0.alloc hB0.size _
  have hbx := (Box.new w (.int .u8 (k : Int)) (.int .u64 (n : Int)) (.string t) (.slice A l c)).alloc (.cells #[.int .i64 0, .int .i64 1, .int .i64 2, .int .i64 4, .int .i64 8] 3)
  obtain ⟨z0, z1, z2, z3, _⟩ := hbx.all
  have hd1 : (code : Int) / 16 = 12 := by omega
  have hd2 : (code : Int).tdiv 16 = 12 := by rw [Int.tdiv_eq_ediv_of_nonneg (by omega)]; omega
  clear hd
  obtain ⟨m, hm⟩ : ∃ m, L.length = m := ⟨_, rfl⟩
  rw [hm] at hL ⊢
  have HM := Lib.hid hm
  have hI := hIns _ hB
  have hI2 := hIns _ hB.drew
  clear hm hIns
  have HBX := Lib.hid hbx
  go_enter Tryd.func60, Tryd.ntmps60
  go_wp2_with fail
  go_region_law (first
    | (go_simp; go_at_call 81; (with_reducible refine hI2.mono ?_); rintro e w2 ⟨A2, n2, c2, rfl, ho2, hb2⟩; have hl2 := ho2.len; rw [HM.out] at hl2; subst hl2; have hB2 := below_next hB.drew hb2; have hr2 := ho2.rd; obtain ⟨y0, y1, y2, y3, _⟩ := (show Box w2 _ _ _ _ _ from (HBX.out.drew).call hb2).all)
    | (go_simp; go_at_call 80; (with_reducible refine (xcounted_1 l A2 m c2 L w2 hr2 hl hL).mono ?_); rintro e w5 ⟨A5, n5, c5, rfl, ho5, hb5⟩))
  all_goals
    go_wp2_with fail
    go_ret
    exact ⟨_, _, _, rfl, ho5.rd, below_next hB2 hb5⟩
set_option maxHeartbeats 1000000 in
theorem data_14 (k n : Nat) (t : ByteArray) (A : Option Addr) (l c code : Nat) (w : World) (hd : code / 16 = 14) (L : List Nat) (hl : l ≤ 1099511627776) (hL : 1 + L.length ≤ 255) (hIns : ∀ wx, Below w.heap.size w wx → Calls Tryd.prog 81 #[.agg #[.int .u8 (k : Int), .int .u64 (n : Int), .string t, .slice A l c]] wx (GivesL wx.heap.size L wx)) : Calls Tryd.prog 60 #[.int .u8 (code : Int), .agg #[.int .u8 (k : Int), .int .u64 (n : Int), .string t, .slice A l c]] w (GivesD (be (1 + L.length) 1 ++ be l 1 ++ L) w) := by
  have hB0 : Below w.heap.size w (w.alloc (.cells #[.int .u8 (k : Int), .int .u64 (n : Int), .string t, .slice A l c] 25)) := (Below.refl _ _).alloc (Nat.le_refl _) _
  have hB : Below w.heap.size w ((w.alloc (.cells #[.int .u8 (k : Int), .int .u64 (n : Int), .string t, .slice A l c] 25)).alloc (.cells #[.int .i64 0, .int .i64 1, .int .i64 2, .int .i64 4, .int .i64 8] 3)) := hB0.alloc hB0.size _
  have hbx := (Box.new w (.int .u8 (k : Int)) (.int .u64 (n : Int)) (.string t) (.slice A l c)).alloc (.cells #[.int .i64 0, .int .i64 1, .int .i64 2, .int .i64 4, .int .i64 8] 3)
  obtain ⟨z0, z1, z2, z3, _⟩ := hbx.all
  have hd1 : (code : Int) / 16 = 14 := by omega
  have hd2 : (code : Int).tdiv 16 = 14 := by rw [Int.tdiv_eq_ediv_of_nonneg (by omega)]; omega
  clear hd
  obtain ⟨m, hm⟩ : ∃ m, L.length = m := ⟨_, rfl⟩
  rw [hm] at hL ⊢
  have HM := Lib.hid hm
  have hI := hIns _ hB
  have hI2 := hIns _ hB.drew
  clear hm hIns
  have HBX := Lib.hid hbx
  go_enter Tryd.func60, Tryd.ntmps60
  go_wp2_with fail
  go_region_law (first
    | (go_simp; go_at_call 81; (with_reducible refine hI2.mono ?_); rintro e w2 ⟨A2, n2, c2, rfl, ho2, hb2⟩; have hl2 := ho2.len; rw [HM.out] at hl2; subst hl2; have hB2 := below_next hB.drew hb2; have hr2 := ho2.rd; obtain ⟨y0, y1, y2, y3, _⟩ := (show Box w2 _ _ _ _ _ from (HBX.out.drew).call hb2).all)
    | (go_simp; go_at_call 80; (with_reducible refine (xcounted_1 l A2 m c2 L w2 hr2 hl hL).mono ?_); rintro e w5 ⟨A5, n5, c5, rfl, ho5, hb5⟩))
  all_goals
    go_wp2_with fail
    go_ret
    exact ⟨_, _, _, rfl, ho5.rd, below_next hB2 hb5⟩
set_option maxHeartbeats 1000000 in
theorem data_13 (k n : Nat) (t : ByteArray) (A : Option Addr) (l c code : Nat) (w : World) (hd : code / 16 = 13) (L : List Nat) (hl : l ≤ 1099511627776) (hL : 4 + L.length ≤ 2147483647) (hIns : ∀ wx, Below w.heap.size w wx → Calls Tryd.prog 81 #[.agg #[.int .u8 (k : Int), .int .u64 (n : Int), .string t, .slice A l c]] wx (GivesL wx.heap.size L wx)) : Calls Tryd.prog 60 #[.int .u8 (code : Int), .agg #[.int .u8 (k : Int), .int .u64 (n : Int), .string t, .slice A l c]] w (GivesD (be (4 + L.length) 4 ++ be l 4 ++ L) w) := by
  have hB0 : Below w.heap.size w (w.alloc (.cells #[.int .u8 (k : Int), .int .u64 (n : Int), .string t, .slice A l c] 25)) := (Below.refl _ _).alloc (Nat.le_refl _) _
  have hB : Below w.heap.size w ((w.alloc (.cells #[.int .u8 (k : Int), .int .u64 (n : Int), .string t, .slice A l c] 25)).alloc (.cells #[.int .i64 0, .int .i64 1, .int .i64 2, .int .i64 4, .int .i64 8] 3)) := hB0.alloc hB0.size _
  have hbx := (Box.new w (.int .u8 (k : Int)) (.int .u64 (n : Int)) (.string t) (.slice A l c)).alloc (.cells #[.int .i64 0, .int .i64 1, .int .i64 2, .int .i64 4, .int .i64 8] 3)
  obtain ⟨z0, z1, z2, z3, _⟩ := hbx.all
  have hd1 : (code : Int) / 16 = 13 := by omega
  have hd2 : (code : Int).tdiv 16 = 13 := by rw [Int.tdiv_eq_ediv_of_nonneg (by omega)]; omega
  clear hd
  obtain ⟨m, hm⟩ : ∃ m, L.length = m := ⟨_, rfl⟩
  rw [hm] at hL ⊢
  have HM := Lib.hid hm
  have hI := hIns _ hB
  have hI2 := hIns _ hB.drew
  clear hm hIns
  have HBX := Lib.hid hbx
  go_enter Tryd.func60, Tryd.ntmps60
  go_wp2_with fail
  go_region_law (first
    | (go_simp; go_at_call 81; (with_reducible refine hI2.mono ?_); rintro e w2 ⟨A2, n2, c2, rfl, ho2, hb2⟩; have hl2 := ho2.len; rw [HM.out] at hl2; subst hl2; have hB2 := below_next hB.drew hb2; have hr2 := ho2.rd; obtain ⟨y0, y1, y2, y3, _⟩ := (show Box w2 _ _ _ _ _ from (HBX.out.drew).call hb2).all)
    | (go_simp; go_at_call 80; (with_reducible refine (xcounted_4 l A2 m c2 L w2 hr2 hl hL).mono ?_); rintro e w5 ⟨A5, n5, c5, rfl, ho5, hb5⟩))
  all_goals
    go_wp2_with fail
    go_ret
    exact ⟨_, _, _, rfl, ho5.rd, below_next hB2 hb5⟩
set_option maxHeartbeats 1000000 in
theorem data_15 (k n : Nat) (t : ByteArray) (A : Option Addr) (l c code : Nat) (w : World) (hd : code / 16 = 15) (L : List Nat) (hl : l ≤ 1099511627776) (hL : 4 + L.length ≤ 2147483647) (hIns : ∀ wx, Below w.heap.size w wx → Calls Tryd.prog 81 #[.agg #[.int .u8 (k : Int), .int .u64 (n : Int), .string t, .slice A l c]] wx (GivesL wx.heap.size L wx)) : Calls Tryd.prog 60 #[.int .u8 (code : Int), .agg #[.int .u8 (k : Int), .int .u64 (n : Int), .string t, .slice A l c]] w (GivesD (be (4 + L.length) 4 ++ be l 4 ++ L) w) := by
  have hB0 : Below w.heap.size w (w.alloc (.cells #[.int .u8 (k : Int), .int .u64 (n : Int), .string t, .slice A l c] 25)) := (Below.refl _ _).alloc (Nat.le_refl _) _
  have hB : Below w.heap.size w ((w.alloc (.cells #[.int .u8 (k : Int), .int .u64 (n : Int), .string t, .slice A l c] 25)).alloc (.cells #[.int .i64 0, .int .i64 1, .int .i64 2, .int .i64 4, .int .i64 8] 3)) := hB0.alloc hB0.size _
  have hbx := (Box.new w (.int .u8 (k : Int)) (.int .u64 (n : Int)) (.string t) (.slice A l c)).alloc (.cells #[.int .i64 0, .int .i64 1, .int .i64 2, .int .i64 4, .int .i64 8] 3)
  obtain ⟨z0, z1, z2, z3, _⟩ := hbx.all
  have hd1 : (code : Int) / 16 = 15 := by omega
  have hd2 : (code : Int).tdiv 16 = 15 := by rw [Int.tdiv_eq_ediv_of_nonneg (by omega)]; omega
  clear hd
  obtain ⟨m, hm⟩ : ∃ m, L.length = m := ⟨_, rfl⟩
  rw [hm] at hL ⊢
  have HM := Lib.hid hm
  have hI := hIns _ hB
  have hI2 := hIns _ hB.drew
  clear hm hIns
  have HBX := Lib.hid hbx
  go_enter Tryd.func60, Tryd.ntmps60
  go_wp2_with fail
  go_region_law (first
    | (go_simp; go_at_call 81; (with_reducible refine hI2.mono ?_); rintro e w2 ⟨A2, n2, c2, rfl, ho2, hb2⟩; have hl2 := ho2.len; rw [HM.out] at hl2; subst hl2; have hB2 := below_next hB.drew hb2; have hr2 := ho2.rd; obtain ⟨y0, y1, y2, y3, _⟩ := (show Box w2 _ _ _ _ _ from (HBX.out.drew).call hb2).all)
    | (go_simp; go_at_call 80; (with_reducible refine (xcounted_4 l A2 m c2 L w2 hr2 hl hL).mono ?_); rintro e w5 ⟨A5, n5, c5, rfl, ho5, hb5⟩))
  all_goals
    go_wp2_with fail
    go_ret
    exact ⟨_, _, _, rfl, ho5.rd, below_next hB2 hb5⟩
set_option maxHeartbeats 1000000 in
theorem data_n5 (k n : Nat) (t : ByteArray) (A : Option Addr) (l c code : Nat) (w : World) (hd : code / 16 = 5) (hk : k ≠ 16 ∧ k ≠ 17) (hn : n < 18446744073709551616) : Calls Tryd.prog 60 #[.int .u8 (code : Int), .agg #[.int .u8 (k : Int), .int .u64 (n : Int), .string t, .slice A l c]] w (GivesD (be n 1) w) := by
  have hB0 : Below w.heap.size w (w.alloc (.cells #[.int .u8 (k : Int), .int .u64 (n : Int), .string t, .slice A l c] 25)) := (Below.refl _ _).alloc (Nat.le_refl _) _
  have hB : Below w.heap.size w ((w.alloc (.cells #[.int .u8 (k : Int), .int .u64 (n : Int), .string t, .slice A l c] 25)).alloc (.cells #[.int .i64 0, .int .i64 1, .int .i64 2, .int .i64 4, .int .i64 8] 3)) := hB0.alloc hB0.size _
  have hbx := (Box.new w (.int .u8 (k : Int)) (.int .u64 (n : Int)) (.string t) (.slice A l c)).alloc (.cells #[.int .i64 0, .int .i64 1, .int .i64 2, .int .i64 4, .int .i64 8] 3)
  obtain ⟨z0, z1, z2, z3, _⟩ := hbx.all
  have hd1 : (code : Int) / 16 = 5 := by omega
  have hd2 : (code : Int).tdiv 16 = 5 := by rw [Int.tdiv_eq_ediv_of_nonneg (by omega)]; omega
  clear hd
  have e16 : ((k : Int) == 16) = false := by rw [beq_eq_false_iff_ne]; omega
  have e17 : ((k : Int) == 17) = false := by rw [beq_eq_false_iff_ne]; omega
  have hX := (show Calls Tryd.prog 82 #[.slice none 0 0, .int .u64 (n : Int), .int .i64 1] _ _ from xlay_any n 1 (by omega) hn (((w.alloc (.cells #[.int .u8 (k : Int), .int .u64 (n : Int), .string t, .slice A l c] 25)).alloc (.cells #[.int .i64 0, .int .i64 1, .int .i64 2, .int .i64 4, .int .i64 8] 3)).drew))
  have hX2 := (show Calls Tryd.prog 82 #[.slice none 0 0, .int .u64 (n : Int), .int .i64 1] _ _ from xlay_any n 1 (by omega) hn (((w.alloc (.cells #[.int .u8 (k : Int), .int .u64 (n : Int), .string t, .slice A l c] 25)).alloc (.cells #[.int .i64 0, .int .i64 1, .int .i64 2, .int .i64 4, .int .i64 8] 3))))
  clear hk
  have hu1 : IntKind.u8.wrap 5 = 5 := by decide
  have hu2 : IntKind.u8.wrap 1 = 1 := by decide
  go_enter Tryd.func60, Tryd.ntmps60
  go_wp2_with fail
  go_region_law (first
    | (go_simp; go_at_call 82; (with_reducible refine hX.mono ?_); rintro e w4 ⟨A4, n4, c4, rfl, ho4, hb4⟩))
  all_goals
    go_wp2_with fail
    go_ret
    exact ⟨_, _, _, rfl, ho4.rd, below_next hB.drew hb4⟩
set_option maxHeartbeats 1000000 in
theorem data_n6 (k n : Nat) (t : ByteArray) (A : Option Addr) (l c code : Nat) (w : World) (hd : code / 16 = 6) (hk : k ≠ 16 ∧ k ≠ 17) (hn : n < 18446744073709551616) : Calls Tryd.prog 60 #[.int .u8 (code : Int), .agg #[.int .u8 (k : Int), .int .u64 (n : Int), .string t, .slice A l c]] w (GivesD (be n 2) w) := by
  have hB0 : Below w.heap.size w (w.alloc (.cells #[.int .u8 (k : Int), .int .u64 (n : Int), .string t, .slice A l c] 25)) := (Below.refl _ _).alloc (Nat.le_refl _) _
  have hB : Below w.heap.size w ((w.alloc (.cells #[.int .u8 (k : Int), .int .u64 (n : Int), .string t, .slice A l c] 25)).alloc (.cells #[.int .i64 0, .int .i64 1, .int .i64 2, .int .i64 4, .int .i64 8] 3)) := hB0.alloc hB0.size _
  have hbx := (Box.new w (.int .u8 (k : Int)) (.int .u64 (n : Int)) (.string t) (.slice A l c)).alloc (.cells #[.int .i64 0, .int .i64 1, .int .i64 2, .int .i64 4, .int .i64 8] 3)
  obtain ⟨z0, z1, z2, z3, _⟩ := hbx.all
  have hd1 : (code : Int) / 16 = 6 := by omega
  have hd2 : (code : Int).tdiv 16 = 6 := by rw [Int.tdiv_eq_ediv_of_nonneg (by omega)]; omega
  clear hd
  have e16 : ((k : Int) == 16) = false := by rw [beq_eq_false_iff_ne]; omega
  have e17 : ((k : Int) == 17) = false := by rw [beq_eq_false_iff_ne]; omega
  have hX := (show Calls Tryd.prog 82 #[.slice none 0 0, .int .u64 (n : Int), .int .i64 2] _ _ from xlay_any n 2 (by omega) hn (((w.alloc (.cells #[.int .u8 (k : Int), .int .u64 (n : Int), .string t, .slice A l c] 25)).alloc (.cells #[.int .i64 0, .int .i64 1, .int .i64 2, .int .i64 4, .int .i64 8] 3)).drew))
  have hX2 := (show Calls Tryd.prog 82 #[.slice none 0 0, .int .u64 (n : Int), .int .i64 2] _ _ from xlay_any n 2 (by omega) hn (((w.alloc (.cells #[.int .u8 (k : Int), .int .u64 (n : Int), .string t, .slice A l c] 25)).alloc (.cells #[.int .i64 0, .int .i64 1, .int .i64 2, .int .i64 4, .int .i64 8] 3))))
  clear hk
  have hu1 : IntKind.u8.wrap 6 = 6 := by decide
  have hu2 : IntKind.u8.wrap 2 = 2 := by decide
  go_enter Tryd.func60, Tryd.ntmps60
  go_wp2_with fail
  go_region_law (first
    | (go_simp; go_at_call 82; (with_reducible refine hX.mono ?_); rintro e w4 ⟨A4, n4, c4, rfl, ho4, hb4⟩))
  all_goals
    go_wp2_with fail
    go_ret
    exact ⟨_, _, _, rfl, ho4.rd, below_next hB.drew hb4⟩
set_option maxHeartbeats 1000000 in
theorem data_n7 (k n : Nat) (t : ByteArray) (A : Option Addr) (l c code : Nat) (w : World) (hd : code / 16 = 7) (hk : k ≠ 16 ∧ k ≠ 17) (hn : n < 18446744073709551616) : Calls Tryd.prog 60 #[.int .u8 (code : Int), .agg #[.int .u8 (k : Int), .int .u64 (n : Int), .string t, .slice A l c]] w (GivesD (be n 4) w) := by
  have hB0 : Below w.heap.size w (w.alloc (.cells #[.int .u8 (k : Int), .int .u64 (n : Int), .string t, .slice A l c] 25)) := (Below.refl _ _).alloc (Nat.le_refl _) _
  have hB : Below w.heap.size w ((w.alloc (.cells #[.int .u8 (k : Int), .int .u64 (n : Int), .string t, .slice A l c] 25)).alloc (.cells #[.int .i64 0, .int .i64 1, .int .i64 2, .int .i64 4, .int .i64 8] 3)) := hB0.alloc hB0.size _
  have hbx := (Box.new w (.int .u8 (k : Int)) (.int .u64 (n : Int)) (.string t) (.slice A l c)).alloc (.cells #[.int .i64 0, .int .i64 1, .int .i64 2, .int .i64 4, .int .i64 8] 3)
  obtain ⟨z0, z1, z2, z3, _⟩ := hbx.all
  have hd1 : (code : Int) / 16 = 7 := by omega
  have hd2 : (code : Int).tdiv 16 = 7 := by rw [Int.tdiv_eq_ediv_of_nonneg (by omega)]; omega
  clear hd
  have e16 : ((k : Int) == 16) = false := by rw [beq_eq_false_iff_ne]; omega
  have e17 : ((k : Int) == 17) = false := by rw [beq_eq_false_iff_ne]; omega
  have hX := (show Calls Tryd.prog 82 #[.slice none 0 0, .int .u64 (n : Int), .int .i64 4] _ _ from xlay_any n 4 (by omega) hn (((w.alloc (.cells #[.int .u8 (k : Int), .int .u64 (n : Int), .string t, .slice A l c] 25)).alloc (.cells #[.int .i64 0, .int .i64 1, .int .i64 2, .int .i64 4, .int .i64 8] 3)).drew))
  have hX2 := (show Calls Tryd.prog 82 #[.slice none 0 0, .int .u64 (n : Int), .int .i64 4] _ _ from xlay_any n 4 (by omega) hn (((w.alloc (.cells #[.int .u8 (k : Int), .int .u64 (n : Int), .string t, .slice A l c] 25)).alloc (.cells #[.int .i64 0, .int .i64 1, .int .i64 2, .int .i64 4, .int .i64 8] 3))))
  clear hk
  have hu1 : IntKind.u8.wrap 7 = 7 := by decide
  have hu2 : IntKind.u8.wrap 3 = 3 := by decide
  go_enter Tryd.func60, Tryd.ntmps60
  go_wp2_with fail
  go_region_law (first
    | (go_simp; go_at_call 82; (with_reducible refine hX.mono ?_); rintro e w4 ⟨A4, n4, c4, rfl, ho4, hb4⟩))
  all_goals
    go_wp2_with fail
    go_ret
    exact ⟨_, _, _, rfl, ho4.rd, below_next hB.drew hb4⟩
set_option maxHeartbeats 1000000 in
theorem data_n8 (k n : Nat) (t : ByteArray) (A : Option Addr) (l c code : Nat) (w : World) (hd : code / 16 = 8) (hk : k ≠ 16 ∧ k ≠ 17) (hn : n < 18446744073709551616) : Calls Tryd.prog 60 #[.int .u8 (code : Int), .agg #[.int .u8 (k : Int), .int .u64 (n : Int), .string t, .slice A l c]] w (GivesD (be n 8) w) := by
  have hB0 : Below w.heap.size w (w.alloc (.cells #[.int .u8 (k : Int), .int .u64 (n : Int), .string t, .slice A l c] 25)) := (Below.refl _ _).alloc (Nat.le_refl _) _
  have hB : Below w.heap.size w ((w.alloc (.cells #[.int .u8 (k : Int), .int .u64 (n : Int), .string t, .slice A l c] 25)).alloc (.cells #[.int .i64 0, .int .i64 1, .int .i64 2, .int .i64 4, .int .i64 8] 3)) := hB0.alloc hB0.size _
  have hbx := (Box.new w (.int .u8 (k : Int)) (.int .u64 (n : Int)) (.string t) (.slice A l c)).alloc (.cells #[.int .i64 0, .int .i64 1, .int .i64 2, .int .i64 4, .int .i64 8] 3)
  obtain ⟨z0, z1, z2, z3, _⟩ := hbx.all
  have hd1 : (code : Int) / 16 = 8 := by omega
  have hd2 : (code : Int).tdiv 16 = 8 := by rw [Int.tdiv_eq_ediv_of_nonneg (by omega)]; omega
  clear hd
  have e16 : ((k : Int) == 16) = false := by rw [beq_eq_false_iff_ne]; omega
  have e17 : ((k : Int) == 17) = false := by rw [beq_eq_false_iff_ne]; omega
  have hX := (show Calls Tryd.prog 82 #[.slice none 0 0, .int .u64 (n : Int), .int .i64 8] _ _ from xlay_any n 8 (by omega) hn (((w.alloc (.cells #[.int .u8 (k : Int), .int .u64 (n : Int), .string t, .slice A l c] 25)).alloc (.cells #[.int .i64 0, .int .i64 1, .int .i64 2, .int .i64 4, .int .i64 8] 3)).drew))
  have hX2 := (show Calls Tryd.prog 82 #[.slice none 0 0, .int .u64 (n : Int), .int .i64 8] _ _ from xlay_any n 8 (by omega) hn (((w.alloc (.cells #[.int .u8 (k : Int), .int .u64 (n : Int), .string t, .slice A l c] 25)).alloc (.cells #[.int .i64 0, .int .i64 1, .int .i64 2, .int .i64 4, .int .i64 8] 3))))
  clear hk
  have hu1 : IntKind.u8.wrap 8 = 8 := by decide
  have hu2 : IntKind.u8.wrap 4 = 4 := by decide
  go_enter Tryd.func60, Tryd.ntmps60
  go_wp2_with fail
  go_region_law (first
    | (go_simp; go_at_call 82; (with_reducible refine hX.mono ?_); rintro e w4 ⟨A4, n4, c4, rfl, ho4, hb4⟩))
  all_goals
    go_wp2_with fail
    go_ret
    exact ⟨_, _, _, rfl, ho4.rd, below_next hB.drew hb4⟩
theorem data_16 (n : Nat) (t : ByteArray) (A : Option Addr) (l c code : Nat) (w : World) (hd : code / 16 = 7) : Calls Tryd.prog 60 #[.int .u8 (code : Int), .agg #[.int .u8 16, .int .u64 (n : Int), .string t, .slice A l c]] w (GivesD (tb t) w) := by
  have hB0 : Below w.heap.size w (w.alloc (.cells #[.int .u8 16, .int .u64 (n : Int), .string t, .slice A l c] 25)) := (Below.refl _ _).alloc (Nat.le_refl _) _
  have hB : Below w.heap.size w ((w.alloc (.cells #[.int .u8 16, .int .u64 (n : Int), .string t, .slice A l c] 25)).alloc (.cells #[.int .i64 0, .int .i64 1, .int .i64 2, .int .i64 4, .int .i64 8] 3)) := hB0.alloc hB0.size _
  have hbx := (Box.new w (.int .u8 16) (.int .u64 (n : Int)) (.string t) (.slice A l c)).alloc (.cells #[.int .i64 0, .int .i64 1, .int .i64 2, .int .i64 4, .int .i64 8] 3)
  obtain ⟨z0, z1, z2, z3, _⟩ := hbx.all
  have hd1 : (code : Int) / 16 = 7 := by omega
  have hd2 : (code : Int).tdiv 16 = 7 := by rw [Int.tdiv_eq_ediv_of_nonneg (by omega)]; omega
  obtain ⟨w3, c3, hcv, _, hr3, hb3⟩ := conv_str ((w.alloc (.cells #[.int .u8 16, .int .u64 (n : Int), .string t, .slice A l c] 25)).alloc (.cells #[.int .i64 0, .int .i64 1, .int .i64 2, .int .i64 4, .int .i64 8] 3)) t
  have hB3 := below_next hB hb3
  rw [nb_tb] at hr3
  simp only [World.size_alloc] at hcv hr3
  clear hd
  go_enter Tryd.func60, Tryd.ntmps60
  go_wp2
  go_ret
  exact ⟨_, _, _, rfl, hr3, hB3⟩
theorem data_17 (n : Nat) (t : ByteArray) (A : Option Addr) (l c code : Nat) (w : World) (hd : code / 16 = 8) : Calls Tryd.prog 60 #[.int .u8 (code : Int), .agg #[.int .u8 17, .int .u64 (n : Int), .string t, .slice A l c]] w (GivesD (tb t) w) := by
  have hB0 : Below w.heap.size w (w.alloc (.cells #[.int .u8 17, .int .u64 (n : Int), .string t, .slice A l c] 25)) := (Below.refl _ _).alloc (Nat.le_refl _) _
  have hB : Below w.heap.size w ((w.alloc (.cells #[.int .u8 17, .int .u64 (n : Int), .string t, .slice A l c] 25)).alloc (.cells #[.int .i64 0, .int .i64 1, .int .i64 2, .int .i64 4, .int .i64 8] 3)) := hB0.alloc hB0.size _
  have hbx := (Box.new w (.int .u8 17) (.int .u64 (n : Int)) (.string t) (.slice A l c)).alloc (.cells #[.int .i64 0, .int .i64 1, .int .i64 2, .int .i64 4, .int .i64 8] 3)
  obtain ⟨z0, z1, z2, z3, _⟩ := hbx.all
  have hd1 : (code : Int) / 16 = 8 := by omega
  have hd2 : (code : Int).tdiv 16 = 8 := by rw [Int.tdiv_eq_ediv_of_nonneg (by omega)]; omega
  obtain ⟨w3, c3, hcv, _, hr3, hb3⟩ := conv_str ((w.alloc (.cells #[.int .u8 17, .int .u64 (n : Int), .string t, .slice A l c] 25)).alloc (.cells #[.int .i64 0, .int .i64 1, .int .i64 2, .int .i64 4, .int .i64 8] 3)) t
  have hB3 := below_next hB hb3
  rw [nb_tb] at hr3
  simp only [World.size_alloc] at hcv hr3
  clear hd
  go_enter Tryd.func60, Tryd.ntmps60
  go_wp2
  go_ret
  exact ⟨_, _, _, rfl, hr3, hB3⟩
def digRow (k : Nat) (x : Nat × Can) : Bool :=
  let d := x.1 / 16
  (d == 4 && wid x.1 == 0) || (d == 9 && decide (15 ≤ k) && decide (k < 19) && wid x.1 != 0) || (d == 10 && decide (19 ≤ k) && decide (k ≤ 21) && wid x.1 == 1 && codeEq x.2 .short) || (d == 11 && decide (19 ≤ k) && decide (k ≤ 21) && wid x.1 == 4) ||
  ((d == 12 || d == 14) && decide (22 ≤ k) && wid x.1 == 1 && codeEq x.2 .small) || ((d == 13 || d == 15) && decide (22 ≤ k) && wid x.1 == 4) ||
  (decide (5 ≤ d) && decide (d ≤ 8) && wid x.1 == 2 ^ (d - 5) && (decide (k < 15) || (k == 16 && d == 7) || (k == 17 && d == 8)))
theorem dig_rows : ((List.range 25).all fun k => (chs k).all (digRow k)) = true := by decide +kernel
theorem dig_row {k c : Nat} {f : Can} (h : (c, f) ∈ chs k) : digRow k (c, f) = true := List.all_eq_true.1 (List.all_eq_true.1 dig_rows k (List.mem_range.2 (by have := (k_of h).2; omega))) _ h

/-- data. -/
theorem xdata_any (code : Nat) (f : Can) (k n : Nat) (t : ByteArray) (ks : List V) (A : Option Addr) (l c : Nat) (w : World) (hg : Good (.mk k n t ks)) (hcf : (code, f) ∈ chs k) (hcan : can f (rawv (.mk k n t ks)) = true) (hbk : bulk (.mk k n t ks) ≤ 33554432) (hn : n < 18446744073709551616) (hK : Kd w ks A l c)
    (hIns : ∀ wx, Below w.heap.size w wx → Calls Tryd.prog 81 #[.agg #[.int .u8 (k : Int), .int .u64 (n : Int), .string t, .slice A l c]] wx (GivesL wx.heap.size (layK (kp k ks)) wx)) :
    Calls Tryd.prog 60 #[.int .u8 (code : Int), .agg #[.int .u8 (k : Int), .int .u64 (n : Int), .string t, .slice A l c]] w (GivesD (dat code (.mk k n t ks)) w) := by
  have hr := dig_row hcf
  have hll : l = ks.length := hK.1
  have hlen := ins_len hg
  have hb := re_bound hg
  have hlk := length_bulk ks
  have hbk2 := hbk
  simp only [bulk] at hbk2
  simp only [digRow, Bool.or_eq_true, Bool.and_eq_true, beq_iff_eq, bne_iff_ne, decide_eq_true_eq] at hr
  simp only [dat, dlay]
  rcases hr with (((((⟨hd, hw⟩ | ⟨⟨⟨hd, h15⟩, h19⟩, hw⟩) | ⟨⟨⟨⟨hd, h19⟩, h21⟩, hw⟩, hf⟩) | ⟨⟨⟨hd, h19⟩, h21⟩, hw⟩) | ⟨⟨⟨hd, h22⟩, hw⟩, hf⟩) | ⟨⟨hd, h22⟩, hw⟩) | ⟨⟨⟨hd5, hd8⟩, hw⟩, hk⟩
  · rw [if_pos hw]
    exact data_4 k n t A l c code w hd
  · rw [if_neg hw, if_neg (by omega), if_pos h19]
    exact data_9 k n t A l c code w hd
  · rw [if_neg (by omega), if_neg (by omega), if_neg (by omega), if_pos h21, hw]
    have hf2 := codeEq_iff hf
    subst hf2
    exact data_10 k n t A l c code w hd (of_decide_eq_true hcan)
  · rw [if_neg (by omega), if_neg (by omega), if_neg (by omega), if_pos h21, hw]
    exact data_11 k n t A l c code w hd (by omega)
  · rw [if_neg (by omega), if_neg (by omega), if_neg (by omega), if_neg (by omega), hw, hlen, ← hll]
    have hf2 := codeEq_iff hf
    subst hf2
    have e : can .small (rawv (.mk k n t ks)) = (decide (1 + longK (kp k ks) ≤ 255) && decide (ks.length ≤ 255)) := rfl
    rw [e, Bool.and_eq_true, decide_eq_true_eq, decide_eq_true_eq, hlen] at hcan
    rcases hd with hd | hd
    · exact data_12 k n t A l c code w hd _ (by omega) hcan.1 hIns
    · exact data_14 k n t A l c code w hd _ (by omega) hcan.1 hIns
  · rw [if_neg (by omega), if_neg (by omega), if_neg (by omega), if_neg (by omega), hw, hlen, ← hll]
    rcases hd with hd | hd
    · exact data_13 k n t A l c code w hd _ (by omega) (by omega) hIns
    · exact data_15 k n t A l c code w hd _ (by omega) (by omega) hIns
  · have hw0 : wid code ≠ 0 := by
      rw [hw]
      have := Nat.two_pow_pos (code / 16 - 5)
      omega
    rw [if_neg hw0]
    rcases hk with (hk | ⟨hk, hd⟩) | ⟨hk, hd⟩
    · rw [if_pos hk, hw]
      have : code / 16 = 5 ∨ code / 16 = 6 ∨ code / 16 = 7 ∨ code / 16 = 8 := by omega
      rcases this with hd | hd | hd | hd
      all_goals rw [hd]
      · exact data_n5 k n t A l c code w hd ⟨by omega, by omega⟩ hn
      · exact data_n6 k n t A l c code w hd ⟨by omega, by omega⟩ hn
      · exact data_n7 k n t A l c code w hd ⟨by omega, by omega⟩ hn
      · exact data_n8 k n t A l c code w hd ⟨by omega, by omega⟩ hn
    · rw [if_neg (by omega), if_pos (by omega)]
      subst hk
      exact data_16 n t A l c code w hd
    · rw [if_neg (by omega), if_pos (by omega)]
      subst hk
      exact data_17 n t A l c code w hd
end Go.Proofs.YtikjnbognjicdaaDoor.Enc
