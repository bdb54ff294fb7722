/-
  The walk of the statement EncodeTexts. Condition: the table utf.shapes lies as the program's text lays it.
-/
import Derived.Test.YtophlpkbpjhhjaaDoorBeg
namespace Go.Proofs.YtophlpkbpjhhjaaDoor.encodeTexts
set_option maxRecDepth 100000
open Go.RowKit Go.Proofs.YtophlpkbpjhhjaaDoor.Utf Go.Proofs.YtophlpkbpjhhjaaDoor.Val Go.Proofs.YtophlpkbpjhhjaaDoor.Enc V

theorem tex_lay1 {k : Nat} {t : ByteArray} (h : 15 ≤ k ∧ k ≤ 18) : ∃ c, lay (plan (.mk k 0 t [])) = c :: tb t := by
  refine ⟨pick (chs k) [rawv (.mk k 0 t [])], ?_⟩
  rw [lay_core (show k ≠ 25 by omega)]
  congr 1
  have h0 : wid (pick (chs k) [rawv (.mk k 0 t [])]) ≠ 0 := by
    have : k = 15 ∨ k = 16 ∨ k = 17 ∨ k = 18 := by omega
    rcases this with rfl | rfl | rfl | rfl <;> simp [chs, pick, can, wid]
  simp only [dat, dlay, if_neg h0]
  rw [if_neg (by omega), if_pos (by omega)]
theorem tex_lay2 {k : Nat} {t : ByteArray} (h : 19 ≤ k ∧ k ≤ 21) : ∃ c, lay (plan (.mk k 0 t [])) = c :: (be t.size (if t.size ≤ 255 then 1 else 4) ++ tb t) := by
  refine ⟨pick (chs k) [rawv (.mk k 0 t [])], ?_⟩
  rw [lay_core (show k ≠ 25 by omega)]
  congr 1
  have h0 : wid (pick (chs k) [rawv (.mk k 0 t [])]) = if t.size ≤ 255 then 1 else 4 := by
    have : k = 19 ∨ k = 20 ∨ k = 21 := by omega
    rcases this with rfl | rfl | rfl <;> simp only [chs, pick, List.all_cons, List.all_nil, Bool.and_true, can, decide_eq_true_eq] <;> simp only [rawv, raw, Pl.text] <;> (by_cases h1 : t.size ≤ 255 <;> simp [h1, wid])
  have h1 : wid (pick (chs k) [rawv (.mk k 0 t [])]) ≠ 0 := by rw [h0]; split <;> omega
  simp only [dat, dlay, if_neg h1]
  rw [if_neg (by omega), if_neg (by omega), if_pos (by omega), h0]
theorem vr0 (k : Nat) (t : ByteArray) (w : World) (hz : t.size ≤ 1073741824) (ht : Tab w) : Calls Tryd.prog 17 #[.agg #[.int .u8 (k : Int), .int .u64 0, .string t, .slice none 0 0]] w (Val.GivesB (okB (.mk k 0 t [])) w) := vright_any k 0 t [] none 0 0 w (by decide) hz (by omega) (Kd.none_ _ _ _) ht
theorem en0 (k : Nat) (t : ByteArray) (w : World) (hok : okB (.mk k 0 t []) = true) (hb : bulk (.mk k 0 t []) ≤ 4194304) (hk : k < 256) (ht : Tab w) : Calls Tryd.prog 12 #[.agg #[.int .u8 (k : Int), .int .u64 0, .string t, .slice none 0 0]] w (Enc.GivesV (.mk k 0 t []) w) := encv_yes k 0 t [] none 0 0 w hok hb hk (by omega) (Kd.none_ _ _ _) ht
theorem big (k : Nat) (t : ByteArray) (w : World) (ht : Tab w) (h : 4096 < t.size) : Calls Tryd.prog 6 #[.int .u8 k, .string t] w (Val.GivesB true w) := by
  have d1 : decide ((4096 : Int) < (t.size : Int)) = true := decide_eq_true (by omega)
  clear h
  go_enter Tryd.func6, Tryd.ntmps6
  go_wp2_with (first
    | (go_at_call 21; (with_reducible refine (text_any' k t w).mono ?_); rintro e w1 ⟨rfl, hb1⟩; have hB1 := hb1.alloc hb1.size (.cells #[.int .u8 (k : Int), .int .u64 0, .string t, .slice none 0 0] 25); have hbx := Box.new w1 (.int .u8 (k : Int)) (.int .u64 0) (.string t) (.slice none 0 0); obtain ⟨z0, z1, z2, z3, _⟩ := hbx.all)
    | (go_at_call 10; (with_reducible refine (works_any _ (ht.call hB1)).mono ?_); rintro e w2 ⟨rfl, hb2⟩))
  go_ret
  exact ⟨rfl, below_next hB1 hb2⟩
theorem less (k : Nat) (t : ByteArray) (w : World) (ht : Tab w) (h : ¬ 4096 < t.size) (h2 : k < 15) : Calls Tryd.prog 6 #[.int .u8 k, .string t] w (Val.GivesB true w) := by
  have d1 : decide ((4096 : Int) < (t.size : Int)) = false := decide_eq_false (by omega)
  have d2 : decide ((k : Int) < 15) = true := decide_eq_true (by omega)
  clear h h2
  go_enter Tryd.func6, Tryd.ntmps6
  go_wp2_with (first
    | (go_at_call 21; (with_reducible refine (text_any' k t w).mono ?_); rintro e w1 ⟨rfl, hb1⟩; have hB1 := hb1.alloc hb1.size (.cells #[.int .u8 (k : Int), .int .u64 0, .string t, .slice none 0 0] 25); have hbx := Box.new w1 (.int .u8 (k : Int)) (.int .u64 0) (.string t) (.slice none 0 0); obtain ⟨z0, z1, z2, z3, _⟩ := hbx.all)
    | (go_at_call 10; (with_reducible refine (works_any _ (ht.call hB1)).mono ?_); rintro e w2 ⟨rfl, hb2⟩))
  go_ret
  exact ⟨rfl, below_next hB1 hb2⟩
theorem more (k : Nat) (t : ByteArray) (w : World) (ht : Tab w) (h : ¬ 4096 < t.size) (h2 : 21 < k) : Calls Tryd.prog 6 #[.int .u8 k, .string t] w (Val.GivesB true w) := by
  have d1 : decide ((4096 : Int) < (t.size : Int)) = false := decide_eq_false (by omega)
  have d2 : decide ((k : Int) < 15) = false := decide_eq_false (by omega)
  have d3 : decide ((21 : Int) < (k : Int)) = true := decide_eq_true (by omega)
  clear h h2
  go_enter Tryd.func6, Tryd.ntmps6
  go_wp2_with (first
    | (go_at_call 21; (with_reducible refine (text_any' k t w).mono ?_); rintro e w1 ⟨rfl, hb1⟩; have hB1 := hb1.alloc hb1.size (.cells #[.int .u8 (k : Int), .int .u64 0, .string t, .slice none 0 0] 25); have hbx := Box.new w1 (.int .u8 (k : Int)) (.int .u64 0) (.string t) (.slice none 0 0); obtain ⟨z0, z1, z2, z3, _⟩ := hbx.all)
    | (go_at_call 10; (with_reducible refine (works_any _ (ht.call hB1)).mono ?_); rintro e w2 ⟨rfl, hb2⟩))
  go_ret
  exact ⟨rfl, below_next hB1 hb2⟩
theorem not_ok (k : Nat) (t : ByteArray) (w : World) (ht : Tab w) (h : ¬ 4096 < t.size) (h2 : 15 ≤ k ∧ k ≤ 21) (hok : okB (.mk k 0 t []) = false) : Calls Tryd.prog 6 #[.int .u8 k, .string t] w (Val.GivesB true w) := by
  have d1 : decide ((4096 : Int) < (t.size : Int)) = false := decide_eq_false (by omega)
  have d2 : decide ((k : Int) < 15) = false := decide_eq_false (by omega)
  have d3 : decide ((21 : Int) < (k : Int)) = false := decide_eq_false (by omega)
  have hz : t.size ≤ 1073741824 := by omega
  have HOK := Lib.hid hok
  clear h h2 hok
  go_enter Tryd.func6, Tryd.ntmps6
  go_wp2_with (first
    | (go_at_call 21; (with_reducible refine (text_any' k t w).mono ?_); rintro e w1 ⟨rfl, hb1⟩; have hB1 := hb1.alloc hb1.size (.cells #[.int .u8 (k : Int), .int .u64 0, .string t, .slice none 0 0] 25); have hbx := Box.new w1 (.int .u8 (k : Int)) (.int .u64 0) (.string t) (.slice none 0 0); obtain ⟨z0, z1, z2, z3, _⟩ := hbx.all)
    | (go_at_call 17; (with_reducible refine (vr0 k t _ hz (ht.call hB1)).mono ?_); rw [HOK.out]; rintro e w2 ⟨rfl, hb2⟩; have hB2 := below_next hB1 hb2; obtain ⟨y0, y1, y2, y3, _⟩ := (hbx.call hb2).all)
    | (go_at_call 10; (with_reducible refine (works_any _ (ht.call hB2)).mono ?_); rintro e w3 ⟨rfl, hb3⟩))
  go_ret
  exact ⟨rfl, below_next hB2 hb3⟩
theorem sb_tb (t : ByteArray) : sb (tb t) = t := by
  refine ba_ext.1 ?_
  simp [sb, tb, Function.comp_def]
set_option maxHeartbeats 1000000 in
theorem one (k : Nat) (t : ByteArray) (w : World) (ht : Tab w) (h : ¬ 4096 < t.size) (h2 : 15 ≤ k ∧ k ≤ 18) (hok : okB (.mk k 0 t []) = true) : Calls Tryd.prog 6 #[.int .u8 k, .string t] w (Val.GivesB true w) := by
  have d1 : decide ((4096 : Int) < (t.size : Int)) = false := decide_eq_false (by omega)
  have d2 : decide ((k : Int) < 15) = false := decide_eq_false (by omega)
  have d3 : decide ((21 : Int) < (k : Int)) = false := decide_eq_false (by omega)
  have hz : t.size ≤ 1073741824 := by omega
  have d4 : decide ((19 : Int) ≤ (k : Int)) = false := decide_eq_false (by omega)
  obtain ⟨C, hC⟩ := tex_lay1 (t := t) h2
  have HOK := Lib.hid hok
  have HC := Lib.hid hC
  have hk256 : k < 256 := by omega
  have HBK : Hid (bulk (.mk k 0 t []) ≤ 4194304) := Lib.hid (by simp only [bulk, bulkL]; omega)
  clear h h2 hok hC
  go_enter Tryd.func6, Tryd.ntmps6
  go_wp2_with (first
    | (go_at_call 21; (with_reducible refine (text_any' k t w).mono ?_); rintro e w1 ⟨rfl, hb1⟩; have hB1 := hb1.alloc hb1.size (.cells #[.int .u8 (k : Int), .int .u64 0, .string t, .slice none 0 0] 25); have hbx := Box.new w1 (.int .u8 (k : Int)) (.int .u64 0) (.string t) (.slice none 0 0); obtain ⟨z0, z1, z2, z3, _⟩ := hbx.all)
    | (go_at_call 17; (with_reducible refine (vr0 k t _ hz (ht.call hB1)).mono ?_); rw [HOK.out]; rintro e w2 ⟨rfl, hb2⟩; have hB2 := below_next hB1 hb2; obtain ⟨y0, y1, y2, y3, _⟩ := (hbx.call hb2).all)
    | (go_at_call 12; (with_reducible refine (en0 k t w2 HOK.out HBK.out hk256 (ht.call hB2)).mono ?_); rintro e w3 ⟨A3, m3, c3, rfl, ho3, hb3⟩; have hB3 := below_next hB2 hb3; rw [HC.out] at ho3; have hl3 : m3 = t.size + 1 := (by have := ho3.len; simp [tb_length] at this; omega); subst hl3; obtain ⟨A4, c4, _, _, hs1, hs2, hrd⟩ := cut_from A3 (t.size + 1) c3 1 (by omega) ho3.cap.1; rw [show t.size + 1 - 1 = t.size by omega] at hs1 hs2 hrd; have hq1 := fun W => hs1 W 1 rfl; have hq2 := fun W => hs2 W 1 rfl; have hrr := hrd w3 _ _ ho3.rd; have hst := run_str c4 hrr; rw [show List.drop 1 (C :: tb t) = tb t by simp, sb_tb] at hst; clear hs1 hs2 hrd hrr ho3)
    | (go_at_call 10; (with_reducible refine (works_any _ (ht.call hB3)).mono ?_); rintro e w4 ⟨rfl, hb4⟩))
  go_ret
  exact ⟨rfl, below_next hB3 hb4⟩
set_option maxHeartbeats 1000000 in
theorem two (k : Nat) (t : ByteArray) (w : World) (ht : Tab w) (h : ¬ 4096 < t.size) (h2 : 19 ≤ k ∧ k ≤ 21) (h3 : t.size ≤ 255) (hok : okB (.mk k 0 t []) = true) : Calls Tryd.prog 6 #[.int .u8 k, .string t] w (Val.GivesB true w) := by
  have d1 : decide ((4096 : Int) < (t.size : Int)) = false := decide_eq_false (by omega)
  have d2 : decide ((k : Int) < 15) = false := decide_eq_false (by omega)
  have d3 : decide ((21 : Int) < (k : Int)) = false := decide_eq_false (by omega)
  have hz : t.size ≤ 1073741824 := by omega
  have d4 : decide ((19 : Int) ≤ (k : Int)) = true := decide_eq_true (by omega)
  have d5 : decide ((255 : Int) < (t.size : Int)) = false := decide_eq_false (by omega)
  obtain ⟨C, hC⟩ := tex_lay2 (t := t) h2
  rw [if_pos h3] at hC
  have hm : (t.size : Int).tmod 256 = (t.size : Int) := by rw [Int.tmod_eq_emod_of_nonneg (by omega)]; omega
  have HOK := Lib.hid hok
  have HC := Lib.hid hC
  have hk256 : k < 256 := by omega
  have HBK : Hid (bulk (.mk k 0 t []) ≤ 4194304) := Lib.hid (by simp only [bulk, bulkL]; omega)
  clear h h2 hok hC
  go_enter Tryd.func6, Tryd.ntmps6
  go_wp2_with (first
    | (go_at_call 21; (with_reducible refine (text_any' k t w).mono ?_); rintro e w1 ⟨rfl, hb1⟩; have hB1 := hb1.alloc hb1.size (.cells #[.int .u8 (k : Int), .int .u64 0, .string t, .slice none 0 0] 25); have hbx := Box.new w1 (.int .u8 (k : Int)) (.int .u64 0) (.string t) (.slice none 0 0); obtain ⟨z0, z1, z2, z3, _⟩ := hbx.all)
    | (go_at_call 17; (with_reducible refine (vr0 k t _ hz (ht.call hB1)).mono ?_); rw [HOK.out]; rintro e w2 ⟨rfl, hb2⟩; have hB2 := below_next hB1 hb2; obtain ⟨y0, y1, y2, y3, _⟩ := (hbx.call hb2).all)
    | (go_at_call 12; (with_reducible refine (en0 k t w2 HOK.out HBK.out hk256 (ht.call hB2)).mono ?_); rintro e w3 ⟨A3, m3, c3, rfl, ho3, hb3⟩; have hB3 := below_next hB2 hb3; rw [HC.out] at ho3; have hl3 : m3 = t.size + 2 := (by have := ho3.len; simp [be_length, tb_length] at this; omega); subst hl3; obtain ⟨A4, c4, _, _, hs1, hs2, hrd⟩ := cut_from A3 (t.size + 2) c3 2 (by omega) ho3.cap.1; rw [show t.size + 2 - 2 = t.size by omega] at hs1 hs2 hrd; have hq1 := fun W => hs1 W 2 rfl; have hq2 := fun W => hs2 W 2 rfl; have hrr := hrd w3 _ _ ho3.rd; have hst := run_str c4 hrr; rw [show List.drop 2 (C :: (be t.size 1 ++ tb t)) = tb t by simp [be], sb_tb] at hst; obtain ⟨b, o, x, rfl, hb, hx, hx2, hc⟩ := ho3.rd.at_ (k := 1) (by omega); have hxe : x = t.size := (by simp [be] at hx; omega); subst hxe; clear hs1 hs2 hrd hrr ho3)
    | (go_at_call 10; (with_reducible refine (works_any _ (ht.call hB3)).mono ?_); rintro e w4 ⟨rfl, hb4⟩))
  go_ret
  exact ⟨rfl, below_next hB3 hb4⟩
set_option maxHeartbeats 1000000 in
theorem five (k : Nat) (t : ByteArray) (w : World) (ht : Tab w) (h : ¬ 4096 < t.size) (h2 : 19 ≤ k ∧ k ≤ 21) (h3 : ¬ t.size ≤ 255) (hok : okB (.mk k 0 t []) = true) : Calls Tryd.prog 6 #[.int .u8 k, .string t] w (Val.GivesB true w) := by
  have d1 : decide ((4096 : Int) < (t.size : Int)) = false := decide_eq_false (by omega)
  have d2 : decide ((k : Int) < 15) = false := decide_eq_false (by omega)
  have d3 : decide ((21 : Int) < (k : Int)) = false := decide_eq_false (by omega)
  have hz : t.size ≤ 1073741824 := by omega
  have d4 : decide ((19 : Int) ≤ (k : Int)) = true := decide_eq_true (by omega)
  have d5 : decide ((255 : Int) < (t.size : Int)) = true := decide_eq_true (by omega)
  obtain ⟨C, hC⟩ := tex_lay2 (t := t) h2
  rw [if_neg h3] at hC
  obtain ⟨X4, hX4⟩ : ∃ X : Nat, X = t.size % 256 := ⟨_, rfl⟩
  obtain ⟨X3, hX3⟩ : ∃ X : Nat, X = t.size / 256 := ⟨_, rfl⟩
  have hm : (t.size : Int).tmod 256 = (X4 : Int) := by rw [Int.tmod_eq_emod_of_nonneg (by omega)]; omega
  have hd : (t.size : Int).tdiv 256 = (X3 : Int) := by rw [Int.tdiv_eq_ediv_of_nonneg (by omega)]; omega
  have HX4 := Lib.hid hX4
  have HX3 := Lib.hid hX3
  have HZ := Lib.hid (show t.size ≤ 4096 by omega)
  clear hX4 hX3
  have HOK := Lib.hid hok
  have HC := Lib.hid hC
  have hk256 : k < 256 := by omega
  have HBK : Hid (bulk (.mk k 0 t []) ≤ 4194304) := Lib.hid (by simp only [bulk, bulkL]; omega)
  clear h h2 hok hC
  go_enter Tryd.func6, Tryd.ntmps6
  go_wp2_with (first
    | (go_at_call 21; (with_reducible refine (text_any' k t w).mono ?_); rintro e w1 ⟨rfl, hb1⟩; have hB1 := hb1.alloc hb1.size (.cells #[.int .u8 (k : Int), .int .u64 0, .string t, .slice none 0 0] 25); have hbx := Box.new w1 (.int .u8 (k : Int)) (.int .u64 0) (.string t) (.slice none 0 0); obtain ⟨z0, z1, z2, z3, _⟩ := hbx.all)
    | (go_at_call 17; (with_reducible refine (vr0 k t _ hz (ht.call hB1)).mono ?_); rw [HOK.out]; rintro e w2 ⟨rfl, hb2⟩; have hB2 := below_next hB1 hb2; obtain ⟨y0, y1, y2, y3, _⟩ := (hbx.call hb2).all)
    | (go_at_call 12; (with_reducible refine (en0 k t w2 HOK.out HBK.out hk256 (ht.call hB2)).mono ?_); rintro e w3 ⟨A3, m3, c3, rfl, ho3, hb3⟩; have hB3 := below_next hB2 hb3; rw [HC.out] at ho3; have hl3 : m3 = t.size + 5 := (by have := ho3.len; simp [be_length, tb_length] at this; omega); subst hl3; obtain ⟨A4, c4, _, _, hs1, hs2, hrd⟩ := cut_from A3 (t.size + 5) c3 5 (by omega) ho3.cap.1; rw [show t.size + 5 - 5 = t.size by omega] at hs1 hs2 hrd; have hq1 := fun W => hs1 W 5 rfl; have hq2 := fun W => hs2 W 5 rfl; have hrr := hrd w3 _ _ ho3.rd; have hst := run_str c4 hrr; rw [show List.drop 5 (C :: (be t.size 4 ++ tb t)) = tb t by simp [be], sb_tb] at hst; have hE : C :: (be t.size 4 ++ tb t) = C :: 0 :: 0 :: X3 :: X4 :: tb t := (by have h1 := HX4.out; have h2 := HX3.out; have h3 := HZ.out; simp [be]; omega); have ho5 := ho3.rd; rw [hE] at ho5; obtain ⟨b, o, x1, rfl, hb, hx1, _, hc1⟩ := ho5.at_ (k := 1) (by omega); obtain ⟨b2, o2, x2, hbo2, _, hx2, _, hc2⟩ := ho5.at_ (k := 2) (by omega); injection hbo2 with hbo2; injection hbo2 with e1 e2; subst e1 e2; obtain ⟨b3, o3, x3, hbo3, _, hx3, _, hc3⟩ := ho5.at_ (k := 3) (by omega); injection hbo3 with hbo3; injection hbo3 with e1 e2; subst e1 e2; obtain ⟨b4, o4, x4, hbo4, _, hx4, _, hc4⟩ := ho5.at_ (k := 4) (by omega); injection hbo4 with hbo4; injection hbo4 with e1 e2; subst e1 e2; simp at hx1 hx2 hx3 hx4; subst hx1 hx2 hx3 hx4; clear hE ho5; clear hs1 hs2 hrd hrr ho3)
    | (go_at_call 10; (with_reducible refine (works_any _ (ht.call hB3)).mono ?_); rintro e w4 ⟨rfl, hb4⟩))
  go_ret
  exact ⟨rfl, below_next hB3 hb4⟩
theorem walk (k : Nat) (t : ByteArray) (w : World) (ht : Tab w) (_ : k < 256) : Calls Tryd.prog 6 #[.int .u8 k, .string t] w (Val.GivesB true w) := by
  by_cases h : 4096 < t.size
  · exact big k t w ht h
  by_cases h1 : k < 15
  · exact less k t w ht h h1
  by_cases h2 : 21 < k
  · exact more k t w ht h h2
  cases hok : okB (.mk k 0 t []) with
  | false => exact not_ok k t w ht h ⟨by omega, by omega⟩ hok
  | true =>
    by_cases h3 : k ≤ 18
    · exact one k t w ht h ⟨by omega, h3⟩ hok
    · by_cases h4 : t.size ≤ 255
      · exact two k t w ht h ⟨by omega, by omega⟩ h4 hok
      · exact five k t w ht h ⟨by omega, by omega⟩ h4 hok
end Go.Proofs.YtophlpkbpjhhjaaDoor.encodeTexts
