/-
  The statement FrameOwn, walked: it answers true. Memory that was there stays. No condition.
-/
import Derived.Test.YtemeigdielefiaaFrx
import Derived.Test.YtemeigdielefiaaFrs
namespace Go.Proofs.Ytemeigdielefiaa.frameOwn
set_option maxRecDepth 100000
open Go.RowKit Go.Proofs.Ytemeigdielefiaa.Utf Go.Proofs.Ytemeigdielefiaa.Enc Go.Proofs.Ytemeigdielefiaa.Fr

/-- What is kept: both arguments may be read. -/
structure OK (w wi : World) (A : Option Addr) (n : Nat) (b : List Nat) (A' : Option Addr) (n' : Nat) (b' : List Nat) : Prop where
  rd : Rd .u8 256 wi wi.heap.size A n b
  rd' : Rd .u8 256 wi wi.heap.size A' n' b'
  low : Below w.heap.size w wi
theorem OK.call {w wi w' : World} {A : Option Addr} {n : Nat} {b : List Nat} {A' : Option Addr} {n' : Nat} {b' : List Nat} (h : OK w wi A n b A' n' b') (hb : Below wi.heap.size wi w') : OK w w' A n b A' n' b' := ⟨h.rd.call hb, h.rd'.call hb, bn h.low hb⟩
theorem OK.alloc {w wi : World} {A : Option Addr} {n : Nat} {b : List Nat} {A' : Option Addr} {n' : Nat} {b' : List Nat} (h : OK w wi A n b A' n' b') (o : Obj) : OK w (wi.alloc o) A n b A' n' b' := h.call (ba (Below.refl _ _) o)

theorem walk_long (A : Option Addr) (n c : Nat) (A' : Option Addr) (n' c' most : Nat) (w : World) (h : 8192 < n ∨ 4096 < n') :
    Calls Try.prog 6 #[.slice A n c, .slice A' n' c', .int .u32 (most : Int)] w fun e w' => e = .returned (.bool true) ∧ Below w.heap.size w w' := by
  by_cases h1 : 8192 < n
  · have d : decide (8192 < (n : Int)) = true := by simp; omega
    clear h h1
    go_enter Try.func6, Try.ntmps6
    go_wp2_with (go_at_call 9; (with_reducible refine (works_any _).mono ?_); rintro e w1 ⟨rfl, hb1⟩)
    go_ret
    exact ⟨rfl, hb1⟩
  · have d : decide (8192 < (n : Int)) = false := by simp; omega
    have d2 : decide (4096 < (n' : Int)) = true := by simp; omega
    clear h h1
    go_enter Try.func6, Try.ntmps6
    go_wp2_with (go_at_call 9; (with_reducible refine (works_any _).mono ?_); rintro e w1 ⟨rfl, hb1⟩)
    go_ret
    exact ⟨rfl, hb1⟩
set_option maxHeartbeats 4000000 in
theorem walk_form (A : Option Addr) (n c : Nat) (b : List Nat) (A' : Option Addr) (n' c' : Nat) (b' : List Nat) (most : Nat) (w : World) (hr : Rd .u8 256 w w.heap.size A n b) (hr' : Rd .u8 256 w w.heap.size A' n' b') (hc : n ≤ c) (hm : most < 4294967296) (hn : n ≤ 8192) (hn' : n' ≤ 4096) (he : erF b most = 6) :
    Calls Try.prog 6 #[.slice A n c, .slice A' n' c', .int .u32 (most : Int)] w fun e w' => e = .returned (.bool true) ∧ Below w.heap.size w w' := by
  have d1 : decide (8192 < (n : Int)) = false := by simp; omega
  have d2 : decide (4096 < (n' : Int)) = false := by simp; omega
  have H0 := Lib.hid (show OK w w A n b A' n' b' from ⟨hr, hr', Below.refl _ _⟩)
  have HR1 := Lib.hid (fun wx (h : Rd .u8 256 wx wx.heap.size A n b) => read_no6 wx h hc (by omega) hm he)
  have HE := Lib.hid (erF_form b' he)
  have t1 : True := trivial
  have t2 : True := trivial
  clear hr hr' he
  go_enter Try.func6, Try.ntmps6
  go_wp2_with fail
  (with_reducible refine (HR1.out _ H0.out.rd).mono ?_)
  rintro e w1 ⟨rfl, hb1⟩
  have H1 := Lib.hid ((H0.out.call hb1).alloc (.cells #[.int .u16 0, .slice none 0 0] 25))
  have hn1 := Own.nil .u8 256 5 (w1.alloc (.cells #[.int .u16 0, .slice none 0 0] 25)) (w1.alloc (.cells #[.int .u16 0, .slice none 0 0] 25)).heap.size
  have hr1 := H1.out.rd
  clear hb1
  go_wp2_with (first
    | (at_builtin; have _t := t1; refine wpList_app8 (l := b) (L := []) rfl _ _ rfl rfl hn1 rfl hr1 (by omega) (Nat.le_refl _) ?_; clear t1 _t; intro A2 c2 w2 ho2 hg2; simp only [Nat.zero_add, List.nil_append] at ho2; have hb2 := below_grown hn1 hg2 (Nat.le_refl _); have hrd2 := H1.out.rd'.call hb2; have hs2 := hb2.size)
    | (at_builtin; have _t := t2; refine wpList_app8 (l := b') (L := b) rfl _ _ rfl rfl ho2 rfl hrd2 (by omega) hs2 ?_; clear t2 _t; intro A3 c3 w3 ho3 hg3; have hb3 := hb2.trans (below_grown ho2 hg3 hs2); have hcap3 := ho3.cap.1; have hrd3 := ho3.rd)
    | fail)
  have H3 := Lib.hid (H1.out.call hb3)
  clear hb2 hb3 hg2 hg3 ho2 hrd2 hs2 hn1 hr1 ho3
  (with_reducible refine (read_no6 w3 hrd3 hcap3 (by omega) hm HE.out).mono ?_)
  rintro e w4 ⟨rfl, hb4⟩
  have H4 := Lib.hid ((H3.out.call hb4).alloc (.cells #[.int .u16 0, .slice none 0 0] 25))
  clear hb4 hrd3
  go_wp2_with (go_at_call 9; (with_reducible refine (works_any _).mono ?_); rintro e w5 ⟨rfl, hb5⟩)
  go_ret
  exact ⟨rfl, bn H4.out.low hb5⟩
set_option maxHeartbeats 4000000 in
theorem walk_short (A : Option Addr) (n c : Nat) (b : List Nat) (A' : Option Addr) (n' c' : Nat) (b' : List Nat) (most : Nat) (w : World) (hr : Rd .u8 256 w w.heap.size A n b) (hr' : Rd .u8 256 w w.heap.size A' n' b') (hc : n ≤ c) (hm : most < 4294967296) (hn : n ≤ 8192) (hn' : n' ≤ 4096) (he : erF b most = 7) :
    Calls Try.prog 6 #[.slice A n c, .slice A' n' c', .int .u32 (most : Int)] w fun e w' => e = .returned (.bool true) ∧ Below w.heap.size w w' := by
  have d1 : decide (8192 < (n : Int)) = false := by simp; omega
  have d2 : decide (4096 < (n' : Int)) = false := by simp; omega
  have H0 := Lib.hid (show OK w w A n b A' n' b' from ⟨hr, hr', Below.refl _ _⟩)
  have HR1 := Lib.hid (fun wx (h : Rd .u8 256 wx wx.heap.size A n b) => read_no7 wx h hc (by omega) hm he)
  have HE := Lib.hid (fun h => erF_short b' he h)
  have HL := Lib.hid hr.len
  have t1 : True := trivial
  have t2 : True := trivial
  clear hr hr' he
  go_enter Try.func6, Try.ntmps6
  go_wp2_with fail
  (with_reducible refine (HR1.out _ H0.out.rd).mono ?_)
  rintro e w1 ⟨rfl, hb1⟩
  have H1 := Lib.hid ((H0.out.call hb1).alloc (.cells #[.int .u16 0, .slice none 0 0] 25))
  have hn1 := Own.nil .u8 256 5 (w1.alloc (.cells #[.int .u16 0, .slice none 0 0] 25)) (w1.alloc (.cells #[.int .u16 0, .slice none 0 0] 25)).heap.size
  have hr1 := H1.out.rd
  clear hb1
  go_wp2_with (first
    | (at_builtin; have _t := t1; refine wpList_app8 (l := b) (L := []) rfl _ _ rfl rfl hn1 rfl hr1 (by omega) (Nat.le_refl _) ?_; clear t1 _t; intro A2 c2 w2 ho2 hg2; simp only [Nat.zero_add, List.nil_append] at ho2; have hb2 := below_grown hn1 hg2 (Nat.le_refl _); have hrd2 := H1.out.rd'.call hb2; have hs2 := hb2.size)
    | (at_builtin; have _t := t2; refine wpList_app8 (l := b') (L := b) rfl _ _ rfl rfl ho2 rfl hrd2 (by omega) hs2 ?_; clear t2 _t; intro A3 c3 w3 ho3 hg3; have hb3 := hb2.trans (below_grown ho2 hg3 hs2); have hcap3 := ho3.cap.1; have hrd3 := ho3.rd)
    | fail)
  have H3 := Lib.hid (H1.out.call hb3)
  clear hb2 hb3 hg2 hg3 ho2 hrd2 hs2 hn1 hr1 ho3
  rcases erF_cases (b ++ b') most with he2 | he2 | he2
  · have hlt := HE.out he2
    rw [HL.out] at hlt
    obtain ⟨ch, hch⟩ : ∃ ch, chF (b ++ b') = ch := ⟨_, rfl⟩
    obtain ⟨k, hk⟩ : ∃ k, nF (b ++ b') = k := ⟨_, rfl⟩
    obtain ⟨l, hl⟩ : ∃ l, bodyF (b ++ b') = l := ⟨_, rfl⟩
    obtain ⟨m, hm2⟩ : ∃ m, l.length = m := ⟨_, rfl⟩
    rw [hk] at hlt
    have d3 : decide ((n : Int) < (k : Int)) = true := by simp; omega
    (with_reducible refine (read_ok ch k m l w3 hrd3 hcap3 (by omega) hm he2 hch hk hl hm2).mono ?_)
    rintro e w4 ⟨A4, c4, rfl, ho4, hb4⟩
    have H4 := Lib.hid ((H3.out.call hb4).alloc (.cells #[.int .u16 (ch : Int), .slice A4 m c4] 25))
    clear hb4 hrd3 ho4 hch hk hl hm2
    go_wp2_with (go_at_call 9; (with_reducible refine (works_any _).mono ?_); rintro e w5 ⟨rfl, hb5⟩)
    go_ret
    exact ⟨rfl, bn H4.out.low hb5⟩
  · (with_reducible refine (read_no6 w3 hrd3 hcap3 (by omega) hm he2).mono ?_)
    rintro e w4 ⟨rfl, hb4⟩
    have H4 := Lib.hid ((H3.out.call hb4).alloc (.cells #[.int .u16 0, .slice none 0 0] 25))
    clear hb4 hrd3
    go_wp2_with (go_at_call 9; (with_reducible refine (works_any _).mono ?_); rintro e w5 ⟨rfl, hb5⟩)
    go_ret
    exact ⟨rfl, bn H4.out.low hb5⟩
  · (with_reducible refine (read_no7 w3 hrd3 hcap3 (by omega) hm he2).mono ?_)
    rintro e w4 ⟨rfl, hb4⟩
    have H4 := Lib.hid ((H3.out.call hb4).alloc (.cells #[.int .u16 0, .slice none 0 0] 25))
    clear hb4 hrd3
    go_wp2_with (go_at_call 9; (with_reducible refine (works_any _).mono ?_); rintro e w5 ⟨rfl, hb5⟩)
    go_ret
    exact ⟨rfl, bn H4.out.low hb5⟩
set_option maxHeartbeats 4000000 in
theorem walk_ok (A : Option Addr) (n c : Nat) (b : List Nat) (A' : Option Addr) (n' c' : Nat) (b' : List Nat) (most : Nat) (w : World) (hr : Rd .u8 256 w w.heap.size A n b) (hr' : Rd .u8 256 w w.heap.size A' n' b') (hc : n ≤ c) (hm : most < 4294967296) (hn : n ≤ 8192) (hn' : n' ≤ 4096) (he : erF b most = 0) :
    Calls Try.prog 6 #[.slice A n c, .slice A' n' c', .int .u32 (most : Int)] w fun e w' => e = .returned (.bool true) ∧ Below w.heap.size w w' := by
  have d1 : decide (8192 < (n : Int)) = false := by simp; omega
  have d2 : decide (4096 < (n' : Int)) = false := by simp; omega
  have H0 := Lib.hid (show OK w w A n b A' n' b' from ⟨hr, hr', Below.refl _ _⟩)
  obtain ⟨e1, e2, e3, e4, e5, e6⟩ := erF_ok he
  rw [hr.len] at e3
  obtain ⟨f1, f2, f3, f4⟩ := erF_more b' he
  obtain ⟨ch, hch⟩ : ∃ ch, chF b = ch := ⟨_, rfl⟩
  obtain ⟨k, hk⟩ : ∃ k, nF b = k := ⟨_, rfl⟩
  obtain ⟨l, hl⟩ : ∃ l, bodyF b = l := ⟨_, rfl⟩
  obtain ⟨m, hm2⟩ : ∃ m, l.length = m := ⟨_, rfl⟩
  have hcut := erF_cut (k := k - 1) he (by omega)
  rw [hk] at f2 e1 e2 e3
  rw [hch] at f3
  rw [hl] at f4
  have HR1 := Lib.hid (fun wx (h : Rd .u8 256 wx wx.heap.size A n b) => read_ok ch k m l wx h hc (by omega) hm he hch hk hl hm2)
  have HR2 := Lib.hid (fun A3 c3 wx (h : Rd .u8 256 wx wx.heap.size A3 (n + n') (b ++ b')) (hcx : n + n' ≤ c3) => read_ok ch k m l wx h hcx (by omega) hm f1 f3 f2 f4 hm2)
  have HR3 := Lib.hid (fun wx (h : Rd .u8 256 wx wx.heap.size A (k - 1) (b.take (k - 1))) => read_no7 wx h (show k - 1 ≤ c by omega) (by omega) hm hcut)
  have t1 : True := trivial
  have t2 : True := trivial
  clear hr hr' he hch hk hl f1 f2 f3 f4 e4 e5 e6 hcut
  have d3 : decide ((k : Int) < 8) = false := by simp; omega
  have d4 : decide ((n : Int) < (k : Int)) = false := by simp; omega
  have d5 : decide ((most : Int) < (k : Int)) = false := by simp; omega
  have k1 : IntKind.u64.wrap (k : Int) = (k : Int) := by simp only [IntKind.wrap, IntKind.bits, IntKind.signed]; simp; omega
  have k2 : IntKind.u64.wrap (most : Int) = (most : Int) := by simp only [IntKind.wrap, IntKind.bits, IntKind.signed]; simp; omega
  obtain ⟨j, hj⟩ : ∃ j, k - 1 = j := ⟨_, rfl⟩
  have k3 : (k : Int) - 1 = (j : Int) := by omega
  rw [hj] at HR3
  obtain ⟨q1, q2⟩ := cut_to A n c j (by omega) hc
  have q1' := fun W => q1 W (j : Int) rfl
  have q2' := fun W => q2 W (j : Int) rfl
  have hjn : j ≤ n := by omega
  have k4 : IntKind.i64.wrap (j : Int) = (j : Int) := by rw [IntKind.wrap_i64]; omega
  clear q1 q2 hj
  go_enter Try.func6, Try.ntmps6
  go_wp2_with fail
  (with_reducible refine (HR1.out _ H0.out.rd).mono ?_)
  rintro e w1 ⟨A1, c1, rfl, ho1, hb1⟩
  have H1 := Lib.hid ((H0.out.call hb1).alloc (.cells #[.int .u16 (ch : Int), .slice A1 m c1] 25))
  have HX1 := Lib.hid (show BxF (w1.alloc (.cells #[.int .u16 (ch : Int), .slice A1 m c1] 25)) w1.heap.size ch A1 m c1 from heap_alloc_new w1 _)
  have HO1 := Lib.hid (ho1.rd.call (ba (Below.refl _ _) (.cells #[.int .u16 (ch : Int), .slice A1 m c1] 25)))
  have hn1 := Own.nil .u8 256 5 (w1.alloc (.cells #[.int .u16 (ch : Int), .slice A1 m c1] 25)) (w1.alloc (.cells #[.int .u16 (ch : Int), .slice A1 m c1] 25)).heap.size
  have hr1 := H1.out.rd
  clear hb1 ho1
  go_wp2_with (first
    | (at_builtin; have _t := t1; refine wpList_app8 (l := b) (L := []) rfl _ _ rfl rfl hn1 rfl hr1 (by omega) (Nat.le_refl _) ?_; clear t1 _t; intro A2 c2 w2 ho2 hg2; simp only [Nat.zero_add, List.nil_append] at ho2; have hb2 := below_grown hn1 hg2 (Nat.le_refl _); have hrd2 := H1.out.rd'.call hb2; have hs2 := hb2.size)
    | (at_builtin; have _t := t2; refine wpList_app8 (l := b') (L := b) rfl _ _ rfl rfl ho2 rfl hrd2 (by omega) hs2 ?_; clear t2 _t; intro A3 c3 w3 ho3 hg3; have hb3 := hb2.trans (below_grown ho2 hg3 hs2); have hcap3 := ho3.cap.1; have hrd3 := ho3.rd)
    | fail)
  have H3 := Lib.hid (H1.out.call hb3)
  have HX3 := Lib.hid (HX1.out.call hb3)
  have HO3 := Lib.hid (HO1.out.call hb3)
  clear hb2 hb3 hg2 hg3 ho2 hrd2 hs2 hn1 hr1 ho3
  (with_reducible refine (HR2.out A3 c3 w3 hrd3 hcap3).mono ?_)
  rintro e w4 ⟨A4, c4, rfl, ho4, hb4⟩
  have hb4' := ba hb4 (.cells #[.int .u16 (ch : Int), .slice A4 m c4] 25)
  have H4 := Lib.hid (H3.out.call hb4')
  have HX4 := Lib.hid (HX3.out.call hb4')
  have HO4 := Lib.hid (HO3.out.call hb4')
  have HY4 := Lib.hid (show BxF (w4.alloc (.cells #[.int .u16 (ch : Int), .slice A4 m c4] 25)) w4.heap.size ch A4 m c4 from heap_alloc_new w4 _)
  have HP4 := Lib.hid (ho4.rd.call (ba (Below.refl _ _) (.cells #[.int .u16 (ch : Int), .slice A4 m c4] 25)))
  have HT4 := Lib.hid (H4.out.rd.take (k := j) hjn)
  clear hb4 hb4' ho4 hrd3
  go_wp2_with (first
    | (go_at_call 16; (with_reducible refine (HR3.out _ HT4.out).mono ?_); rintro e w5 ⟨rfl, hb5⟩; have hb5' := ba hb5 (.cells #[.int .u16 0, .slice none 0 0] 25); obtain ⟨y0, y1, _, _⟩ := (HX4.out.call hb5').all; obtain ⟨z0, z1, _, _⟩ := (HY4.out.call hb5').all; have hP5 := HP4.out.call hb5'; have hO5 := HO4.out.call hb5'; have HB5 := Lib.hid (bn H4.out.low hb5'); clear hb5 hb5')
    | (go_at_call 18; (with_reducible refine (same_yes _ _ ch A1 A4 m c1 c4 l _ hO5 hP5 (Nat.le_refl _) (Nat.le_refl _)).mono ?_); rintro e w7 ⟨rfl, hb7⟩; have HB7 := Lib.hid (bn HB5.out hb7); clear hb7)
    | (go_at_call 9; (with_reducible refine (works_any _).mono ?_); rintro e w8 ⟨rfl, hb8⟩)
    | fail)
  go_ret
  exact ⟨rfl, bn HB7.out hb8⟩
theorem walk (A : Option Addr) (n c : Nat) (b : List Nat) (A' : Option Addr) (n' c' : Nat) (b' : List Nat) (most : Nat) (w : World) (hr : Rd .u8 256 w w.heap.size A n b) (hc : n ≤ c) (hr' : Rd .u8 256 w w.heap.size A' n' b') (_ : n' ≤ c') (hm : most < 4294967296) :
    Calls Try.prog 6 #[.slice A n c, .slice A' n' c', .int .u32 (most : Int)] w fun e w' => e = .returned (.bool true) ∧ Below w.heap.size w w' := by
  by_cases h : 8192 < n ∨ 4096 < n'
  · exact walk_long A n c A' n' c' most w h
  · rcases erF_cases b most with he | he | he
    · exact walk_ok A n c b A' n' c' b' most w hr hr' hc hm (by omega) (by omega) he
    · exact walk_form A n c b A' n' c' b' most w hr hr' hc hm (by omega) (by omega) he
    · exact walk_short A n c b A' n' c' b' most w hr hr' hc hm (by omega) (by omega) he
end Go.Proofs.Ytemeigdielefiaa.frameOwn
