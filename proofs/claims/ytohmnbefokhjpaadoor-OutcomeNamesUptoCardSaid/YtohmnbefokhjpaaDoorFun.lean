/-
  Contracts of the functions that tell a field (a number, a text, a value, symbols), and of slices.Contains over bytes. Memory that was there stays. Conditions: values of bulk at most 2^30.
-/
import Derived.Test.YtohmnbefokhjpaaDoorAsk
import Derived.Deep.RegionHeld3
import Derived.Deep.RegionWith
namespace Go.Proofs.YtohmnbefokhjpaaDoor.Fl
set_option maxRecDepth 100000
open Go.RowKit Go.Proofs.YtohmnbefokhjpaaDoor.Utf Go.Proofs.YtohmnbefokhjpaaDoor.Val V

theorem eq_dec (k m : Nat) : ((k : Int) == (m : Int)) = decide (k = m) := by
  by_cases h : k = m
  · subst h; simp
  · simp [h]; omega

theorem number1_any (k n : Nat) (t : ByteArray) (A : Option Addr) (l c kb kind : Nat) (w : World) (hk : w.cell? ⟨kb, 0, none⟩ = some (.int .u8 (kind : Int))) (hb : kb < w.heap.size) (b : Bool) (hd : decide (k = kind) = b) :
    Calls Tryd.prog 45 #[.agg #[.int .u8 (k : Int), .int .u64 (n : Int), .string t, .slice A l c], .pointer (some ⟨kb, 0, none⟩)] w (GivesP (fun r _ => r = .int .u64 (n : Int)) b w) := by
  have hd' : ((k : Int) == (kind : Int)) = b := by rw [eq_dec, hd]
  have hB : Below w.heap.size w (w.alloc (.cells #[.int .u8 (k : Int), .int .u64 (n : Int), .string t, .slice A l c] 27)) := (Below.refl _ _).alloc (Nat.le_refl _) _
  obtain ⟨a0, a1, a2, a3, _⟩ := (Box.new w (.int .u8 (k : Int)) (.int .u64 (n : Int)) (.string t) (.slice A l c)).all
  have hk1 := (hB.cell (p := ⟨kb, 0, none⟩) hb).trans hk
  obtain ⟨w1, hw1⟩ : ∃ x, w.alloc (.cells #[.int .u8 (k : Int), .int .u64 (n : Int), .string t, .slice A l c] 27) = x := ⟨_, rfl⟩
  obtain ⟨gg, hgg⟩ : ∃ x, w.heap.size = x := ⟨_, rfl⟩
  rw [hw1] at a0 a1 a2 a3 hk1 hB
  rw [hgg] at a0 a1 a2 a3
  have HB := Lib.hid hB
  clear hd hB hk
  go_enter Tryd.func45, Tryd.ntmps45
  go_wp2_with fail
  go_quiet (fail)
  go_wp2
  refine bodyPost_ret (v := .tuple #[.int .u64 (n : Int), .bool b]) (by simp [results, Tryd.results45, go_sem]) rfl ?_
  exact ⟨_, rfl, rfl, below_drewN HB.out _⟩
theorem text1_any (k n : Nat) (t : ByteArray) (A : Option Addr) (l c kb kind : Nat) (w : World) (hk : w.cell? ⟨kb, 0, none⟩ = some (.int .u8 (kind : Int))) (hb : kb < w.heap.size) (b : Bool) (hd : decide (k = kind) = b) :
    Calls Tryd.prog 55 #[.agg #[.int .u8 (k : Int), .int .u64 (n : Int), .string t, .slice A l c], .pointer (some ⟨kb, 0, none⟩)] w (GivesP (fun r _ => r = .string t) b w) := by
  have hd' : ((k : Int) == (kind : Int)) = b := by rw [eq_dec, hd]
  have hB : Below w.heap.size w (w.alloc (.cells #[.int .u8 (k : Int), .int .u64 (n : Int), .string t, .slice A l c] 27)) := (Below.refl _ _).alloc (Nat.le_refl _) _
  obtain ⟨a0, a1, a2, a3, _⟩ := (Box.new w (.int .u8 (k : Int)) (.int .u64 (n : Int)) (.string t) (.slice A l c)).all
  have hk1 := (hB.cell (p := ⟨kb, 0, none⟩) hb).trans hk
  obtain ⟨w1, hw1⟩ : ∃ x, w.alloc (.cells #[.int .u8 (k : Int), .int .u64 (n : Int), .string t, .slice A l c] 27) = x := ⟨_, rfl⟩
  obtain ⟨gg, hgg⟩ : ∃ x, w.heap.size = x := ⟨_, rfl⟩
  rw [hw1] at a0 a1 a2 a3 hk1 hB
  rw [hgg] at a0 a1 a2 a3
  have HB := Lib.hid hB
  clear hd hB hk
  go_enter Tryd.func55, Tryd.ntmps55
  go_wp2_with fail
  go_quiet (fail)
  go_wp2
  refine bodyPost_ret (v := .tuple #[.string t, .bool b]) (by simp [results, Tryd.results55, go_sem]) rfl ?_
  exact ⟨_, rfl, rfl, below_drewN HB.out _⟩

/-- Is a number among others: slices.Index, and Contains. -/
theorem index_any {B : Nat} {A : Option Addr} {n c x : Nat} {L : List Nat} {w : World} (hr : Rd .u8 256 w B A n L) (hc : n ≤ 1099511627776) :
    Calls Tryd.prog 56 #[.slice A n c, .int .u8 (x : Int)] w fun e w' => (∃ z : Int, e = .returned (.int .i64 z) ∧ decide (0 ≤ z) = decide (x ∈ L)) ∧ w = w' := by
  have HR := Lib.hid hr
  have hlen := hr.len
  clear hr
  go_enter Tryd.func56, Tryd.ntmps56
  go_wp2
  go_loopw [8] (fun i wr => ∃ j : Nat, j ≤ n ∧ i = .int .i64 j ∧ x ∉ L.take j ∧ w = wr) (fun i _ => n - (intOf i).toNat)
  case atStart => exact ⟨0, Nat.zero_le _, rfl, by simp, rfl⟩
  case round =>
    obtain ⟨j, hj, rfl, hy, rfl⟩ := hrel
    by_cases hlt : j < n
    · obtain ⟨b, o, y, rfl, hb, hx, hy256, hcell⟩ := HR.out.at_ hlt
      have HY := Lib.hid hy
      have HX := Lib.hid hx
      by_cases hxy : x = y
      · subst hxy
        clear hy hx
        go_wp2
        go_ret
        exact ⟨⟨_, rfl, by rw [decide_eq_true (List.mem_of_getElem? HX.out)]; exact decide_eq_true (Int.natCast_nonneg _)⟩, rfl⟩
      · have he : ((x : Int) == (y : Int)) = false := by rw [eq_dec]; exact decide_eq_false hxy
        have HNE := Lib.hid hxy
        clear hxy hy hx
        go_wp2
        go_roundw
        case rel => exact ⟨j + 1, by omega, by go_num, (by rw [List.take_add_one, HX.out]; simp only [Option.toList, List.mem_append, List.mem_singleton, not_or]; exact ⟨HY.out, HNE.out⟩), by trivial⟩
        case measure => simp [intOf]; omega
    · have HE : Hid (x ∉ L) := Lib.hid (by rwa [List.take_of_length_le (by omega)] at hy)
      clear hy
      go_wp2
      go_ret
      exact ⟨⟨_, rfl, by have := HE.out; simp [this]⟩, rfl⟩
theorem contains_any {B : Nat} {A : Option Addr} {n c x : Nat} {L : List Nat} {w : World} (hr : Rd .u8 256 w B A n L) (hc : n ≤ 1099511627776) :
    Calls Tryd.prog 49 #[.slice A n c, .int .u8 (x : Int)] w fun e w' => e = .returned (.bool (decide (x ∈ L))) ∧ w = w' := by
  have HI := Lib.hid (index_any (x := x) (c := c) hr hc)
  clear hr
  obtain ⟨d, hd⟩ : ∃ d, decide (x ∈ L) = d := ⟨_, rfl⟩
  rw [hd] at HI ⊢
  clear hd
  go_enter Tryd.func49, Tryd.ntmps49
  go_wp2_with (go_at_call 56; refine HI.out.mono ?_; rintro e w1 ⟨⟨z, rfl, hz⟩, rfl⟩)
  go_ret
  exact ⟨rfl, rfl⟩

/-- Is a kind one of those that are asked for (none: any)? -/
def fitsB (L : List Nat) (k : Nat) : Bool := decide (L.length = 0) || decide (k ∈ L)

/-- What is kept while a value is told: its box, and that of the answer. -/
structure SR (w wx : World) (k n : Nat) (t : ByteArray) (A : Option Addr) (l c : Nat) : Prop where
  b2 : Box wx w.heap.size (.int .u8 (k : Int)) (.int .u64 (n : Int)) (.string t) (.slice A l c)
  b3 : ∃ y0 y1 y2 y3, Box wx (w.heap.size + 1) y0 y1 y2 y3
  low : Below w.heap.size w wx
section
variable {w wx w1 : World} {k n : Nat} {t : ByteArray} {A : Option Addr} {l c : Nat}
theorem SR.call (h : SR w wx k n t A l c) (hb : Below wx.heap.size wx w1) : SR w w1 k n t A l c := ⟨h.b2.call hb, by obtain ⟨y0, y1, y2, y3, h⟩ := h.b3; exact ⟨y0, y1, y2, y3, h.call hb⟩, below_next h.low hb⟩
theorem SR.drew (h : SR w wx k n t A l c) : SR w wx.drew k n t A l c := h.call (Below.refl _ _).drew
theorem SR.kd {ks : List V} {A' : Option Addr} {l' c' : Nat} (h : SR w wx k n t A l c) (hK : Kd w ks A' l' c') : Kd wx ks A' l' c' := hK.call h.low
theorem SR.rd {B : Nat} {A' : Option Addr} {n' : Nat} {L : List Nat} (h : SR w wx k n t A l c) (hB : B ≤ w.heap.size) (hr : Rd .u8 256 w B A' n' L) : Rd .u8 256 wx B A' n' L := hr.below (h.low.mono hB)
theorem SR.size (h : SR w wx k n t A l c) : w.heap.size + 2 ≤ wx.heap.size := by
  obtain ⟨_, _, _, _, h⟩ := h.b3
  have := h.lt
  omega
theorem SR.nw {ks : List V} {A' : Option Addr} {l' c' : Nat} (h : SR w wx k n t A l c) (hN : Nw wx.heap.size w1 ks A' l' c') : Nw (w.heap.size + 2) w1 ks A' l' c' := hN.less h.size
theorem SR.cells {kb : Nat} {u : Value} (h : SR w wx k n t A l c) (hkb : kb < w.heap.size) (hu : w.cell? ⟨kb, 0, none⟩ = some u) : wx.cell? ⟨w.heap.size, 0, none⟩ = some (.int .u8 (k : Int)) ∧ wx.cell? ⟨w.heap.size, 1, none⟩ = some (.int .u64 (n : Int)) ∧ wx.cell? ⟨w.heap.size, 2, none⟩ = some (.string t) ∧ wx.cell? ⟨w.heap.size, 3, none⟩ = some (.slice A l c) ∧ wx.cell? ⟨kb, 0, none⟩ = some u := by
  obtain ⟨a0, a1, a2, a3, _⟩ := h.b2.all
  exact ⟨a0, a1, a2, a3, (h.low.cell (p := ⟨kb, 0, none⟩) hkb).trans hu⟩
theorem SR.set4 (h : SR w wx k n t A l c) (x y z u : Value) : SR w ((((wx.setCell ⟨w.heap.size + 1, 0, none⟩ x).setCell ⟨w.heap.size + 1, 1, none⟩ y).setCell ⟨w.heap.size + 1, 2, none⟩ z).setCell ⟨w.heap.size + 1, 3, none⟩ u) k n t A l c :=
  ⟨h.b2.far4 (by omega) _ _ _ _, by obtain ⟨y0, y1, y2, y3, h⟩ := h.b3; exact ⟨_, _, _, _, h.set4 _ _ _ _⟩, below_set4 h.low (by omega) _ _ _ _⟩
end

set_option maxHeartbeats 1000000 in
theorem value1_any (k n : Nat) (t : ByteArray) (ks : List V) (A : Option Addr) (l c kb : Nat) (KA : Option Addr) (kl kc B : Nat) (L : List Nat) (w : World) (hK0 : w.cell? ⟨kb, 0, none⟩ = some (.slice KA kl kc)) (hkb : kb < w.heap.size) (hr : Rd .u8 256 w B KA kl L) (hB : B ≤ w.heap.size) (hkl : kl ≤ 1099511627776)
    (hN : bulkL ks ≤ 1073741824) (hk : k < 256) (hn : n < 18446744073709551616) (hK : Kd w ks A l c) (b : Bool) (hd : fitsB L k = b) :
    Calls Tryd.prog 48 #[.agg #[.int .u8 (k : Int), .int .u64 (n : Int), .string t, .slice A l c], .pointer (some ⟨kb, 0, none⟩)] w (GivesPV k n t ks b w) := by
  obtain ⟨b2, b3, hB2⟩ := boxes2 w (.int .u8 (k : Int)) (.int .u64 (n : Int)) (.string t) (.slice A l c) (.int .u8 0) (.int .u64 0) (.string ⟨#[]⟩) (.slice none 0 0)
  have hS : SR w ((w.alloc (.cells #[.int .u8 (k : Int), .int .u64 (n : Int), .string t, .slice A l c] 27)).alloc (.cells #[.int .u8 0, .int .u64 0, .string ⟨#[]⟩, .slice none 0 0] 27)) k n t A l c := ⟨b2, ⟨_, _, _, _, b3⟩, hB2⟩
  obtain ⟨W0, hW0⟩ : ∃ W0, (w.alloc (.cells #[.int .u8 (k : Int), .int .u64 (n : Int), .string t, .slice A l c] 27)).alloc (.cells #[.int .u8 0, .int .u64 0, .string ⟨#[]⟩, .slice none 0 0] 27) = W0 := ⟨_, rfl⟩
  rw [hW0] at hS
  have hlen := hr.len
  have HN := Lib.hid hN
  have HK := Lib.hid hK
  have HR := Lib.hid hr
  have HS := Lib.hid hS
  clear hN hK hr hB2 b2 b3 hS
  by_cases h0 : kl = 0
  · have hb : b = true := by rw [← hd]; unfold fitsB; rw [hlen, h0]; rfl
    subst hb
    subst h0
    clear hd
    go_enter Tryd.func48, Tryd.ntmps48
    go_upto_region 1 with fail
    clear hW0
    refine wp_region_held_drew (S := fun wx => SR w wx k n t A l c) (by kernel_rfl) (by exact HS.out.drew) (fun hHeld => ?_)
    (refine wpAnyH_take (i := 0) (oi := ⟨some 5, _, _, _, _, _⟩) (v := ?_) rfl (by kernel_rfl) (by kernel_rfl) (by kernel_rfl) (fun _ _ _ h => h) (Or.inl ⟨by kernel_rfl, ?_⟩) (by assumption) ?_; rotate_left 1; (· intro wx hSw; (try dsimp only at hSw); obtain ⟨p0, p1, p2, p3, pk⟩ := SR.cells hSw hkb hK0; go_simp; (try with_reducible rfl)))
    try simp only [Act.put, List.setIfInBounds_toArray, List.set_cons_zero, List.set_cons_succ]
    (refine wpAnyH_take (i := 2) (oi := ⟨some 7, _, _, _, _, _⟩) (v := ?_) rfl (by kernel_rfl) (by kernel_rfl) (by kernel_rfl) (fun _ _ _ h => h) (Or.inl ⟨by kernel_rfl, ?_⟩) (by assumption) ?_; rotate_left 1; (· intro wx hSw; (try dsimp only at hSw); obtain ⟨p0, p1, p2, p3, pk⟩ := SR.cells hSw hkb hK0; go_simp; (try with_reducible rfl)))
    try simp only [Act.put, List.setIfInBounds_toArray, List.set_cons_zero, List.set_cons_succ]
    (refine wpAnyH_take (i := 3) (oi := ⟨some 8, _, _, _, _, _⟩) (v := ?_) rfl (by kernel_rfl) (by kernel_rfl) (by kernel_rfl) (fun _ _ _ h => h) (Or.inl ⟨by kernel_rfl, ?_⟩) (by assumption) ?_; rotate_left 1; (· intro wx hSw; (try dsimp only at hSw); obtain ⟨p0, p1, p2, p3, pk⟩ := SR.cells hSw hkb hK0; go_simp; (try with_reducible rfl)))
    try simp only [Act.put, List.setIfInBounds_toArray, List.set_cons_zero, List.set_cons_succ]
    (refine wpAnyH_take (i := 4) (oi := ⟨some 9, _, _, _, _, _⟩) (v := ?_) rfl (by kernel_rfl) (by kernel_rfl) (by kernel_rfl) (fun _ _ _ h => h) (Or.inl ⟨by kernel_rfl, ?_⟩) (by assumption) ?_; rotate_left 1; (· intro wx hSw; (try dsimp only at hSw); obtain ⟨p0, p1, p2, p3, pk⟩ := SR.cells hSw hkb hK0; go_simp; (try with_reducible rfl)))
    try simp only [Act.put, List.setIfInBounds_toArray, List.set_cons_zero, List.set_cons_succ]
    (refine wpAnyH_ready (rs := [1]) (by kernel_rfl) (by simp) ?_; refine AllReadyH.cons (o := ⟨some 6, _, _, _, _, _⟩) rfl (fun K hK => ?_) AllReadyH.nil; go_simp; (go_at_call 6; (with_reducible refine (vcopy_any k n t ks A l c _ HN.out hk hn (SR.kd (by with_reducible assumption) HK.out)).mono ?_); rintro e w1 ⟨A1, l1, c1, rfl, hNw1, hb1⟩; have HN1 := Lib.hid (SR.nw (by with_reducible assumption) hNw1); clear hNw1); go_wp2_with fail; refine hK.out _ _ ?_ (fun hHeld => ?_); (· exact SR.call (by with_reducible assumption) (by with_reducible assumption)); clear hK K)
    try simp only [Act.put, List.setIfInBounds_toArray, List.set_cons_zero, List.set_cons_succ]
    (refine wpAnyH_take (i := 5) (oi := ⟨some 10, _, _, _, _, _⟩) (v := ?_) rfl (by kernel_rfl) (by kernel_rfl) (by kernel_rfl) (fun _ _ _ h => h) (Or.inl ⟨by kernel_rfl, ?_⟩) (by assumption) ?_; rotate_left 1; (· intro wx hSw; (try dsimp only at hSw); obtain ⟨p0, p1, p2, p3, pk⟩ := SR.cells hSw hkb hK0; go_simp; (try with_reducible rfl)))
    try simp only [Act.put, List.setIfInBounds_toArray, List.set_cons_zero, List.set_cons_succ]
    (refine wpAnyH_take (i := 6) (oi := ⟨some 11, _, _, _, _, _⟩) (v := undef) rfl (by kernel_rfl) (by kernel_rfl) (by kernel_rfl) (fun _ _ _ h => h) (Or.inr ⟨by kernel_rfl, rfl⟩) (by assumption) ?_)
    try simp only [Act.put, List.setIfInBounds_toArray, List.set_cons_zero, List.set_cons_succ]
    (refine wpAnyH_take (i := 7) (oi := ⟨some 12, _, _, _, _, _⟩) (v := undef) rfl (by kernel_rfl) (by kernel_rfl) (by kernel_rfl) (fun _ _ _ h => h) (Or.inr ⟨by kernel_rfl, rfl⟩) (by assumption) ?_)
    try simp only [Act.put, List.setIfInBounds_toArray, List.set_cons_zero, List.set_cons_succ]
    (refine wpAnyH_take (i := 8) (oi := ⟨some 13, _, _, _, _, _⟩) (v := undef) rfl (by kernel_rfl) (by kernel_rfl) (by kernel_rfl) (fun _ _ _ h => h) (Or.inr ⟨by kernel_rfl, rfl⟩) (by assumption) ?_)
    try simp only [Act.put, List.setIfInBounds_toArray, List.set_cons_zero, List.set_cons_succ]
    (refine wpAnyH_take (i := 9) (oi := ⟨some 14, _, _, _, _, _⟩) (v := undef) rfl (by kernel_rfl) (by kernel_rfl) (by kernel_rfl) (fun _ _ _ h => h) (Or.inr ⟨by kernel_rfl, rfl⟩) (by assumption) ?_)
    try simp only [Act.put, List.setIfInBounds_toArray, List.set_cons_zero, List.set_cons_succ]
    (refine wpAnyH_take (i := 10) (oi := ⟨some 15, _, _, _, _, _⟩) (v := ?_) rfl (by kernel_rfl) (by kernel_rfl) (by kernel_rfl) (fun _ _ _ h => h) (Or.inl ⟨by kernel_rfl, ?_⟩) (by assumption) ?_; rotate_left 1; (· intro wx hSw; (try dsimp only at hSw); obtain ⟨p0, p1, p2, p3, pk⟩ := SR.cells hSw hkb hK0; go_simp; (try with_reducible rfl)))
    try simp only [Act.put, List.setIfInBounds_toArray, List.set_cons_zero, List.set_cons_succ]
    (refine wpAnyH_ready (rs := [11]) (by kernel_rfl) (by simp) ?_; refine AllReadyH.cons (o := ⟨none, _, _, _, _, _⟩) rfl (fun K hK => ?_) AllReadyH.nil; go_simp; obtain ⟨y0, y1, y2, y3, hb3⟩ := SR.b3 hHeld; obtain ⟨d0, d1, d2, d3, df⟩ := hb3.all; go_wp2_with fail; all_goals (obtain ⟨y0, y1, y2, y3, hb3⟩ := SR.b3 hHeld; have HBX := Lib.hid (hb3.set4 (.int .u8 (k : Int)) (.int .u64 (n : Int)) (.string t) (.slice A1 l1 c1)); refine hK.out _ _ ?_ (fun hHeld => ?_); (· exact SR.set4 (by with_reducible assumption) _ _ _ _); clear hK K))
    try simp only [Act.put, List.setIfInBounds_toArray, List.set_cons_zero, List.set_cons_succ]
    all_goals (refine wpAnyH_take (i := 12) (oi := ⟨some 4, _, _, _, _, _⟩) (v := ?_) rfl (by kernel_rfl) (by kernel_rfl) (by kernel_rfl) (fun _ _ _ h => h) (Or.inl ⟨by kernel_rfl, ?_⟩) (by assumption) ?_; rotate_left 1; (· intro wx hSw; (try dsimp only at hSw); obtain ⟨p0, p1, p2, p3, pk⟩ := SR.cells hSw hkb hK0; go_simp; (try with_reducible rfl)))
    try simp only [Act.put, List.setIfInBounds_toArray, List.set_cons_zero, List.set_cons_succ]
    all_goals refine wpAnyH_done (by kernel_rfl) ?_ _
    all_goals
      obtain ⟨f0, f1, f2, f3, _⟩ := HBX.out.all
      go_wp2_with fail
      refine bodyPost_ret (v := .tuple #[.agg #[.int .u8 (k : Int), .int .u64 (n : Int), .string t, .slice A1 l1 c1], .bool true]) (by simp [results, Tryd.results48, go_sem, f0, f1, f2, f3]) rfl ?_
      exact ⟨A1, l1, c1, rfl, (HN1.out.far4 (by omega) _ _ _ _).less (by omega), hHeld.low⟩
  · have hb : decide (k ∈ L) = b := by rw [← hd]; unfold fitsB; rw [hlen, decide_eq_false h0]; rfl
    have hz : ((kl : Int) == 0) = false := by simp; omega
    rw [← hb]
    clear hd hb h0
    go_enter Tryd.func48, Tryd.ntmps48
    go_upto_region 1 with fail
    clear hW0
    refine wp_region_held_drew (S := fun wx => SR w wx k n t A l c) (by kernel_rfl) (by exact HS.out.drew) (fun hHeld => ?_)
    (refine wpAnyH_take (i := 0) (oi := ⟨some 5, _, _, _, _, _⟩) (v := ?_) rfl (by kernel_rfl) (by kernel_rfl) (by kernel_rfl) (fun _ _ _ h => h) (Or.inl ⟨by kernel_rfl, ?_⟩) (by assumption) ?_; rotate_left 1; (· intro wx hSw; (try dsimp only at hSw); obtain ⟨p0, p1, p2, p3, pk⟩ := SR.cells hSw hkb hK0; go_simp; (try with_reducible rfl)))
    try simp only [Act.put, List.setIfInBounds_toArray, List.set_cons_zero, List.set_cons_succ]
    (refine wpAnyH_take (i := 2) (oi := ⟨some 7, _, _, _, _, _⟩) (v := ?_) rfl (by kernel_rfl) (by kernel_rfl) (by kernel_rfl) (fun _ _ _ h => h) (Or.inl ⟨by kernel_rfl, ?_⟩) (by assumption) ?_; rotate_left 1; (· intro wx hSw; (try dsimp only at hSw); obtain ⟨p0, p1, p2, p3, pk⟩ := SR.cells hSw hkb hK0; go_simp; (try with_reducible rfl)))
    try simp only [Act.put, List.setIfInBounds_toArray, List.set_cons_zero, List.set_cons_succ]
    (refine wpAnyH_take (i := 3) (oi := ⟨some 8, _, _, _, _, _⟩) (v := ?_) rfl (by kernel_rfl) (by kernel_rfl) (by kernel_rfl) (fun _ _ _ h => h) (Or.inl ⟨by kernel_rfl, ?_⟩) (by assumption) ?_; rotate_left 1; (· intro wx hSw; (try dsimp only at hSw); obtain ⟨p0, p1, p2, p3, pk⟩ := SR.cells hSw hkb hK0; go_simp; (try with_reducible rfl)))
    try simp only [Act.put, List.setIfInBounds_toArray, List.set_cons_zero, List.set_cons_succ]
    (refine wpAnyH_take (i := 4) (oi := ⟨some 9, _, _, _, _, _⟩) (v := ?_) rfl (by kernel_rfl) (by kernel_rfl) (by kernel_rfl) (fun _ _ _ h => h) (Or.inl ⟨by kernel_rfl, ?_⟩) (by assumption) ?_; rotate_left 1; (· intro wx hSw; (try dsimp only at hSw); obtain ⟨p0, p1, p2, p3, pk⟩ := SR.cells hSw hkb hK0; go_simp; (try with_reducible rfl)))
    try simp only [Act.put, List.setIfInBounds_toArray, List.set_cons_zero, List.set_cons_succ]
    (refine wpAnyH_ready (rs := [1]) (by kernel_rfl) (by simp) ?_; refine AllReadyH.cons (o := ⟨some 6, _, _, _, _, _⟩) rfl (fun K hK => ?_) AllReadyH.nil; go_simp; (go_at_call 6; (with_reducible refine (vcopy_any k n t ks A l c _ HN.out hk hn (SR.kd (by with_reducible assumption) HK.out)).mono ?_); rintro e w1 ⟨A1, l1, c1, rfl, hNw1, hb1⟩; have HN1 := Lib.hid (SR.nw (by with_reducible assumption) hNw1); clear hNw1); go_wp2_with fail; refine hK.out _ _ ?_ (fun hHeld => ?_); (· exact SR.call (by with_reducible assumption) (by with_reducible assumption)); clear hK K)
    try simp only [Act.put, List.setIfInBounds_toArray, List.set_cons_zero, List.set_cons_succ]
    (refine wpAnyH_take (i := 5) (oi := ⟨some 10, _, _, _, _, _⟩) (v := ?_) rfl (by kernel_rfl) (by kernel_rfl) (by kernel_rfl) (fun _ _ _ h => h) (Or.inl ⟨by kernel_rfl, ?_⟩) (by assumption) ?_; rotate_left 1; (· intro wx hSw; (try dsimp only at hSw); obtain ⟨p0, p1, p2, p3, pk⟩ := SR.cells hSw hkb hK0; go_simp; (try with_reducible rfl)))
    try simp only [Act.put, List.setIfInBounds_toArray, List.set_cons_zero, List.set_cons_succ]
    (refine wpAnyH_take (i := 6) (oi := ⟨some 11, _, _, _, _, _⟩) (v := ?_) rfl (by kernel_rfl) (by kernel_rfl) (by kernel_rfl) (fun _ _ _ h => h) (Or.inl ⟨by kernel_rfl, ?_⟩) (by assumption) ?_; rotate_left 1; (· intro wx hSw; (try dsimp only at hSw); obtain ⟨p0, p1, p2, p3, pk⟩ := SR.cells hSw hkb hK0; go_simp; (try with_reducible rfl)))
    try simp only [Act.put, List.setIfInBounds_toArray, List.set_cons_zero, List.set_cons_succ]
    (refine wpAnyH_take (i := 7) (oi := ⟨some 12, _, _, _, _, _⟩) (v := ?_) rfl (by kernel_rfl) (by kernel_rfl) (by kernel_rfl) (fun _ _ _ h => h) (Or.inl ⟨by kernel_rfl, ?_⟩) (by assumption) ?_; rotate_left 1; (· intro wx hSw; (try dsimp only at hSw); obtain ⟨p0, p1, p2, p3, pk⟩ := SR.cells hSw hkb hK0; go_simp; (try with_reducible rfl)))
    try simp only [Act.put, List.setIfInBounds_toArray, List.set_cons_zero, List.set_cons_succ]
    (refine wpAnyH_take (i := 8) (oi := ⟨some 13, _, _, _, _, _⟩) (v := ?_) rfl (by kernel_rfl) (by kernel_rfl) (by kernel_rfl) (fun _ _ _ h => h) (Or.inl ⟨by kernel_rfl, ?_⟩) (by assumption) ?_; rotate_left 1; (· intro wx hSw; (try dsimp only at hSw); obtain ⟨p0, p1, p2, p3, pk⟩ := SR.cells hSw hkb hK0; go_simp; (try with_reducible rfl)))
    try simp only [Act.put, List.setIfInBounds_toArray, List.set_cons_zero, List.set_cons_succ]
    (refine wpAnyH_ready (rs := [9]) (by kernel_rfl) (by simp) ?_; refine AllReadyH.cons (o := ⟨some 14, _, _, _, _, _⟩) rfl (fun K hK => ?_) AllReadyH.nil; go_simp; (go_at_call 49; (with_reducible refine (contains_any (SR.rd (by with_reducible assumption) hB HR.out) hkl).mono ?_); rintro e w2 ⟨rfl, rfl⟩); go_wp2_with fail; refine hK.out _ _ ?_ (fun hHeld => ?_); (· exact (by with_reducible assumption)); clear hK K)
    try simp only [Act.put, List.setIfInBounds_toArray, List.set_cons_zero, List.set_cons_succ]
    (refine wpAnyH_take (i := 10) (oi := ⟨some 15, _, _, _, _, _⟩) (v := ?_) rfl (by kernel_rfl) (by kernel_rfl) (by kernel_rfl) (fun _ _ _ h => h) (Or.inl ⟨by kernel_rfl, ?_⟩) (by assumption) ?_; rotate_left 1; (· intro wx hSw; (try dsimp only at hSw); obtain ⟨p0, p1, p2, p3, pk⟩ := SR.cells hSw hkb hK0; go_simp; (try with_reducible rfl)))
    try simp only [Act.put, List.setIfInBounds_toArray, List.set_cons_zero, List.set_cons_succ]
    (refine wpAnyH_ready (rs := [11]) (by kernel_rfl) (by simp) ?_; refine AllReadyH.cons (o := ⟨none, _, _, _, _, _⟩) rfl (fun K hK => ?_) AllReadyH.nil; go_simp; obtain ⟨y0, y1, y2, y3, hb3⟩ := SR.b3 hHeld; obtain ⟨d0, d1, d2, d3, df⟩ := hb3.all; go_wp2_with fail; all_goals (obtain ⟨y0, y1, y2, y3, hb3⟩ := SR.b3 hHeld; have HBX := Lib.hid (hb3.set4 (.int .u8 (k : Int)) (.int .u64 (n : Int)) (.string t) (.slice A1 l1 c1)); refine hK.out _ _ ?_ (fun hHeld => ?_); (· exact SR.set4 (by with_reducible assumption) _ _ _ _); clear hK K))
    try simp only [Act.put, List.setIfInBounds_toArray, List.set_cons_zero, List.set_cons_succ]
    all_goals (refine wpAnyH_take (i := 12) (oi := ⟨some 4, _, _, _, _, _⟩) (v := ?_) rfl (by kernel_rfl) (by kernel_rfl) (by kernel_rfl) (fun _ _ _ h => h) (Or.inl ⟨by kernel_rfl, ?_⟩) (by assumption) ?_; rotate_left 1; (· intro wx hSw; (try dsimp only at hSw); obtain ⟨p0, p1, p2, p3, pk⟩ := SR.cells hSw hkb hK0; go_simp; (try with_reducible rfl)))
    try simp only [Act.put, List.setIfInBounds_toArray, List.set_cons_zero, List.set_cons_succ]
    all_goals refine wpAnyH_done (by kernel_rfl) ?_ _
    all_goals
      obtain ⟨f0, f1, f2, f3, _⟩ := HBX.out.all
      go_wp2_with fail
      refine bodyPost_ret (v := .tuple #[.agg #[.int .u8 (k : Int), .int .u64 (n : Int), .string t, .slice A1 l1 c1], .bool (decide (k ∈ L))]) (by simp [results, Tryd.results48, go_sem, f0, f1, f2, f3]) rfl ?_
      exact ⟨A1, l1, c1, rfl, (HN1.out.far4 (by omega) _ _ _ _).less (by omega), hHeld.low⟩
end Go.Proofs.YtohmnbefokhjpaaDoor.Fl
