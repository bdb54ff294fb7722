/-
  Contracts of the functions that encode.allCodes makes: which plans a code can tell. Memory that was there stays. Condition: what a plan tells of its kids is below 2^50.
-/
import Derived.Test.YtophlpkbpjhhjaaDoorCodes
import Derived.Deep.QuietTactic
import Derived.BigQuiet
namespace Go.Proofs.YtophlpkbpjhhjaaDoor.Enc
set_option maxRecDepth 100000
open Go.RowKit Go.Proofs.YtophlpkbpjhhjaaDoor.Utf Go.Proofs.YtophlpkbpjhhjaaDoor.Val

def GivesB (p : Bool) (w : World) (e : Ending) (w' : World) : Prop := e = .returned (.bool p) ∧ Below w.heap.size w w'
section
variable (NA : Option Addr) (nl nc k n : Nat) (t : ByteArray) (VA : Option Addr) (vl vc code : Nat) (bb : Bool) (KA : Option Addr) (kl kc re im : Nat) (w : World)
theorem all_any : Calls Tryd.prog 37 #[.agg #[.slice NA nl nc, .int .u8 (k : Int), .int .u64 (n : Int), .string t, .slice VA vl vc, .int .u8 (code : Int), .bool bb, .slice KA kl kc, .complex .f64 (fb re) (fb im)]] w (GivesB true w) := by
  go_enter Tryd.func37, Tryd.ntmps37
  go_wp2
  go_ret
  exact ⟨rfl, (Below.refl _ _).alloc (Nat.le_refl _) _⟩
theorem none_any (h : im < 2 ^ 50) : Calls Tryd.prog 38 #[.agg #[.slice NA nl nc, .int .u8 (k : Int), .int .u64 (n : Int), .string t, .slice VA vl vc, .int .u8 (code : Int), .bool bb, .slice KA kl kc, .complex .f64 (fb re) (fb im)]] w (GivesB (decide (im = 0)) w) := by
  have hB : Below w.heap.size w (w.alloc (.cells #[.slice NA nl nc, .int .u8 (k : Int), .int .u64 (n : Int), .string t, .slice VA vl vc, .int .u8 (code : Int), .bool bb, .slice KA kl kc, .complex .f64 (fb re) (fb im)] 55)) := (Below.refl _ _).alloc (Nat.le_refl _) _
  have HC : ∀ wx : World, Calls Tryd.prog 39 #[.agg #[.slice NA nl nc, .int .u8 (k : Int), .int .u64 (n : Int), .string t, .slice VA vl vc, .int .u8 (code : Int), .bool bb, .slice KA kl kc, .complex .f64 (fb re) (fb im)]] wx (GivesI im wx) := fun wx => pcount_any NA nl nc k n t VA vl vc code bb KA kl kc re im wx h
  obtain ⟨b, hb⟩ : ∃ b, decide (im = 0) = b := ⟨_, rfl⟩
  have hd : ((im : Int) == 0) = b := by rw [← hb, Bool.eq_iff_iff]; simp
  rw [hb]
  clear hb h
  go_enter Tryd.func38, Tryd.ntmps38
  go_wp2_with (go_at_call 39; (with_reducible refine (HC _).mono ?_); rintro e w1 ⟨rfl, hb1⟩)
  go_ret
  exact ⟨rfl, below_next hB hb1⟩
theorem short_any : Calls Tryd.prog 40 #[.agg #[.slice NA nl nc, .int .u8 (k : Int), .int .u64 (n : Int), .string t, .slice VA vl vc, .int .u8 (code : Int), .bool bb, .slice KA kl kc, .complex .f64 (fb re) (fb im)]] w (GivesB (decide (t.size ≤ 255)) w) := by
  obtain ⟨b, hb⟩ : ∃ b, decide (t.size ≤ 255) = b := ⟨_, rfl⟩
  have hd : decide ((t.size : Int) ≤ 255) = b := by rw [← hb, Bool.eq_iff_iff]; simp; omega
  rw [hb]
  clear hb
  go_enter Tryd.func40, Tryd.ntmps40
  go_wp2
  go_ret
  exact ⟨rfl, (Below.refl _ _).alloc (Nat.le_refl _) _⟩
theorem small_any (h : re < 2 ^ 50) (h' : im < 2 ^ 50) : Calls Tryd.prog 41 #[.agg #[.slice NA nl nc, .int .u8 (k : Int), .int .u64 (n : Int), .string t, .slice VA vl vc, .int .u8 (code : Int), .bool bb, .slice KA kl kc, .complex .f64 (fb re) (fb im)]] w (GivesB (decide (1 + re ≤ 255) && decide (im ≤ 255)) w) := by
  have hB : Below w.heap.size w (w.alloc (.cells #[.slice NA nl nc, .int .u8 (k : Int), .int .u64 (n : Int), .string t, .slice VA vl vc, .int .u8 (code : Int), .bool bb, .slice KA kl kc, .complex .f64 (fb re) (fb im)] 55)) := (Below.refl _ _).alloc (Nat.le_refl _) _
  have hX := Bx.new w (.slice NA nl nc) (.int .u8 (k : Int)) (.int .u64 (n : Int)) (.string t) (.slice VA vl vc) (.int .u8 (code : Int)) (.bool bb) (.slice KA kl kc) (.complex .f64 (fb re) (fb im))
  have HC : ∀ wx : World, Calls Tryd.prog 39 #[.agg #[.slice NA nl nc, .int .u8 (k : Int), .int .u64 (n : Int), .string t, .slice VA vl vc, .int .u8 (code : Int), .bool bb, .slice KA kl kc, .complex .f64 (fb re) (fb im)]] wx (GivesI im wx) := fun wx => pcount_any NA nl nc k n t VA vl vc code bb KA kl kc re im wx h'
  have HS : ∀ wx : World, Calls Tryd.prog 42 #[.agg #[.slice NA nl nc, .int .u8 (k : Int), .int .u64 (n : Int), .string t, .slice VA vl vc, .int .u8 (code : Int), .bool bb, .slice KA kl kc, .complex .f64 (fb re) (fb im)], .int .i64 1] wx (GivesI (1 + re) wx) := fun wx => psize_any NA nl nc k n t VA vl vc code bb KA kl kc re im 1 wx (by omega) h
  obtain ⟨Z, hZ⟩ : ∃ Z, 1 + re = Z := ⟨_, rfl⟩
  simp only [hZ] at HS ⊢
  obtain ⟨b1, hb1⟩ : ∃ b, decide (Z ≤ 255) = b := ⟨_, rfl⟩
  have hd1 : decide ((Z : Int) ≤ 255) = b1 := by rw [← hb1, Bool.eq_iff_iff]; simp; omega
  obtain ⟨b2, hb2⟩ : ∃ b, decide (im ≤ 255) = b := ⟨_, rfl⟩
  have hd2 : decide ((im : Int) ≤ 255) = b2 := by rw [← hb2, Bool.eq_iff_iff]; simp; omega
  rw [hb1, hb2]
  clear hb1 hb2 h h' hZ
  have HX := Lib.hid hX
  clear hX
  cases b1
  · go_enter Tryd.func41, Tryd.ntmps41
    go_wp2_with (go_at_call 42; (with_reducible refine (HS _).mono ?_); rintro e w1 ⟨rfl, hb1⟩; obtain ⟨c0, c1, c2', c3, c4, c5, c6, c7, c8, cf⟩ := (HX.out.call hb1).all; have hB1 := below_next hB hb1)
    go_ret
    exact ⟨rfl, hB1⟩
  · go_enter Tryd.func41, Tryd.ntmps41
    go_wp2_with (first
      | (go_at_call 42; (with_reducible refine (HS _).mono ?_); rintro e w1 ⟨rfl, hb1⟩; obtain ⟨c0, c1, c2', c3, c4, c5, c6, c7, c8, cf⟩ := (HX.out.call hb1).all; have hB1 := below_next hB hb1)
      | (go_at_call 39; (with_reducible refine (HC _).mono ?_); rintro e w2 ⟨rfl, hb2⟩; have hB2 := below_next hB1 hb2))
    go_ret
    exact ⟨rfl, hB2⟩
theorem near_any : Calls Tryd.prog 43 #[.agg #[.slice NA nl nc, .int .u8 (k : Int), .int .u64 (n : Int), .string t, .slice VA vl vc, .int .u8 (code : Int), .bool bb, .slice KA kl kc, .complex .f64 (fb re) (fb im)]] w (GivesB (decide (n = sg1 n)) w) := by
  have HS : ∀ wx : World, Calls Tryd.prog 44 #[.int .u64 (n : Int), .int .i64 1] wx fun e w' => e = .returned (.int .u64 (sg1 n : Nat)) ∧ w' = wx := fun wx => sgn_any n wx
  obtain ⟨S, hS⟩ : ∃ S, sg1 n = S := ⟨_, rfl⟩
  simp only [hS] at HS ⊢
  obtain ⟨b, hb⟩ : ∃ b, decide (n = S) = b := ⟨_, rfl⟩
  have hd : ((n : Int) == (S : Int)) = b := by rw [← hb, Bool.eq_iff_iff]; simp; omega
  rw [hb]
  clear hb hS
  go_enter Tryd.func43, Tryd.ntmps43
  go_wp2_with fail
  go_quiet ((go_at_call 44; refine Calls.quiet_of_same (HS _)))
  go_wp2
  go_ret
  exact ⟨rfl, below_drewN ((Below.refl _ _).alloc (Nat.le_refl _) _) _⟩
theorem just_said (m g : Nat) (hc : w.cell? ⟨g, 0, none⟩ = some (.int .u64 (m : Int))) (hg : g < w.heap.size) : Calls Tryd.prog 46 #[.agg #[.slice NA nl nc, .int .u8 (k : Int), .int .u64 (n : Int), .string t, .slice VA vl vc, .int .u8 (code : Int), .bool bb, .slice KA kl kc, .complex .f64 (fb re) (fb im)], .pointer (some ⟨g, 0, none⟩)] w (GivesB (decide (n = m)) w) := by
  obtain ⟨b, hb⟩ : ∃ b, decide (n = m) = b := ⟨_, rfl⟩
  have hd : ((n : Int) == (m : Int)) = b := by rw [← hb, Bool.eq_iff_iff]; simp; omega
  have hc' : (w.alloc (.cells #[.slice NA nl nc, .int .u8 (k : Int), .int .u64 (n : Int), .string t, .slice VA vl vc, .int .u8 (code : Int), .bool bb, .slice KA kl kc, .complex .f64 (fb re) (fb im)] 55)).cell? ⟨g, 0, none⟩ = some (.int .u64 (m : Int)) := (((Below.refl w.heap.size w).alloc (Nat.le_refl _) _).cell (p := ⟨g, 0, none⟩) hg).trans hc
  rw [hb]
  clear hb
  go_enter Tryd.func46, Tryd.ntmps46
  go_wp2
  go_ret
  exact ⟨rfl, (Below.refl _ _).alloc (Nat.le_refl _) _⟩
theorem upto_said (m g : Nat) (hc : w.cell? ⟨g, 0, none⟩ = some (.int .u64 (m : Int))) (hg : g < w.heap.size) : Calls Tryd.prog 48 #[.agg #[.slice NA nl nc, .int .u8 (k : Int), .int .u64 (n : Int), .string t, .slice VA vl vc, .int .u8 (code : Int), .bool bb, .slice KA kl kc, .complex .f64 (fb re) (fb im)], .pointer (some ⟨g, 0, none⟩)] w (GivesB (decide (n ≤ m)) w) := by
  have hc' : (w.alloc (.cells #[.slice NA nl nc, .int .u8 (k : Int), .int .u64 (n : Int), .string t, .slice VA vl vc, .int .u8 (code : Int), .bool bb, .slice KA kl kc, .complex .f64 (fb re) (fb im)] 55)).cell? ⟨g, 0, none⟩ = some (.int .u64 (m : Int)) := (((Below.refl w.heap.size w).alloc (Nat.le_refl _) _).cell (p := ⟨g, 0, none⟩) hg).trans hc
  go_enter Tryd.func48, Tryd.ntmps48
  go_wp2
  go_ret
  exact ⟨rfl, (Below.refl _ _).alloc (Nat.le_refl _) _⟩
end
end Go.Proofs.YtophlpkbpjhhjaaDoor.Enc
