/-
  The walk of the statement FieldsNil: where there are no fields. Conditions: the table utf.shapes lies as the program's text lays it.
-/
import Derived.Test.YtnojhgpaplecgaaDoorFsa
namespace Go.Proofs.YtnojhgpaplecgaaDoor.Fl
set_option maxRecDepth 100000
open Go.RowKit Go.Proofs.YtnojhgpaplecgaaDoor.Utf Go.Proofs.YtnojhgpaplecgaaDoor.Val V

/-- What is told where there are no fields. -/
def GivesD (n : Nat) (k er : Int) (w : World) (e : Ending) (w' : World) : Prop := ∃ A c As cs, e = .returned (.agg #[.int .u64 (n : Int), .string ⟨#[]⟩, .int .u8 k, .int .u64 0, .string ⟨#[]⟩, .slice A 0 c, .slice As 0 cs, .bool false, .int .i64 er]) ∧ Below w.heap.size w w'
theorem doesnil_D (q : AQ) (KA : Option Addr) (kl kc : Nat) (w : World) (hz : q.z < 18446744073709551616) (n k : Nat) (er : Int) (hq : nilR q = ⟨n, ⟨#[]⟩, .mk k 0 ⟨#[]⟩ [], [], false, er⟩) :
    Calls Tryd.prog 14 #[.pointer none, .agg #[.int .i64 q.what, .int .i64 q.i, .int .u8 (q.kind : Int), .bool q.must, .int .u64 (q.z : Int), .slice KA kl kc]] w (GivesD n (k : Int) er w) := by
  refine (doesnil_any q KA kl kc w hz).mono ?_
  rintro e w1 ⟨r, rfl, hr, hb⟩
  rw [hq] at hr
  obtain ⟨k', m, t, ks, A, l, c, As, ns, cs, hv, hk, hm, rfl, hN, hS⟩ := hr
  injection hv with e1 e2 e3 e4
  subst e1; subst e2; subst e3; subst e4
  obtain rfl : l = 0 := hN.len
  obtain rfl : ns = 0 := hS.len
  exact ⟨A, c, As, cs, rfl, hb⟩
theorem same7_D (n k : Nat) (er : Int) (A : Option Addr) (c : Nat) (As : Option Addr) (cs : Nat) (w : World) (hk : k < 256) :
    Calls Tryd.prog 13 #[.agg #[.int .u64 (n : Int), .string ⟨#[]⟩, .int .u8 (k : Int), .int .u64 0, .string ⟨#[]⟩, .slice A 0 c, .slice As 0 cs, .bool false, .int .i64 er], .agg #[.int .u64 (n : Int), .string ⟨#[]⟩, .int .u8 (k : Int), .int .u64 0, .string ⟨#[]⟩, .slice none 0 0, .slice none 0 0, .bool false, .int .i64 er]] w (GivesB true w) :=
  same7_eq n ⟨#[]⟩ k 0 ⟨#[]⟩ [] A none 0 0 c 0 As none 0 cs 0 [] false er w (by simp [bulkL]) (by omega) hk (by omega) (Kd.none_ _ _ _) (Kd.none_ _ _ _) ⟨rfl, fun j hj => by omega⟩ ⟨rfl, fun j hj => by omega⟩
end Go.Proofs.YtnojhgpaplecgaaDoor.Fl
namespace Go.Proofs.YtnojhgpaplecgaaDoor.fieldsNil
set_option maxRecDepth 100000
open Go.RowKit Go.Proofs.YtnojhgpaplecgaaDoor.Utf Go.Proofs.YtnojhgpaplecgaaDoor.Val Go.Proofs.YtnojhgpaplecgaaDoor.Fl V

/-- What is kept: the two that are told. -/
structure NB (w wi : World) (g6 g7 : Nat) (n : Nat) (k er : Int) (A : Option Addr) (c : Nat) (As : Option Addr) (cs : Nat) (n' : Nat) (k' er' : Int) : Prop where
  b6 : Bx9 wi g6 (.int .u64 (n : Int)) (.string ⟨#[]⟩) (.int .u8 k) (.int .u64 0) (.string ⟨#[]⟩) (.slice A 0 c) (.slice As 0 cs) (.bool false) (.int .i64 er)
  b7 : Bx9 wi g7 (.int .u64 (n' : Int)) (.string ⟨#[]⟩) (.int .u8 k') (.int .u64 0) (.string ⟨#[]⟩) (.slice none 0 0) (.slice none 0 0) (.bool false) (.int .i64 er')
  tab : Tab wi
  low : Below w.heap.size w wi
  ge : w.heap.size ≤ g6 ∧ w.heap.size ≤ g7 ∧ g6 ≠ g7
theorem NB.call {w wi w' : World} {g6 g7 n : Nat} {k er : Int} {A : Option Addr} {c : Nat} {As : Option Addr} {cs n' : Nat} {k' er' : Int} (h : NB w wi g6 g7 n k er A c As cs n' k' er') (hb : Below wi.heap.size wi w') : NB w w' g6 g7 n k er A c As cs n' k' er' :=
  ⟨h.b6.off (Off.of (fun _ => False) hb) (fun h => h), h.b7.off (Off.of (fun _ => False) hb) (fun h => h), h.tab.call hb, below_next h.low hb, h.ge⟩

set_option maxHeartbeats 4000000 in
theorem walk (what qi : Int) (kind : Nat) (must : Bool) (z : Nat) (KA : Option Addr) (kl kc : Nat) (n : Int) (w : World) (ht : Tab w) (hz : z < 18446744073709551616) :
    Calls Tryd.prog 7 #[.agg #[.int .i64 what, .int .i64 qi, .int .u8 (kind : Int), .bool must, .int .u64 (z : Int), .slice KA kl kc], .int .i64 n] w (GivesB true w) := by
  have hB0 : Below w.heap.size w (w.alloc (.cells #[.int .i64 what, .int .i64 qi, .int .u8 (kind : Int), .bool must, .int .u64 (z : Int), .slice KA kl kc] 44)) := (Below.refl _ _).alloc (Nat.le_refl _) _
  have h6 : Bx6 (w.alloc (.cells #[.int .i64 what, .int .i64 qi, .int .u8 (kind : Int), .bool must, .int .u64 (z : Int), .slice KA kl kc] 44)) w.heap.size (.int .i64 what) (.int .i64 qi) (.int .u8 (kind : Int)) (.bool must) (.int .u64 (z : Int)) (.slice KA kl kc) := heap_alloc_new w _
  have HB0 := Lib.hid hB0
  have H6 := Lib.hid h6
  have HT := Lib.hid ht
  have HZ := Lib.hid hz
  clear hB0 h6 ht hz
  by_cases h1 : what = 1
  · subst h1
    go_enter Tryd.func7, Tryd.ntmps7
    go_wp2_with fail
    refine (doesnil_D ⟨1, qi, kind, must, z, []⟩ KA kl kc _ HZ.out z 0 0 rfl).mono ?_
    rintro e w1 ⟨A, c, As, cs, rfl, hb1⟩
    have h61 := H6.out.off (Off.of (fun _ => False) hb1) (fun h => h)
    obtain ⟨a0, a1, a2, a3, a4, a5⟩ := h61.all
    have HB1 := Lib.hid (below_next HB0.out hb1)
    have HL := Lib.hid h61.lt
    have hlt := h61.lt
    clear hb1 h61
    go_wp2_with fail
    refine (same7_D z 0 0 A c As cs _ (by omega)).mono ?_
    rintro e w5 ⟨rfl, hb5⟩
    have HB5 := Lib.hid (below_next ((HB1.out.alloc HB1.out.size _).alloc (by have := HB1.out.size; simp; omega) _) hb5)
    clear hb5
    go_wp2_with fail
    refine (done_nilB n _).mono ?_
    rintro e w6 ⟨rfl, hb6⟩
    have HB6 := Lib.hid (below_next HB5.out hb6)
    clear hb6
    go_wp2_with fail
    refine (works7_any _ (HT.out.call HB6.out)).mono ?_
    rintro e w7 ⟨rfl, hb7⟩
    go_wp2_with fail
    go_ret
    exact ⟨rfl, below_next HB6.out hb7⟩

  by_cases h4 : what = 4
  · subst h4
    go_enter Tryd.func7, Tryd.ntmps7
    go_wp2_with fail
    refine (doesnil_D ⟨4, qi, kind, must, z, []⟩ KA kl kc _ HZ.out 0 1 0 rfl).mono ?_
    rintro e w1 ⟨A, c, As, cs, rfl, hb1⟩
    have h61 := H6.out.off (Off.of (fun _ => False) hb1) (fun h => h)
    obtain ⟨a0, a1, a2, a3, a4, a5⟩ := h61.all
    have HB1 := Lib.hid (below_next HB0.out hb1)
    have HL := Lib.hid h61.lt
    have hlt := h61.lt
    clear hb1 h61
    have hb2 := ((Below.refl w1.heap.size w1).alloc (Nat.le_refl _) (.cells #[.int .u64 0, .string ⟨#[]⟩, .int .u8 1, .int .u64 0, .string ⟨#[]⟩, .slice A 0 c, .slice As 0 cs, .bool false, .int .i64 0] 40)).alloc (by simp) (.cells #[.int .u64 0, .string ⟨#[]⟩, .int .u8 0, .int .u64 0, .string ⟨#[]⟩, .slice none 0 0, .slice none 0 0, .bool false, .int .i64 0] 40)
    have g6 := (Below.heap_alloc (w1.alloc (.cells #[.int .u64 0, .string ⟨#[]⟩, .int .u8 1, .int .u64 0, .string ⟨#[]⟩, .slice A 0 c, .slice As 0 cs, .bool false, .int .i64 0] 40)) (.cells #[.int .u64 0, .string ⟨#[]⟩, .int .u8 0, .int .u64 0, .string ⟨#[]⟩, .slice none 0 0, .slice none 0 0, .bool false, .int .i64 0] 40) w1.heap.size (by simp)).trans (heap_alloc_new w1 _)
    have g7 := heap_alloc_new (w1.alloc (.cells #[.int .u64 0, .string ⟨#[]⟩, .int .u8 1, .int .u64 0, .string ⟨#[]⟩, .slice A 0 c, .slice As 0 cs, .bool false, .int .i64 0] 40)) (.cells #[.int .u64 0, .string ⟨#[]⟩, .int .u8 0, .int .u64 0, .string ⟨#[]⟩, .slice none 0 0, .slice none 0 0, .bool false, .int .i64 0] 40)
    rw [World.size_alloc] at g7
    have HG6 : Hid (Bx9 _ w1.heap.size _ _ _ _ _ _ _ _ _) := Lib.hid g6
    have HG7 : Hid (Bx9 _ (w1.heap.size + 1) _ _ _ _ _ _ _ _ _) := Lib.hid g7
    have HB2 := Lib.hid (below_next HB1.out hb2)
    have HL1 := Lib.hid HB1.out.size
    clear hb2 g6 g7
    go_wp2_with fail
    refine (nul_new _).mono ?_
    rintro e w3 ⟨rfl, hb3⟩
    obtain ⟨b0, b1, b2, b3, b4, b5, b6, b7, b8, bf⟩ := (HG6.out.off (Off.of (fun _ => False) hb3) (fun h => h)).all
    obtain ⟨c0, c1, c2, c3, c4, c5, c6, c7, c8, cf⟩ := (HG7.out.off (Off.of (fun _ => False) hb3) (fun h => h)).all
    have HB3 := Lib.hid (below_next HB2.out hb3)
    clear hb3 HG6 HG7
    go_wp2_with fail
    refine (same7_D 0 1 0 A c As cs _ (by omega)).mono ?_
    rintro e w5 ⟨rfl, hb5⟩
    have HB5 := Lib.hid (below_next (((((Off.of (fun i => i = w1.heap.size + 1) HB3.out).snoc rfl).snoc rfl).snoc rfl).snoc rfl |>.below (Nat.le_refl _) (fun i hi e => by have := HL1.out; omega)) hb5)
    clear hb5
    go_wp2_with fail
    refine (done_nilB n _).mono ?_
    rintro e w6 ⟨rfl, hb6⟩
    have HB6 := Lib.hid (below_next HB5.out hb6)
    clear hb6
    go_wp2_with fail
    refine (works7_any _ (HT.out.call HB6.out)).mono ?_
    rintro e w7 ⟨rfl, hb7⟩
    go_wp2_with fail
    go_ret
    exact ⟨rfl, below_next HB6.out hb7⟩

  by_cases h7 : what = 7
  · subst h7
    go_enter Tryd.func7, Tryd.ntmps7
    go_wp2_with fail
    refine (doesnil_D ⟨7, qi, kind, must, z, []⟩ KA kl kc _ HZ.out 0 0 2 rfl).mono ?_
    rintro e w1 ⟨A, c, As, cs, rfl, hb1⟩
    have h61 := H6.out.off (Off.of (fun _ => False) hb1) (fun h => h)
    obtain ⟨a0, a1, a2, a3, a4, a5⟩ := h61.all
    have HB1 := Lib.hid (below_next HB0.out hb1)
    have HL := Lib.hid h61.lt
    have hlt := h61.lt
    clear hb1 h61
    go_wp2_with fail
    refine (same7_D 0 0 2 A c As cs _ (by omega)).mono ?_
    rintro e w5 ⟨rfl, hb5⟩
    have HB5 := Lib.hid (below_next ((HB1.out.alloc HB1.out.size _).alloc (by have := HB1.out.size; simp; omega) _) hb5)
    clear hb5
    go_wp2_with fail
    refine (done_nilB n _).mono ?_
    rintro e w6 ⟨rfl, hb6⟩
    have HB6 := Lib.hid (below_next HB5.out hb6)
    clear hb6
    go_wp2_with fail
    refine (works7_any _ (HT.out.call HB6.out)).mono ?_
    rintro e w7 ⟨rfl, hb7⟩
    go_wp2_with fail
    go_ret
    exact ⟨rfl, below_next HB6.out hb7⟩

  have e1 : (what == 1) = false := by simp [h1]
  have e4 : (what == 4) = false := by simp [h4]
  have e7 : (what == 7) = false := by simp [h7]
  have hnr : nilR ⟨what, qi, kind, must, z, []⟩ = td0 := by unfold nilR; rw [if_neg h1, if_neg h4, if_neg h7]
  have HNR := Lib.hid hnr
  clear h1 h4 h7 hnr
  go_enter Tryd.func7, Tryd.ntmps7
  go_wp2_with fail
  refine (doesnil_D ⟨what, qi, kind, must, z, []⟩ KA kl kc _ HZ.out 0 0 0 (HNR.out.trans rfl)).mono ?_
  rintro e w1 ⟨A, c, As, cs, rfl, hb1⟩
  have h61 := H6.out.off (Off.of (fun _ => False) hb1) (fun h => h)
  obtain ⟨a0, a1, a2, a3, a4, a5⟩ := h61.all
  have HB1 := Lib.hid (below_next HB0.out hb1)
  have HL := Lib.hid h61.lt
  have hlt := h61.lt
  clear hb1 h61
  go_wp2_with fail
  refine (same7_D 0 0 0 A c As cs _ (by omega)).mono ?_
  rintro e w5 ⟨rfl, hb5⟩
  have HB5 := Lib.hid (below_next ((HB1.out.alloc HB1.out.size _).alloc (by have := HB1.out.size; simp; omega) _) hb5)
  clear hb5
  go_wp2_with fail
  refine (done_nilB n _).mono ?_
  rintro e w6 ⟨rfl, hb6⟩
  have HB6 := Lib.hid (below_next HB5.out hb6)
  clear hb6
  go_wp2_with fail
  refine (works7_any _ (HT.out.call HB6.out)).mono ?_
  rintro e w7 ⟨rfl, hb7⟩
  go_wp2_with fail
  go_ret
  exact ⟨rfl, below_next HB6.out hb7⟩
end Go.Proofs.YtnojhgpaplecgaaDoor.fieldsNil
