/-
  Contract of encode.Value: the bytes of a value that may be, in new memory, or that it may not be. Conditions: bulk at most 2^22; the table of package utf.
-/
import Derived.Test.YtikjnbognjicdaaDoorPlanW
import Derived.Test.YtikjnbognjicdaaDoorWkf
import Derived.Test.YtikjnbognjicdaaDoorInj2
namespace Go.Proofs.YtikjnbognjicdaaDoor.Enc
set_option maxRecDepth 100000
open Go.RowKit Go.Proofs.YtikjnbognjicdaaDoor.Utf Go.Proofs.YtikjnbognjicdaaDoor.Val V

mutual
/-- More than a plan lays, whatever its codes. -/
def mass : Pl → Nat
  | .mk ns _ _ t _ _ ks _ _ => massN ns + 33 + t.size + massL ks
def massN : List Pl → Nat
  | [] => 0
  | p :: r => 1 + mass p + massN r
def massL : List Pl → Nat
  | [] => 0
  | p :: r => mass p + massL r
end
theorem dlay_len (k n : Nat) (t : ByteArray) (c re im : Nat) (ks : List Nat) : (dlay k n t c re im ks).length ≤ 32 + t.size + ks.length := by
  have := wid_le c
  unfold dlay
  split
  · simp
  · split
    · rw [be_length]; omega
    · split
      · rw [tb_length]; omega
      · split
        · rw [List.length_append, be_length, tb_length]; omega
        · rw [List.length_append, List.length_append, be_length, be_length]; omega
mutual
theorem lay_mass : ∀ p : Pl, (lay p).length ≤ mass p
  | .mk ns k n t c b ks re im => by
    have h1 := dlay_len k n t c re im (layK ks)
    have h2 := layK_mass ks
    have h3 := layN_mass ns
    simp only [lay, mass]
    split
    · omega
    · rw [List.length_append, List.length_cons]; omega
theorem layN_mass : ∀ l : List Pl, (layN l).length ≤ massN l
  | [] => by simp [layN]
  | p :: r => by
    have h1 := lay_mass p
    have h2 := layN_mass r
    simp only [layN, massN, List.length_cons, List.length_append]
    omega
theorem layK_mass : ∀ l : List Pl, (layK l).length ≤ massL l
  | [] => by simp [layK]
  | p :: r => by
    have h1 := lay_mass p
    have h2 := layK_mass r
    simp only [layK, massL, List.length_append]
    omega
end
theorem mass_setc (c : Nat) (b : Bool) (p : Pl) : mass (setc c b p) = mass p := by cases p; rfl
theorem massL_setc (c : Nat) (b : Bool) : ∀ l : List Pl, massL (l.map (setc c b)) = massL l
  | [] => rfl
  | p :: r => by simp only [List.map_cons, massL, mass_setc, massL_setc c b r]
theorem massN_append : ∀ a b : List Pl, massN (a ++ b) = massN a + massN b
  | [], b => by simp [massN]
  | p :: a, b => by simp only [List.cons_append, massN, massN_append a b]; omega
theorem mass_addN (ds : List Pl) (p : Pl) : mass (addN ds p) = massN ds + mass p := by
  cases p
  simp only [addN, mass, massN_append]
  omega
theorem mass_alike (l : List Pl) : massL (alikeP l) ≤ massL l + 33 := by
  cases l with
  | nil => decide
  | cons p r => simp only [alikeP, massL, mass_setc, massL_setc]; omega
mutual
theorem mass_plan : ∀ v : V, mayB v = true → mass (plan v) ≤ 100 * bulk v
  | .mk k n t ks, h => by
    by_cases hk : k = 25
    · subst hk
      obtain ⟨x, y, rfl, _, hx, hy⟩ := may_desc h
      have h1 := mass_planL [x, y] (may_kids h)
      simp only [planL, massL, bulkL] at h1
      rw [plan_desc, mass_addN]
      simp only [massN, bulk, bulkL]
      omega
    · have h1 := mass_planL ks (may_kids h)
      have h2 := mass_alike (planL ks)
      rw [plan_core n t ks hk]
      simp only [fin, mass, massN, bulk]
      split <;> omega
theorem mass_planL : ∀ l : List V, mayL l = true → massL (planL l) ≤ 100 * bulkL l
  | [], _ => by simp [planL, bulkL, massL]
  | v :: r, h => by
    simp only [mayL, Bool.and_eq_true] at h
    have h1 := mass_plan v h.1
    have h2 := mass_planL r h.2
    simp only [planL, massL, bulkL]
    omega
end
theorem lay_bulk (v : V) (h : mayB v = true) : (lay (plan v)).length ≤ 100 * bulk v := Nat.le_trans (lay_mass _) (mass_plan v h)
theorem ok_may {v : V} (h : okB v = true) : mayB v = true := by
  simp only [okB, Bool.and_eq_true] at h
  first | exact h.2 | exact h.1.2 | exact h.1.1 | exact h.1
mutual
theorem repV_n64 {own : Bool} {w : World} {P : Nat → Prop} : ∀ {v : V} {b o : Nat}, RepV own w P v b o → n64 v
  | .mk _ _ _ ks, _, _, h => by
    obtain ⟨A, l, c, _, _, _, _, _, hn, hl, _, hr⟩ := h
    refine ⟨hn, ?_⟩
    by_cases h0 : 0 < l
    · obtain ⟨b', o', _, _, _, hrow⟩ := hr h0
      exact rowL_n64 hrow
    · have : ks = [] := List.eq_nil_of_length_eq_zero (by omega)
      rw [this]
      trivial
theorem rowL_n64 {own : Bool} {w : World} {P : Nat → Prop} : ∀ {ks : List V} {b o : Nat}, RowL own w P ks b o → n64L ks
  | [], _, _, _ => trivial
  | _ :: _, _, _, h => ⟨repV_n64 h.1, rowL_n64 h.2⟩
end
theorem kd_n64 {w : World} {ks : List V} {A : Option Addr} {l c : Nat} (h : Kd w ks A l c) : n64L ks := by
  by_cases h0 : 0 < l
  · obtain ⟨b', o', _, _, _, hrow⟩ := h.2.2 h0
    exact rowL_n64 hrow
  · have : ks = [] := List.eq_nil_of_length_eq_zero (by have := h.1; omega)
    rw [this]
    trivial
/-- A value read, that may be, is one of which the bytes tell it. -/
theorem good_of {k n : Nat} {t : ByteArray} {ks : List V} {w : World} {A : Option Addr} {l c : Nat} (h : okB (.mk k n t ks) = true) (hn : n < 18446744073709551616) (hK : Kd w ks A l c) (hb : bulk (.mk k n t ks) ≤ 67108864) : Good (.mk k n t ks) := ⟨ok_may h, ⟨hn, kd_n64 hK⟩, hb⟩

/-- encode.Value: the bytes and OK, or none and ErrArg. -/
def GivesV (v : V) (w : World) (e : Ending) (w' : World) : Prop := ∃ A m c, e = .returned (.tuple #[.slice A m c, .int .i64 0]) ∧ Utf.Own .u8 256 5 w' w.heap.size A m c (lay (plan v)) ∧ Below w.heap.size w w'
def GivesNone (w : World) (e : Ending) (w' : World) : Prop := e = .returned (.tuple #[.slice none 0 0, .int .i64 1]) ∧ Below w.heap.size w w'

theorem encv_no (k n : Nat) (t : ByteArray) (ks : List V) (A : Option Addr) (l c : Nat) (w : World) (hok : okB (.mk k n t ks) = false) (hb : bulk (.mk k n t ks) ≤ 33554432) (hn : n < 18446744073709551616) (hK : Kd w ks A l c) (hTab : Tab w) :
    Calls Tryd.prog 12 #[.agg #[.int .u8 (k : Int), .int .u64 (n : Int), .string t, .slice A l c]] w (GivesNone w) := by
  have HR := fun wx (h : Below w.heap.size w wx) => vright_any k n t ks A l c wx (by simp only [bulk] at hb; omega) (by simp only [bulk] at hb; omega) hn (hK.call h) (hTab.call h)
  rw [hok] at HR
  have hB : Below w.heap.size w (w.alloc (.cells #[.int .u8 (k : Int), .int .u64 (n : Int), .string t, .slice A l c] 25)) := (Below.refl _ _).alloc (Nat.le_refl _) _
  obtain ⟨z0, z1, z2, z3, _⟩ := (Box.new w (.int .u8 (k : Int)) (.int .u64 (n : Int)) (.string t) (.slice A l c)).all
  go_enter Tryd.func12, Tryd.ntmps12
  go_wp2_with (go_at_call 20; (with_reducible refine (HR _ hB).mono ?_); rintro e w1 ⟨rfl, hb1⟩)
  go_ret2
  exact ⟨rfl, below_next hB hb1⟩
theorem pd_lo {w : World} {l : List Pl} {A : Option Addr} {n c : Nat} (h : Pd w l A n c) (o : Obj) : Ps (w.alloc o) (Lo w.heap.size) l A n c := Ps.keep h fun _ hi => Below.heap_alloc _ _ _ hi
theorem make_bytes (LG : Nat) (h : LG ≤ 1099511627776) : ∃ CC : Array Value, (∀ wx : World, (Instr.makeSlice 29 (.int .i64 0) (.int .i64 (LG : Int))).run Tryd.prog wx = .ok (.slice (some ⟨wx.heap.size, 0, none⟩) 0 LG) (wx.alloc (.cells CC 5))) ∧
    (∀ (wx : World) (base : Nat), base ≤ wx.heap.size → Utf.Own .u8 256 5 (wx.alloc (.cells CC 5)) base (some ⟨wx.heap.size, 0, none⟩) 0 LG []) := by
  obtain ⟨i0, hi, hz0, hz1, hz2⟩ := info_parts infoU8
  refine ⟨madeCells (Value.int .u8 0).cells (LG * i0.size), fun wx => ?_, fun wx base hb => ⟨fun _ h => (by cases h), World.ownsRow_made wx _ LG hb (by unfold maxLen; omega) ?_, Typ.new _ _ _ _ _ (made_cells rfl ⟨0, by omega, rfl⟩ _)⟩⟩
  · have := run_make (P := Tryd.prog) wx 29 5 i0 (.int .u8 0) Tryd.underlying29 hi hz0 .i64 .i64 0 (LG : Int) (by omega) (by omega) (by rw [hz2]; omega) (by omega)
    simpa using this
  · rw [size_madeCells, hz1]
/-- A box of a plan that is filled. -/
theorem fill9 {w3 : World} {g : Nat} {z0 z1 z2 z3 z4 z5 z6 z7 z8 : Value} (hz : Bx w3 g z0 z1 z2 z3 z4 z5 z6 z7 z8) (x0 x1 x2 x3 x4 x5 x6 x7 x8 : Value) {W4 : World}
    (hW : (((((((((w3.setCell ⟨g, 0, none⟩ x0).setCell ⟨g, 1, none⟩ x1).setCell ⟨g, 2, none⟩ x2).setCell ⟨g, 3, none⟩ x3).setCell ⟨g, 4, none⟩ x4).setCell ⟨g, 5, none⟩ x5).setCell ⟨g, 6, none⟩ x6).setCell ⟨g, 7, none⟩ x7).setCell ⟨g, 8, none⟩ x8) = W4) :
    Bx W4 g x0 x1 x2 x3 x4 x5 x6 x7 x8 ∧ (∀ i, i ≠ g → W4.heap[i]? = w3.heap[i]?) ∧ W4.heap.size = w3.heap.size ∧ ∀ B w, Below B w w3 → B ≤ g → Below B w W4 := by
  subst hW
  refine ⟨?_, fun i hi => ?_, by simp, fun B w hb hg => ?_⟩
  · unfold Bx at hz ⊢
    simp [World.setCell, Array.getElem?_modify, hz]
  · (repeat rw [Below.heap_setCell _ _ _ i hi])
  · exact ((((((((hb.setCell hg _).setCell hg _).setCell hg _).setCell hg _).setCell hg _).setCell hg _).setCell hg _).setCell hg _).setCell hg _
set_option maxHeartbeats 1000000 in
theorem encv_yes (k n : Nat) (t : ByteArray) (ks : List V) (A : Option Addr) (l c : Nat) (w : World) (hok : okB (.mk k n t ks) = true) (hb : bulk (.mk k n t ks) ≤ 33554432) (hk : k < 256) (hn : n < 18446744073709551616) (hK : Kd w ks A l c) (hTab : Tab w) :
    Calls Tryd.prog 12 #[.agg #[.int .u8 (k : Int), .int .u64 (n : Int), .string t, .slice A l c]] w (GivesV (.mk k n t ks) w) := by
  have HR := fun wx (h : Below w.heap.size w wx) => vright_any k n t ks A l c wx (by simp only [bulk] at hb; omega) (by simp only [bulk] at hb; omega) hn (hK.call h) (hTab.call h)
  rw [hok] at HR
  have hm := ok_may hok
  have HP : ∀ bm wx, CM wx bm → Below w.heap.size w wx → Calls Tryd.prog 29 #[.map (some bm), .agg #[.int .u8 (k : Int), .int .u64 (n : Int), .string t, .slice A l c]] wx (GivesP (plan (.mk k n t ks)) wx) := fun bm wx hM h => plan_any (.mk k n t ks) hm hb hk hn A l c bm wx hM (hK.call h)
  have hf := fine_plan 1099511627776 (.mk k n t ks) hm (by omega)
  have hlb := lay_bulk (.mk k n t ks) hm
  have hcap := Nat.le_trans (long_cap _) (cap_plan (.mk k n t ks) hm)
  have hB : Below w.heap.size w (w.alloc (.cells #[.int .u8 (k : Int), .int .u64 (n : Int), .string t, .slice A l c] 25)) := (Below.refl _ _).alloc (Nat.le_refl _) _
  have hbx := Box.new w (.int .u8 (k : Int)) (.int .u64 (n : Int)) (.string t) (.slice A l c)
  obtain ⟨z0, z1, z2, z3, _⟩ := hbx.all
  have hsc := store_cplx
  go_enter Tryd.func12, Tryd.ntmps12
  go_wp2_with (go_at_call 20; (with_reducible refine (HR _ hB).mono ?_); rintro e w1 ⟨rfl, hb1⟩; have hB1 := below_next hB hb1; have hbx1 := hbx.call hb1; obtain ⟨y0, y1, y2, y3, _⟩ := hbx1.all)
  have HB1 := Lib.hid hB1
  obtain ⟨u0, u1, u2, u3, _⟩ := (hbx1.alloc (.cells #[.slice none 0 0, .int .u8 0, .int .u64 0, .string ⟨#[]⟩, .slice none 0 0, .int .u8 0, .bool false, .slice none 0 0, .complex .f64 0 0] 56)).all
  go_region_law (first
    | (go_simp; go_at_call 28; (with_reducible refine (allCodes_any _).mono ?_); rintro e w2 ⟨bm, rfl, hM2, hb2⟩; have hb2d := below_next ((Below.refl w1.heap.size w1).drew) hb2; have hB2 := below_next HB1.out hb2d; obtain ⟨x0, x1, x2, x3, _⟩ := (hbx1.call hb2d).all; obtain ⟨v0, v1, v2, v3, _⟩ := ((hbx1.call hb2d).alloc (.cells #[.slice none 0 0, .int .u8 0, .int .u64 0, .string ⟨#[]⟩, .slice none 0 0, .int .u8 0, .bool false, .slice none 0 0, .complex .f64 0 0] 56)).all)
    | (go_simp; go_at_call 28; (with_reducible refine (allCodes_any _).mono ?_); rintro e w2 ⟨bm, rfl, hM2, hb2⟩; have hb2d := below_next (((Below.refl w1.heap.size w1).drew).alloc (Nat.le_refl _) (.cells #[.slice none 0 0, .int .u8 0, .int .u64 0, .string ⟨#[]⟩, .slice none 0 0, .int .u8 0, .bool false, .slice none 0 0, .complex .f64 0 0] 56)) hb2; have hB2 := below_next HB1.out hb2d; have hz2 := (show Bx w2 w1.heap.size _ _ _ _ _ _ _ _ _ from (Bx.new w1.drew (.slice none 0 0) (.int .u8 0) (.int .u64 0) (.string ⟨#[]⟩) (.slice none 0 0) (.int .u8 0) (.bool false) (.slice none 0 0) (.complex .f64 0 0)).call hb2); obtain ⟨x0, x1, x2, x3, _⟩ := (hbx1.call hb2d).all)
    | (go_simp; go_at_call 29; (with_reducible refine (HP bm _ hM2 hB2).mono ?_); rintro e w3 ⟨ns', k', n', t', code', bb', ks', re', im', NA', nl', nc', VA', vl', vc', KA', kl', kc', hpl, rfl, hpn, hpk, hb3⟩; have hB3 := below_next hB2 hb3; have hz3 := hz2.call hb3; obtain ⟨q0, q1, q2, q3, q4, q5, q6, q7, q8, qf⟩ := hz3.all)
    | (go_simp; go_at_call 29; (with_reducible refine (HP bm _ hM2 hB2).mono ?_); rintro e w3 ⟨ns', k', n', t', code', bb', ks', re', im', NA', nl', nc', VA', vl', vc', KA', kl', kc', hpl, rfl, hpn, hpk, hb3⟩; have hB3 := below_next hB2 hb3)
    | (go_simp; go_at_call 29; (with_reducible refine (HP bm _ (hM2.call ((Below.refl _ _).alloc (Nat.le_refl _) (.cells #[.slice none 0 0, .int .u8 0, .int .u64 0, .string ⟨#[]⟩, .slice none 0 0, .int .u8 0, .bool false, .slice none 0 0, .complex .f64 0 0] 56))) (hB2.alloc hB2.size (.cells #[.slice none 0 0, .int .u8 0, .int .u64 0, .string ⟨#[]⟩, .slice none 0 0, .int .u8 0, .bool false, .slice none 0 0, .complex .f64 0 0] 56))).mono ?_); rintro e w3 ⟨ns', k', n', t', code', bb', ks', re', im', NA', nl', nc', VA', vl', vc', KA', kl', kc', hpl, rfl, hpn, hpk, hb3⟩; have hB3 := below_next (hB2.alloc hB2.size (.cells #[.slice none 0 0, .int .u8 0, .int .u64 0, .string ⟨#[]⟩, .slice none 0 0, .int .u8 0, .bool false, .slice none 0 0, .complex .f64 0 0] 56)) hb3; have hz2 := (Bx.new w2 (.slice none 0 0) (.int .u8 0) (.int .u64 0) (.string ⟨#[]⟩) (.slice none 0 0) (.int .u8 0) (.bool false) (.slice none 0 0) (.complex .f64 0 0)); have hz3 := hz2.call hb3; obtain ⟨q0, q1, q2, q3, q4, q5, q6, q7, q8, qf⟩ := hz3.all))
  all_goals
    first
      | (have hz4 : Bx w3 w2.heap.size _ _ _ _ _ _ _ _ _ := hz3; generalize hW4 : World.setCell _ _ _ = W4; obtain ⟨hX, hk4, hs4, hB4⟩ := fill9 hz4 (.slice NA' nl' nc') (.int .u8 (k' : Int)) (.int .u64 (n' : Int)) (.string t') (.slice VA' vl' vc') (.int .u8 (code' : Int)) (.bool bb') (.slice KA' kl' kc') (.complex .f64 (fb re') (fb im')) hW4; have hB4 := hB4 _ _ hB3 (by first | exact hB2.size | exact HB1.out.size); have hlt : w2.heap.size < w2.heap.size + 1 := (by first | exact Nat.lt_succ_self _ | exact Nat.lt_succ_of_lt hz2.lt); have hn : Pd W4 ns' NA' nl' nc' := (Ps.keep hpn fun i hi => hk4 i (by first | (have := hi.1; simp at this; omega) | (have := hi.1; have := hz2.lt; omega))).mono fun i hi => (by rw [hs4]; exact hi.2); have hkk : Pd W4 ks' KA' kl' kc' := (Ps.keep hpk fun i hi => hk4 i (by first | (have := hi.1; simp at this; omega) | (have := hi.1; have := hz2.lt; omega))).mono fun i hi => (by rw [hs4]; exact hi.2); clear hlt; generalize w2.heap.size = g4 at hX ⊢)
      | (have hz4 : Bx w3 w1.heap.size _ _ _ _ _ _ _ _ _ := hz3; generalize hW4 : World.setCell _ _ _ = W4; obtain ⟨hX, hk4, hs4, hB4⟩ := fill9 hz4 (.slice NA' nl' nc') (.int .u8 (k' : Int)) (.int .u64 (n' : Int)) (.string t') (.slice VA' vl' vc') (.int .u8 (code' : Int)) (.bool bb') (.slice KA' kl' kc') (.complex .f64 (fb re') (fb im')) hW4; have hB4 := hB4 _ _ hB3 (by first | exact hB2.size | exact HB1.out.size); have hlt : w1.heap.size < w2.heap.size + 1 := (by first | exact Nat.lt_succ_self _ | exact Nat.lt_succ_of_lt hz2.lt); have hn : Pd W4 ns' NA' nl' nc' := (Ps.keep hpn fun i hi => hk4 i (by first | (have := hi.1; simp at this; omega) | (have := hi.1; have := hz2.lt; omega))).mono fun i hi => (by rw [hs4]; exact hi.2); have hkk : Pd W4 ks' KA' kl' kc' := (Ps.keep hpk fun i hi => hk4 i (by first | (have := hi.1; simp at this; omega) | (have := hi.1; have := hz2.lt; omega))).mono fun i hi => (by rw [hs4]; exact hi.2); clear hlt; generalize w1.heap.size = g4 at hX ⊢)
      | (generalize hW4 : w3.alloc _ = W4; have hX : Bx W4 w3.heap.size (.slice NA' nl' nc') (.int .u8 (k' : Int)) (.int .u64 (n' : Int)) (.string t') (.slice VA' vl' vc') (.int .u8 (code' : Int)) (.bool bb') (.slice KA' kl' kc') (.complex .f64 (fb re') (fb im')) := (by subst hW4; exact Bx.new w3 _ _ _ _ _ _ _ _ _); have hB4 : Below w.heap.size w W4 := (by subst hW4; exact hB3.alloc hB3.size _); have hn : Pd W4 ns' NA' nl' nc' := (by subst hW4; exact hpn.pd.alloc _); have hkk : Pd W4 ks' KA' kl' kc' := (by subst hW4; exact hpk.pd.alloc _); generalize w3.heap.size = g4 at hX ⊢)
  all_goals
    rw [hpl] at hf hlb hcap
    have HPL := Lib.hid hpl
    clear hb2 hb2d hB2 hb3 hB3 hpn hpk x0 x1 x2 x3 y0 y1 y2 y3 u0 u1 u2 u3 hbx1 HP HR z0 z1 z2 z3 hbx hpl hM2
    obtain ⟨q0, q1, q2, q3, q4, q5, q6, q7, q8, qf⟩ := hX.all
    obtain ⟨r0, r1, r2, r3, r4, r5, r6, r7, r8, rf⟩ := (hX.call ((Below.refl _ _).drew)).all
    obtain ⟨LG, hLG⟩ : ∃ LG, long (.mk ns' k' n' t' code' bb' ks' re' im') = LG := ⟨_, rfl⟩
    obtain ⟨LY, hLY⟩ : ∃ LY, lay (.mk ns' k' n' t' code' bb' ks' re' im') = LY := ⟨_, rfl⟩
    have hlong : ∀ wx : World, Pd wx ns' NA' nl' nc' → Calls Tryd.prog 31 #[.agg #[.slice NA' nl' nc', .int .u8 (k' : Int), .int .u64 (n' : Int), .string t', .slice VA' vl' vc', .int .u8 (code' : Int), .bool bb', .slice KA' kl' kc', .complex .f64 (fb re') (fb im')]] wx (GivesI LG wx) := fun wx h => hLG ▸ long_any _ ns' ks' NA' nl' nc' k' n' t' VA' vl' vc' code' bb' KA' kl' kc' re' im' wx (Nat.le_refl _) hf h
    rw [hLG] at hcap
    have hlay : ∀ (base : Nat) (A : Option Addr) (c : Nat) (wx : World), Ps wx (Lo base) ns' NA' nl' nc' → Ps wx (Lo base) ks' KA' kl' kc' → Utf.Own .u8 256 5 wx base A 0 c [] → base ≤ wx.heap.size → Calls Tryd.prog 30 #[.agg #[.slice NA' nl' nc', .int .u8 (k' : Int), .int .u64 (n' : Int), .string t', .slice VA' vl' vc', .int .u8 (code' : Int), .bool bb', .slice KA' kl' kc', .complex .f64 (fb re') (fb im')], .slice A 0 c] wx (GivesL2 base LY wx) := fun base A c wx h1 h2 h3 h4 => hLY ▸ lay2_any _ ns' ks' NA' nl' nc' k' n' t' VA' vl' vc' code' bb' KA' kl' kc' re' im' base A 0 c [] wx (Nat.le_refl _) hf h1 h2 h3 h4 (by omega)
    rw [hLY] at hlb
    have HPL2 : Hid (lay (plan (.mk k n t ks)) = LY) := Lib.hid (by rw [HPL.out, hLY])
    obtain ⟨CC, hmk, hoc⟩ := make_bytes LG (by omega)
    have HX := Lib.hid hX
    have HB4 := Lib.hid hB4
    have HN4 := Lib.hid hn
    have HK4 := Lib.hid hkk
    clear hX hB4 hn hkk hLG hLY hf HPL
    go_wp2_with fail
    go_region_law (first
      | (go_simp; go_at_call 31; (with_reducible refine (hlong W4.drew (HN4.out.call ((Below.refl _ _).drew))).mono ?_); rintro e w5 ⟨rfl, hb5⟩; have hb5d := below_next ((Below.refl W4.heap.size W4).drew) hb5; have hB5 := below_next HB4.out hb5d; obtain ⟨p0, p1, p2, p3, p4, p5, p6, p7, p8, pf⟩ := (HX.out.call hb5d).all; obtain ⟨s0, s1, s2, s3, s4, s5, s6, s7, s8, sf⟩ := ((HX.out.call hb5d).alloc (.cells CC 5)).all)
      | (go_simp; go_at_call 30; (with_reducible refine (hlay w5.heap.size _ LG (w5.alloc (.cells CC 5)) (pd_lo (HN4.out.call hb5d) _) (pd_lo (HK4.out.call hb5d) _) (hoc w5 _ (Nat.le_refl _)) (by simp)).mono ?_); rintro e w6 ⟨A6, m6, c6, rfl, ho6, hb6, _⟩))
    all_goals
      go_wp2
      go_ret2
      exact ⟨A6, m6, c6, rfl, by rw [HPL2.out]; exact ho6.mono hB5.size, (hB5.alloc hB5.size _).trans (hb6.mono hB5.size)⟩
end Go.Proofs.YtikjnbognjicdaaDoor.Enc
