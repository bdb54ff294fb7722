/-
  Contracts of the laws' list and works (the anchor): fields of values that were put, and of three values. Memory that was there stays. Conditions: the table utf.shapes lies as the program's text lays it; values of bulk at most 2^28.
-/
import Derived.Test.YtobnbgbijdhjjaaDoorFne
namespace Go.Proofs.YtobnbgbijdhjjaaDoor.Fl
set_option maxRecDepth 100000
open Go.RowKit Go.Proofs.YtobnbgbijdhjjaaDoor.Utf Go.Proofs.YtobnbgbijdhjjaaDoor.Val V

theorem new_put {code : Nat} {us : List V} {name : ByteArray} (hok : okB (.mk 25 0 ⟨#[]⟩ (putL code us)) = true) : newR (.mk 25 0 ⟨#[]⟩ (putL code us)) code name = some us := by
  rw [newR_pair hok rfl, if_pos ⟨by unfold calledB; rw [same_self]; rfl, rfl⟩]
  rfl
theorem new_put_no {code : Nat} {us : List V} {name : ByteArray} (hok : okB (.mk 25 0 ⟨#[]⟩ (putL code us)) = false) (code' : Nat) : newR (.mk 25 0 ⟨#[]⟩ (putL code us)) code' name = none := if_neg fun h => by rw [hok] at h; exact Bool.false_ne_true h.1
theorem new_any25 (ks : List V) (A : Option Addr) (l c code : Nat) (name : ByteArray) (w : World) (hN : bulkL ks ≤ 536870912) (hK : Kd w ks A l c) (hTab : Tab w) :
    Calls Tryd.prog 12 #[.agg #[.int .u8 25, .int .u64 0, .string ⟨#[]⟩, .slice A l c], .int .u64 (code : Int), .string name] w (GivesNew (newR (.mk 25 0 ⟨#[]⟩ ks) code name) w) := new_any 25 0 ⟨#[]⟩ ks A l c code name w hN (by simp [ByteArray.size]) (by omega) hK hTab
theorem bulk_put (code : Nat) (ls : List V) : bulkL (putL code (trim ls)) ≤ bulkL ls + 2 := by
  have := bulk_take ls (cutN ls ls.length)
  unfold putL trim
  simp only [bulkL, bulk, ByteArray.size]
  simp
  omega

/-- What the laws' list answers. -/
def GivesLs (o : Option (List V)) (w : World) (e : Ending) (w' : World) : Prop :=
  match o with
  | none => e = .returned (.pointer none) ∧ Below w.heap.size w w'
  | some ls => ∃ g A l c, e = .returned (.pointer (some ⟨g, 0, none⟩)) ∧ w.heap.size ≤ g ∧ Fld 75 (fun i => g ≤ i) w' g ls A l c false ∧ g + 1 = w'.heap.size ∧ Below w.heap.size w w'
theorem list_any (code : Nat) (ls : List V) (A : Option Addr) (l c : Nat) (w : World) (hN : bulkL ls ≤ 268435456) (hcode : code < 18446744073709551616) (hK : Kd w ls A l c) (hTab : Tab w) :
    Calls Tryd.prog 33 #[.int .u64 (code : Int), .slice A l c] w (GivesLs (newR (.mk 25 0 ⟨#[]⟩ (putL code (trim ls))) code ⟨#[]⟩) w) := by
  have HP := Lib.hid (put_any code ls A l c w (by omega) hcode hK)
  obtain ⟨o, ho⟩ : ∃ o, newR (.mk 25 0 ⟨#[]⟩ (putL code (trim ls))) code ⟨#[]⟩ = o := ⟨_, rfl⟩
  rw [ho]
  have HO := Lib.hid ho
  have HT := Lib.hid hTab
  have HN := Lib.hid hN
  clear hN hcode hK hTab ho
  go_enter Tryd.func33, Tryd.ntmps33
  go_wp2_with fail
  refine HP.out.mono ?_
  rintro e w1 ⟨A1, l1, c1, rfl, hN1, hb1⟩
  have hq := new_any25 (putL code (trim ls)) A1 l1 c1 code ⟨#[]⟩ w1 (by have := HN.out; have := bulk_put code ls; omega) hN1.kd (HT.out.call hb1)
  have HB1 := Lib.hid hb1
  rw [HO.out] at hq
  have HQ := Lib.hid hq
  clear hq hN1 hb1
  go_wp2_with fail
  refine HQ.out.mono ?_
  cases o with
  | none =>
    rintro e w2 ⟨rfl, hb2⟩
    have HB2 := Lib.hid (below_next HB1.out hb2)
    clear hb2
    go_wp2
    go_ret
    exact ⟨rfl, HB2.out⟩
  | some us =>
    rintro e w2 ⟨g, A2, l2, c2, rfl, hg, hF, hs, hb2⟩
    have HB2 := Lib.hid (below_next HB1.out hb2)
    have HF := Lib.hid hF
    have HS := Lib.hid hs
    have HG := Lib.hid hg
    clear hb2 hF hs hg
    go_wp2
    go_ret
    exact ⟨g, A2, l2, c2, rfl, Nat.le_trans HB1.out.size HG.out, HF.out, HS.out, HB2.out⟩

/-- What is kept of fields that the call itself made. -/
structure WS (w wi : World) (g : Nat) (ls : List V) (A : Option Addr) (l c : Nat) (sp : Bool) : Prop where
  fld : Fld 75 (fun i => g ≤ i) wi g ls A l c sp
  low : Below w.heap.size w wi
  ge : w.heap.size ≤ g
section
variable {w wi w' : World} {g : Nat} {ls : List V} {A : Option Addr} {l c : Nat} {sp sp' : Bool}
theorem WS.call (h : WS w wi g ls A l c sp) (hb : Below wi.heap.size wi w') : WS w w' g ls A l c sp := ⟨h.fld.call hb, below_next h.low hb, h.ge⟩
theorem WS.next (h : WS w wi g ls A l c sp) (ho : Off (fun i => i = g) wi w') (hF : Fld 75 (fun i => g ≤ i) w' g ls A l c sp') : WS w w' g ls A l c sp' :=
  ⟨hF, h.low.trans (ho.below h.low.size fun i hi e => by have := h.ge; omega), h.ge⟩
end
theorem Strs.at_ {B : Nat} {w : World} {A : Option Addr} {n c : Nat} {ts : List ByteArray} (h : Strs B w A n c ts) {j : Nat} (hj : j < n) : ∃ g t, A = some ⟨g, 0, none⟩ ∧ B ≤ g ∧ g < w.heap.size ∧ ts[j]? = some t ∧ w.cell? ⟨g, j, none⟩ = some (.string t) := by
  have hlen := h.len
  rcases World.ownsRow.form h (by omega) with ⟨g, cap, e⟩
  obtain ⟨e, hb, hb2⟩ := e
  injection e with e1 e2 e3
  subst e1
  have hc := World.ownsRow.cells h (g := g) rfl j (.string (ts[j]'(by omega))) (by simp [List.getElem?_eq_getElem (show j < ts.length by omega)])
  rw [show (⟨g, 0, none⟩ : Addr).add j = ⟨g, j, none⟩ from by cases j <;> simp [Addr.add]] at hc
  exact ⟨g, ts[j]'(by omega), rfl, hb, hb2, List.getElem?_eq_getElem (by omega), hc⟩

/-- The three values of the anchor. -/
def wl : List V := [.mk 1 0 ⟨#[]⟩ [], .mk 5 7 ⟨#[]⟩ [], .mk 21 0 ⟨#[97]⟩ []]
theorem ok_wl : okB (.mk 25 0 ⟨#[]⟩ (putL 16 wl)) = true := by
  simp [okB, putL, wl, items, itemsL, depth, depthL, mayB, mayL, aloneOk, emp0, kidsOk, numB, textB, asc, nb, nameB, kind]
theorem trim_wl : trim wl = wl := by decide
theorem kids_three {w : World} {k0 n0 k1 n1 k2 n2 : Nat} {t0 t1 t2 : ByteArray} (h0 : k0 < 256 ∧ n0 < 18446744073709551616) (h1 : k1 < 256 ∧ n1 < 18446744073709551616) (h2 : k2 < 256 ∧ n2 < 18446744073709551616) :
    Kd (w.alloc (.cells #[.int .u8 k0, .int .u64 n0, .string t0, .slice none 0 0, .int .u8 k1, .int .u64 n1, .string t1, .slice none 0 0, .int .u8 k2, .int .u64 n2, .string t2, .slice none 0 0] 25)) [.mk k0 n0 t0 [], .mk k1 n1 t1 [], .mk k2 n2 t2 []] (some ⟨w.heap.size, 0, none⟩) 3 3 := by
  refine ⟨rfl, Nat.le_refl _, fun _ => ⟨w.heap.size, 0, rfl, by simp, fun h => (by cases h), ?_⟩⟩
  exact ⟨repV_iff.2 ⟨none, 0, 0, by simp, by simp, by simp, by simp, h0.1, h0.2, Kd.none_ _ _ _⟩, repV_iff.2 ⟨none, 0, 0, by simp, by simp, by simp, by simp, h1.1, h1.2, Kd.none_ _ _ _⟩, repV_iff.2 ⟨none, 0, 0, by simp, by simp, by simp, by simp, h2.1, h2.2, Kd.none_ _ _ _⟩, trivial⟩
theorem wl_kd (w : World) (g : Nat) (hg : w.heap.size = g) : Kd (w.alloc (.cells #[.int .u8 1, .int .u64 0, .string ⟨#[]⟩, .slice none 0 0, .int .u8 5, .int .u64 7, .string ⟨#[]⟩, .slice none 0 0, .int .u8 21, .int .u64 0, .string ⟨#[97]⟩, .slice none 0 0] 25)) wl (some ⟨g, 0, none⟩) 3 3 := by
  subst hg
  exact kids_three (k0 := 1) (n0 := 0) (k1 := 5) (n1 := 7) (k2 := 21) (n2 := 0) (by decide) (by decide) (by decide)
section
variable {X : Nat → Prop} {w : World} {g : Nat} {A : Option Addr} {l c : Nat} {sp : Bool}
theorem w_list (hK : Kd w wl A l c) (hTab : Tab w) : Calls Tryd.prog 33 #[.int .u64 16, .slice A l c] w (GivesLs (some wl) w) := by
  have h := list_any 16 wl A l c w (by decide) (by omega) hK hTab
  rw [trim_wl, new_put ok_wl] at h
  exact h
theorem w_num5 (w : World) : Calls Tryd.prog 31 #[.int .u8 5, .int .u64 7] w fun e w' => e = .returned (.agg #[.int .u8 5, .int .u64 7, .string ⟨#[]⟩, .slice none 0 0]) ∧ Below w.heap.size w w' := Go.Proofs.YtobnbgbijdhjjaaDoor.Val.number_any 5 7 w
theorem w_has0 (h : Fld 75 X w g wl A l c sp) : Calls Tryd.prog 34 #[.pointer (some ⟨g, 0, none⟩), .int .i64 0] w (GivesB false w) := has_any h 0
theorem w_has2 (h : Fld 75 X w g wl A l c sp) : Calls Tryd.prog 34 #[.pointer (some ⟨g, 0, none⟩), .int .i64 2] w (GivesB true w) := has_any h 2
theorem w_num1 (h : Fld 75 X w g wl A l c false) : Calls Tryd.prog 35 #[.pointer (some ⟨g, 0, none⟩), .int .i64 1, .int .u8 5, .bool true, .int .u64 0] w (GivesF 75 X g wl A l c (fun r _ => r = .int .u64 7) false w) := number_any h 1 5 true 0 7 rfl
theorem w_num0 (h : Fld 75 X w g wl A l c false) : Calls Tryd.prog 35 #[.pointer (some ⟨g, 0, none⟩), .int .i64 0, .int .u8 5, .bool false, .int .u64 5] w (GivesF 75 X g wl A l c (fun r _ => r = .int .u64 5) false w) := number_any h 0 5 false 5 5 rfl
theorem w_num0t (h : Fld 75 X w g wl A l c false) : Calls Tryd.prog 35 #[.pointer (some ⟨g, 0, none⟩), .int .i64 0, .int .u8 5, .bool true, .int .u64 5] w (GivesF 75 X g wl A l c (fun r _ => r = .int .u64 5) true w) := number_any h 0 5 true 5 5 rfl
theorem w_syms (h : Fld 75 X w g wl A l c false) : Calls Tryd.prog 36 #[.pointer (some ⟨g, 0, none⟩), .int .i64 2] w (GivesF 75 X g wl A l c (QL w.heap.size [⟨#[97]⟩]) false w) := symbols_any h 2 (by decide) rfl
theorem w_done3 (h : Fld 75 X w g wl A l c false) : Calls Tryd.prog 17 #[.pointer (some ⟨g, 0, none⟩), .int .i64 3] w fun e w' => e = .returned (.int .i64 0) ∧ w = w' := done_any h 3
theorem w_done2 (h : Fld 75 X w g wl A l c false) : Calls Tryd.prog 17 #[.pointer (some ⟨g, 0, none⟩), .int .i64 2] w fun e w' => e = .returned (.int .i64 6) ∧ w = w' := done_any h 2
theorem w_done3t (h : Fld 75 X w g wl A l c true) : Calls Tryd.prog 17 #[.pointer (some ⟨g, 0, none⟩), .int .i64 3] w fun e w' => e = .returned (.int .i64 6) ∧ w = w' := done_any h 3
end

set_option maxHeartbeats 1000000 in
theorem works7_any (w : World) (hTab : Tab w) : Calls Tryd.prog 10 #[] w (GivesB true w) := by
  have HT := Lib.hid hTab
  clear hTab
  go_enter Tryd.func10, Tryd.ntmps10
  go_wp2_with fail
  refine (nul_new _).mono ?_
  rintro e w1 ⟨rfl, hb1⟩
  have HB1 := Lib.hid hb1
  clear hb1
  go_wp2_with fail
  refine (w_num5 _).mono ?_
  rintro e w2 ⟨rfl, hb2⟩
  have HB2 := Lib.hid (below_next HB1.out hb2)
  clear hb2 HB1
  go_wp2_with fail
  refine (text_a _).mono ?_
  rintro e w3 ⟨rfl, hb3⟩
  have HB3 := Lib.hid (below_next HB2.out hb3)
  clear hb3 HB2
  go_wp2_with fail
  have hb4 : Below w3.heap.size w3 (w3.alloc (.cells #[.int .u8 1, .int .u64 0, .string ⟨#[]⟩, .slice none 0 0, .int .u8 5, .int .u64 7, .string ⟨#[]⟩, .slice none 0 0, .int .u8 21, .int .u64 0, .string ⟨#[97]⟩, .slice none 0 0] 25)) := (Below.refl _ _).alloc (Nat.le_refl _) _
  refine (w_list (wl_kd w3 _ rfl) ((HT.out.call HB3.out).call hb4)).mono ?_
  rintro e w5 ⟨g, A, l, c, rfl, hg, hF, _, hb5⟩
  have H5 := Lib.hid (WS.mk (w := w) hF (below_next (below_next HB3.out hb4) hb5) (Nat.le_trans (Nat.le_trans HB3.out.size hb4.size) hg))
  clear hb5 hb4 hF hg HB3
  go_wp2_with fail
  refine (w_has0 H5.out.fld).mono ?_
  rintro e w6 ⟨rfl, hb6⟩
  have H6 := Lib.hid (H5.out.call hb6)
  clear hb6 H5
  go_wp2_with fail
  refine (w_has2 H6.out.fld).mono ?_
  rintro e w7 ⟨rfl, hb7⟩
  have H7 := Lib.hid (H6.out.call hb7)
  clear hb7 H6
  go_wp2_with fail
  refine (w_num1 H7.out.fld).mono ?_
  rintro e w8 ⟨r8, rfl, rfl, ho8, hF8⟩
  have H8 := Lib.hid (H7.out.next ho8 hF8)
  clear ho8 hF8 H7
  go_wp2_with fail
  refine (w_num0 H8.out.fld).mono ?_
  rintro e w9 ⟨r9, rfl, rfl, ho9, hF9⟩
  have H9 := Lib.hid (H8.out.next ho9 hF9)
  clear ho9 hF9 H8
  go_wp2_with fail
  refine (w_syms H9.out.fld).mono ?_
  rintro e w10 ⟨r10, rfl, ⟨As, ns, cs, rfl, hSt⟩, ho10, hF10⟩
  have H10 := Lib.hid (H9.out.next ho10 hF10)
  have hns : ns = 1 := hSt.len
  subst hns
  obtain ⟨gs, ts, rfl, hgs, hgs2, hts, hcs⟩ := hSt.at_ (j := 0) (by omega)
  simp only [List.getElem?_cons_zero, Option.some.injEq] at hts
  subst hts
  clear ho10 hF10 H9 hSt
  go_wp2_with fail
  refine (w_done3 H10.out.fld).mono ?_
  rintro e w11 ⟨rfl, rfl⟩
  go_wp2_with fail
  refine (w_done2 H10.out.fld).mono ?_
  rintro e w12 ⟨rfl, rfl⟩
  go_wp2_with fail
  refine (w_num0t H10.out.fld).mono ?_
  rintro e w13 ⟨r13, rfl, rfl, ho13, hF13⟩
  have H13 := Lib.hid (H10.out.next ho13 hF13)
  clear ho13 hF13 H10 hcs
  go_wp2_with fail
  refine (w_done3t H13.out.fld).mono ?_
  rintro e w14 ⟨rfl, rfl⟩
  go_wp2_with fail
  go_ret
  exact ⟨rfl, H13.out.low⟩
end Go.Proofs.YtobnbgbijdhjjaaDoor.Fl
