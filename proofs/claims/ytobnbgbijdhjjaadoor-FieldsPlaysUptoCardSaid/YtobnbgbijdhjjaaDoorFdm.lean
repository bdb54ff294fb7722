/-
  Contract of the laws' meant: the document's answer to what is asked of fields. Memory that was there stays, but for the block of the fields. Conditions: values of bulk at most 2^30; at most 2^40 kinds; values that may be.
-/
import Derived.Test.YtobnbgbijdhjjaaDoorFdf
import Derived.Test.YtobnbgbijdhjjaaDoorFxs
namespace Go.Proofs.YtobnbgbijdhjjaaDoor.Fl
set_option maxRecDepth 100000
open Go.RowKit Go.Proofs.YtobnbgbijdhjjaaDoor.Utf Go.Proofs.YtobnbgbijdhjjaaDoor.Val V

theorem xhas_F {X : Nat → Prop} {w : World} {g : Nat} {ls : List V} {A : Option Addr} {l c : Nat} {sp : Bool} (h : Fld 48 X w g ls A l c sp) (i : Int) : Calls Tryd.prog 45 #[.pointer (some ⟨g, 0, none⟩), .int .i64 i] w (GivesF 48 X g ls A l c (fun r _ => r = .bool (ask ls i).isSome) sp w) :=
  (xhas_any h i).mono fun _ _ hh => ⟨_, hh.1, rfl, Off.of _ hh.2, h.call hh.2⟩
theorem xdone_F {X : Nat → Prop} {w : World} {g : Nat} {ls : List V} {A : Option Addr} {l c : Nat} {sp : Bool} (h : Fld 48 X w g ls A l c sp) (i : Int) : Calls Tryd.prog 18 #[.pointer (some ⟨g, 0, none⟩), .int .i64 i] w (GivesF 48 X g ls A l c (fun r _ => r = .int .i64 (doneN ls sp i)) sp w) :=
  (xdone_any h i).mono fun _ _ hh => ⟨_, hh.1, rfl, hh.2 ▸ Off.refl _ _, hh.2 ▸ h⟩

set_option maxHeartbeats 1000000 in
theorem meant_any {X : Nat → Prop} {w : World} {g : Nat} {ls : List V} {A : Option Addr} {l c : Nat} {sp sp' : Bool} (h : Fld 48 X w g ls A l c sp) (q : AQ) (KA : Option Addr) (kl kc : Nat) (hK : Kinds w KA kl q.L) (hN : bulkL ls ≤ 1073741824) (hmay : mayL ls = true) (td : TD) (hq : doesR ls q sp = (td, sp')) :
    Calls Tryd.prog 16 #[.pointer (some ⟨g, 0, none⟩), .agg #[.int .i64 q.what, .int .i64 q.i, .int .u8 (q.kind : Int), .bool q.must, .int .u64 (q.z : Int), .slice KA kl kc]] w (GivesF 48 X g ls A l c (RT w.heap.size td) sp' w) := by
  have hS := DS.new (fun i => i = g) w (.int .i64 q.what) (.int .i64 q.i) (.int .u8 (q.kind : Int)) (.bool q.must) (.int .u64 (q.z : Int)) (.slice KA kl kc) (fun i e => e ▸ h.lt)
  have hlt := h.lt
  have hB : Below w.heap.size w (((w.alloc (.cells #[.int .i64 q.what, .int .i64 q.i, .int .u8 (q.kind : Int), .bool q.must, .int .u64 (q.z : Int), .slice KA kl kc] 44)).alloc (.cells #[.int .u64 0, .string ⟨#[]⟩, .int .u8 0, .int .u64 0, .string ⟨#[]⟩, .slice none 0 0, .slice none 0 0, .bool false, .int .i64 0] 40)).alloc (.cells #[.int .u64 0, .string ⟨#[]⟩, .int .u8 0, .int .u64 0, .string ⟨#[]⟩, .slice none 0 0, .slice none 0 0, .bool false, .int .i64 0] 40)) := (two_boxes w _ _).alloc (by simp; omega) _
  have HF := Lib.hid (h.call hB)
  have HK := Lib.hid (hK.call hB)
  have H0 := Lib.hid h
  have HS := Lib.hid hS
  have HN := Lib.hid hN
  have HM := Lib.hid hmay
  have HQ := Lib.hid hq
  have HLW := Lib.hid hlt
  clear h hK hS hB hN hq hlt hmay
  obtain ⟨what, qi, kind, must, z, L⟩ := q
  simp only at HS HF HK HQ ⊢
  by_cases h0 : what = 0
  · subst h0
    have hdo : doesR ls ⟨0, qi, kind, must, z, L⟩ sp = (⟨0, ⟨#[]⟩, zeroV, [], (ask ls qi).isSome, 0⟩, sp) := by
      rfl
    have hee := HQ.out.symm.trans hdo
    injection hee with e1 e2
    have e3 := e2.symm
    subst e1; subst e3
    clear hdo HQ
    go_enter Tryd.func16, Tryd.ntmps16
    go_wp2_with fail
    refine (xhas_F HF.out qi).mono ?_
    rintro e w1 ⟨r, rfl, rfl, ho, hF1⟩
    have HF1 := Lib.hid hF1
    have H1 := Lib.hid (HS.out.next ho)
    clear ho hF1
    obtain ⟨a0, a1, a2, a3, a4, a5⟩ := H1.out.b3.all
    obtain ⟨b0, b1, b2, b3, b4, b5, b6, b7, b8, bf⟩ := H1.out.b4.all
    obtain ⟨c0, c1, c2, c3, c4, c5, c6, c7, c8, cf⟩ := H1.out.b5.all
    go_wp2
    refine bodyPost_ret (v := .agg #[.int .u64 0, .string ⟨#[]⟩, .int .u8 0, .int .u64 0, .string ⟨#[]⟩, .slice none 0 0, .slice none 0 0, .bool (ask ls qi).isSome, .int .i64 0]) (by simp [results, Tryd.results16, go_sem, b0, b1, b2, b3, b4, b5, b6, b7, b8]) rfl ?_
    refine DS.finF (td := ⟨0, ⟨#[]⟩, zeroV, [], (ask ls qi).isSome, 0⟩) (k := 0) (n := 0) (t := ⟨#[]⟩) (ks := []) H1.out H0.out HF1.out rfl (by omega) (by omega) (Kids.none_ _ _ _ none 0) (Strs.nil _ _) ?_
    (repeat refine Off.snoc ?_ (by simp))
    exact Off.refl _ _
  by_cases h1 : what = 1
  · subst h1
    obtain ⟨N, sq, hone⟩ : ∃ N sq, oneR ls qi kind must sp z V.num = (N, sq) := ⟨_, _, rfl⟩
    have hdo : doesR ls ⟨1, qi, kind, must, z, L⟩ sp = (⟨N, ⟨#[]⟩, zeroV, [], false, 0⟩, sq) := by
      show (({ td0 with n := (oneR ls qi kind must sp z V.num).1 } : TD), (oneR ls qi kind must sp z V.num).2) = _
      rw [hone]
      rfl
    have hee := HQ.out.symm.trans hdo
    injection hee with e1 e2
    subst e1; subst e2
    have HONE := Lib.hid hone
    clear hdo hone HQ
    go_enter Tryd.func16, Tryd.ntmps16
    go_wp2_with fail
    refine (xnumber_any HF.out qi kind must z N HONE.out).mono ?_
    rintro e w1 ⟨r, rfl, rfl, ho, hF1⟩
    have HF1 := Lib.hid hF1
    have H1 := Lib.hid (HS.out.next ho)
    clear ho hF1
    obtain ⟨a0, a1, a2, a3, a4, a5⟩ := H1.out.b3.all
    obtain ⟨b0, b1, b2, b3, b4, b5, b6, b7, b8, bf⟩ := H1.out.b4.all
    obtain ⟨c0, c1, c2, c3, c4, c5, c6, c7, c8, cf⟩ := H1.out.b5.all
    go_wp2
    refine bodyPost_ret (v := .agg #[.int .u64 (N : Int), .string ⟨#[]⟩, .int .u8 0, .int .u64 0, .string ⟨#[]⟩, .slice none 0 0, .slice none 0 0, .bool false, .int .i64 0]) (by simp [results, Tryd.results16, go_sem, b0, b1, b2, b3, b4, b5, b6, b7, b8]) rfl ?_
    refine DS.finF (td := ⟨N, ⟨#[]⟩, zeroV, [], false, 0⟩) (k := 0) (n := 0) (t := ⟨#[]⟩) (ks := []) H1.out H0.out HF1.out rfl (by omega) (by omega) (Kids.none_ _ _ _ none 0) (Strs.nil _ _) ?_
    (repeat refine Off.snoc ?_ (by simp))
    exact Off.refl _ _
  by_cases h2 : what = 2
  · subst h2
    obtain ⟨N, sq, hone⟩ : ∃ N sq, oneR ls qi 2 must sp 0 V.num = (N, sq) := ⟨_, _, rfl⟩
    have hdo : doesR ls ⟨2, qi, kind, must, z, L⟩ sp = (⟨0, ⟨#[]⟩, zeroV, [], decide (N = 1), 0⟩, sq) := by
      show (({ td0 with is := decide ((oneR ls qi 2 must sp 0 V.num).1 = 1) } : TD), (oneR ls qi 2 must sp 0 V.num).2) = _
      rw [hone]
      rfl
    have hee := HQ.out.symm.trans hdo
    injection hee with e1 e2
    subst e1; subst e2
    have HONE := Lib.hid hone
    clear hdo hone HQ
    go_enter Tryd.func16, Tryd.ntmps16
    go_wp2_with fail
    refine (xfbool_any HF.out qi must N HONE.out).mono ?_
    rintro e w1 ⟨r, rfl, rfl, ho, hF1⟩
    have HF1 := Lib.hid hF1
    have H1 := Lib.hid (HS.out.next ho)
    clear ho hF1
    obtain ⟨a0, a1, a2, a3, a4, a5⟩ := H1.out.b3.all
    obtain ⟨b0, b1, b2, b3, b4, b5, b6, b7, b8, bf⟩ := H1.out.b4.all
    obtain ⟨c0, c1, c2, c3, c4, c5, c6, c7, c8, cf⟩ := H1.out.b5.all
    go_wp2
    refine bodyPost_ret (v := .agg #[.int .u64 0, .string ⟨#[]⟩, .int .u8 0, .int .u64 0, .string ⟨#[]⟩, .slice none 0 0, .slice none 0 0, .bool (decide (N = 1)), .int .i64 0]) (by simp [results, Tryd.results16, go_sem, b0, b1, b2, b3, b4, b5, b6, b7, b8]) rfl ?_
    refine DS.finF (td := ⟨0, ⟨#[]⟩, zeroV, [], decide (N = 1), 0⟩) (k := 0) (n := 0) (t := ⟨#[]⟩) (ks := []) H1.out H0.out HF1.out rfl (by omega) (by omega) (Kids.none_ _ _ _ none 0) (Strs.nil _ _) ?_
    (repeat refine Off.snoc ?_ (by simp))
    exact Off.refl _ _
  by_cases h3 : what = 3
  · subst h3
    obtain ⟨N, sq, hone⟩ : ∃ N sq, oneR ls qi kind must sp ⟨#[]⟩ V.text = (N, sq) := ⟨_, _, rfl⟩
    have hdo : doesR ls ⟨3, qi, kind, must, z, L⟩ sp = (⟨0, N, zeroV, [], false, 0⟩, sq) := by
      show (({ td0 with s := (oneR ls qi kind must sp ⟨#[]⟩ V.text).1 } : TD), (oneR ls qi kind must sp ⟨#[]⟩ V.text).2) = _
      rw [hone]
      rfl
    have hee := HQ.out.symm.trans hdo
    injection hee with e1 e2
    subst e1; subst e2
    have HONE := Lib.hid hone
    clear hdo hone HQ
    go_enter Tryd.func16, Tryd.ntmps16
    go_wp2_with fail
    refine (xftext_any HF.out qi kind must N HONE.out).mono ?_
    rintro e w1 ⟨r, rfl, rfl, ho, hF1⟩
    have HF1 := Lib.hid hF1
    have H1 := Lib.hid (HS.out.next ho)
    clear ho hF1
    obtain ⟨a0, a1, a2, a3, a4, a5⟩ := H1.out.b3.all
    obtain ⟨b0, b1, b2, b3, b4, b5, b6, b7, b8, bf⟩ := H1.out.b4.all
    obtain ⟨c0, c1, c2, c3, c4, c5, c6, c7, c8, cf⟩ := H1.out.b5.all
    go_wp2
    refine bodyPost_ret (v := .agg #[.int .u64 0, .string N, .int .u8 0, .int .u64 0, .string ⟨#[]⟩, .slice none 0 0, .slice none 0 0, .bool false, .int .i64 0]) (by simp [results, Tryd.results16, go_sem, b0, b1, b2, b3, b4, b5, b6, b7, b8]) rfl ?_
    refine DS.finF (td := ⟨0, N, zeroV, [], false, 0⟩) (k := 0) (n := 0) (t := ⟨#[]⟩) (ks := []) H1.out H0.out HF1.out rfl (by omega) (by omega) (Kids.none_ _ _ _ none 0) (Strs.nil _ _) ?_
    (repeat refine Off.snoc ?_ (by simp))
    exact Off.refl _ _
  by_cases h4 : what = 4
  · subst h4
    obtain ⟨N, sq, hone⟩ : ∃ N sq, valR ls qi L sp = (N, sq) := ⟨_, _, rfl⟩
    have hdo : doesR ls ⟨4, qi, kind, must, z, L⟩ sp = (⟨0, ⟨#[]⟩, N, [], false, 0⟩, sq) := by
      show (({ td0 with v := (valR ls qi L sp).1 } : TD), (valR ls qi L sp).2) = _
      rw [hone]
      rfl
    have hee := HQ.out.symm.trans hdo
    injection hee with e1 e2
    subst e1; subst e2
    have HONE := Lib.hid hone
    clear hdo hone HQ
    obtain ⟨k, n, t, ks⟩ := N
    have HLIM := Lib.hid (valR_lim HF.out.fkd HONE.out)
    go_enter Tryd.func16, Tryd.ntmps16
    go_wp2_with fail
    refine (xfvalue_any HF.out HK.out qi HN.out HONE.out).mono ?_
    rintro e w1 ⟨r, rfl, ⟨A2, l2, m2, rfl, hN2⟩, ho, hF1⟩
    have HN2 := Lib.hid (hN2.less HS.out.size)
    clear hN2
    have HF1 := Lib.hid hF1
    have H1 := Lib.hid (HS.out.next ho)
    clear ho hF1
    obtain ⟨a0, a1, a2, a3, a4, a5⟩ := H1.out.b3.all
    obtain ⟨b0, b1, b2, b3, b4, b5, b6, b7, b8, bf⟩ := H1.out.b4.all
    obtain ⟨c0, c1, c2, c3, c4, c5, c6, c7, c8, cf⟩ := H1.out.b5.all
    go_wp2
    refine bodyPost_ret (v := .agg #[.int .u64 0, .string ⟨#[]⟩, .int .u8 (k : Int), .int .u64 (n : Int), .string t, .slice A2 l2 m2, .slice none 0 0, .bool false, .int .i64 0]) (by simp [results, Tryd.results16, go_sem, b0, b1, b2, b3, b4, b5, b6, b7, b8]) rfl ?_
    refine DS.finF (td := ⟨0, ⟨#[]⟩, .mk k n t ks, [], false, 0⟩) (k := k) (n := n) (t := t) (ks := ks) H1.out H0.out HF1.out rfl HLIM.out.1 HLIM.out.2 HN2.out (Strs.nil _ _) ?_
    (repeat refine Off.snoc ?_ (by simp))
    exact Off.refl _ _
  by_cases h5 : what = 5
  · subst h5
    obtain ⟨N, sq, hone⟩ : ∃ N sq, symR ls qi sp = (N, sq) := ⟨_, _, rfl⟩
    have hdo : doesR ls ⟨5, qi, kind, must, z, L⟩ sp = (⟨0, ⟨#[]⟩, zeroV, N, false, 0⟩, sq) := by
      show (({ td0 with ts := (symR ls qi sp).1 } : TD), (symR ls qi sp).2) = _
      rw [hone]
      rfl
    have hee := HQ.out.symm.trans hdo
    injection hee with e1 e2
    subst e1; subst e2
    have HONE := Lib.hid hone
    clear hdo hone HQ
    go_enter Tryd.func16, Tryd.ntmps16
    go_wp2_with fail
    refine (xfsym_any HF.out qi HN.out HM.out HONE.out).mono ?_
    rintro e w1 ⟨r, rfl, ⟨A2, l2, m2, rfl, hN2⟩, ho, hF1⟩
    have HN2 := Lib.hid (hN2.mono HS.out.size)
    clear hN2
    have HF1 := Lib.hid hF1
    have H1 := Lib.hid (HS.out.next ho)
    clear ho hF1
    obtain ⟨a0, a1, a2, a3, a4, a5⟩ := H1.out.b3.all
    obtain ⟨b0, b1, b2, b3, b4, b5, b6, b7, b8, bf⟩ := H1.out.b4.all
    obtain ⟨c0, c1, c2, c3, c4, c5, c6, c7, c8, cf⟩ := H1.out.b5.all
    go_wp2
    refine bodyPost_ret (v := .agg #[.int .u64 0, .string ⟨#[]⟩, .int .u8 0, .int .u64 0, .string ⟨#[]⟩, .slice none 0 0, .slice A2 l2 m2, .bool false, .int .i64 0]) (by simp [results, Tryd.results16, go_sem, b0, b1, b2, b3, b4, b5, b6, b7, b8]) rfl ?_
    refine DS.finF (td := ⟨0, ⟨#[]⟩, zeroV, N, false, 0⟩) (k := 0) (n := 0) (t := ⟨#[]⟩) (ks := []) H1.out H0.out HF1.out rfl (by omega) (by omega) (Kids.none_ _ _ _ none 0) HN2.out ?_
    (repeat refine Off.snoc ?_ (by simp))
    exact Off.refl _ _
  by_cases h6 : what = 6
  · subst h6
    have hdo : doesR ls ⟨6, qi, kind, must, z, L⟩ sp = (⟨0, ⟨#[]⟩, zeroV, [], false, 0⟩, true) := by
      rfl
    have hee := HQ.out.symm.trans hdo
    injection hee with e1 e2
    have e3 := e2.symm
    subst e1; subst e3
    clear hdo HQ
    obtain ⟨W0, hW0⟩ : ∃ W0, (((w.alloc (.cells #[.int .i64 6, .int .i64 qi, .int .u8 (kind : Int), .bool must, .int .u64 (z : Int), .slice KA kl kc] 44)).alloc (.cells #[.int .u64 0, .string ⟨#[]⟩, .int .u8 0, .int .u64 0, .string ⟨#[]⟩, .slice none 0 0, .slice none 0 0, .bool false, .int .i64 0] 40)).alloc (.cells #[.int .u64 0, .string ⟨#[]⟩, .int .u8 0, .int .u64 0, .string ⟨#[]⟩, .slice none 0 0, .slice none 0 0, .bool false, .int .i64 0] 40)) = W0 := ⟨_, rfl⟩
    rw [hW0] at HS HF
    obtain ⟨a0, a1, a2, a3, a4, a5⟩ := HS.out.b3.all
    obtain ⟨f0, f1, ff⟩ := HF.out.cells
    have HF1 := Lib.hid HF.out.spoil
    have H1 := Lib.hid (HS.out.next (Off.set W0 1 (.bool true) rfl))
    obtain ⟨b0, b1, b2, b3, b4, b5, b6, b7, b8, bf⟩ := H1.out.b4.all
    obtain ⟨c0, c1, c2, c3, c4, c5, c6, c7, c8, cf⟩ := H1.out.b5.all
    go_enter Tryd.func16, Tryd.ntmps16
    go_wp2
    refine bodyPost_ret (v := .agg #[.int .u64 0, .string ⟨#[]⟩, .int .u8 0, .int .u64 0, .string ⟨#[]⟩, .slice none 0 0, .slice none 0 0, .bool false, .int .i64 0]) (by simp [results, Tryd.results16, go_sem, b0, b1, b2, b3, b4, b5, b6, b7, b8]) rfl ?_
    refine DS.finF (td := ⟨0, ⟨#[]⟩, zeroV, [], false, 0⟩) (k := 0) (n := 0) (t := ⟨#[]⟩) (ks := []) H1.out H0.out HF1.out rfl (by omega) (by omega) (Kids.none_ _ _ _ none 0) (Strs.nil _ _) ?_
    (repeat refine Off.snoc ?_ (by simp))
    exact Off.refl _ _
  by_cases h7 : what = 7
  · subst h7
    have hdo : doesR ls ⟨7, qi, kind, must, z, L⟩ sp = (⟨0, ⟨#[]⟩, zeroV, [], false, doneN ls sp qi⟩, sp) := by
      rfl
    have hee := HQ.out.symm.trans hdo
    injection hee with e1 e2
    have e3 := e2.symm
    subst e1; subst e3
    clear hdo HQ
    go_enter Tryd.func16, Tryd.ntmps16
    go_wp2_with fail
    refine (xdone_F HF.out qi).mono ?_
    rintro e w1 ⟨r, rfl, rfl, ho, hF1⟩
    have HF1 := Lib.hid hF1
    have H1 := Lib.hid (HS.out.next ho)
    clear ho hF1
    obtain ⟨a0, a1, a2, a3, a4, a5⟩ := H1.out.b3.all
    obtain ⟨b0, b1, b2, b3, b4, b5, b6, b7, b8, bf⟩ := H1.out.b4.all
    obtain ⟨c0, c1, c2, c3, c4, c5, c6, c7, c8, cf⟩ := H1.out.b5.all
    go_wp2
    refine bodyPost_ret (v := .agg #[.int .u64 0, .string ⟨#[]⟩, .int .u8 0, .int .u64 0, .string ⟨#[]⟩, .slice none 0 0, .slice none 0 0, .bool false, .int .i64 (doneN ls sp qi)]) (by simp [results, Tryd.results16, go_sem, b0, b1, b2, b3, b4, b5, b6, b7, b8]) rfl ?_
    refine DS.finF (td := ⟨0, ⟨#[]⟩, zeroV, [], false, doneN ls sp qi⟩) (k := 0) (n := 0) (t := ⟨#[]⟩) (ks := []) H1.out H0.out HF1.out rfl (by omega) (by omega) (Kids.none_ _ _ _ none 0) (Strs.nil _ _) ?_
    (repeat refine Off.snoc ?_ (by simp))
    exact Off.refl _ _
  have e0 : (what == 0) = false := by simp [h0]
  have e1 : (what == 1) = false := by simp [h1]
  have e2 : (what == 2) = false := by simp [h2]
  have e3 : (what == 3) = false := by simp [h3]
  have e4 : (what == 4) = false := by simp [h4]
  have e5 : (what == 5) = false := by simp [h5]
  have e6 : (what == 6) = false := by simp [h6]
  have e7 : (what == 7) = false := by simp [h7]
  have hdo : doesR ls ⟨what, qi, kind, must, z, L⟩ sp = (td0, sp) := by unfold doesR; rw [if_neg h0, if_neg h1, if_neg h2, if_neg h3, if_neg h4, if_neg h5, if_neg h6, if_neg h7]
  have hee := HQ.out.symm.trans hdo
  injection hee with q1 q2
  subst q1; subst q2
  clear hdo h0 h1 h2 h3 h4 h5 h6 h7 HQ
  obtain ⟨b0, b1, b2, b3, b4, b5, b6, b7, b8, bf⟩ := HS.out.b4.all
  obtain ⟨c0, c1, c2, c3, c4, c5, c6, c7, c8, cf⟩ := HS.out.b5.all
  go_enter Tryd.func16, Tryd.ntmps16
  go_wp2
  refine bodyPost_ret (v := .agg #[.int .u64 0, .string ⟨#[]⟩, .int .u8 0, .int .u64 0, .string ⟨#[]⟩, .slice none 0 0, .slice none 0 0, .bool false, .int .i64 0]) (by simp [results, Tryd.results16, go_sem, b0, b1, b2, b3, b4, b5, b6, b7, b8]) rfl ?_
  refine DS.finF (td := td0) (k := 0) (n := 0) (t := ⟨#[]⟩) (ks := []) HS.out H0.out HF.out rfl (by omega) (by omega) (Kids.none_ _ _ _ none 0) (Strs.nil _ _) ?_
  (repeat refine Off.snoc ?_ (by simp))
  exact Off.refl _ _
end Go.Proofs.YtobnbgbijdhjjaaDoor.Fl
