/-
  Contracts of the document's fields' Bool and Symbols. Memory that was there stays, but for the block of the fields. Conditions: values of bulk at most 2^30 that may be.
-/
import Derived.Test.YtobnbgbijdhjjaaDoorFxv
import Derived.LoopN
namespace Go.Proofs.YtobnbgbijdhjjaaDoor.Fl
set_option maxRecDepth 100000
open Go.RowKit Go.Proofs.YtobnbgbijdhjjaaDoor.Utf Go.Proofs.YtobnbgbijdhjjaaDoor.Val V

theorem xnumber2_any {X : Nat → Prop} {w : World} {g : Nat} {ls : List V} {A : Option Addr} {l c : Nat} {sp sp' : Bool} (h : Fld 48 X w g ls A l c sp) (i : Int) (must : Bool) (N : Nat) (hq : oneR ls i 2 must sp 0 V.num = (N, sp')) :
    Calls Tryd.prog 46 #[.pointer (some ⟨g, 0, none⟩), .int .i64 i, .int .u8 2, .bool must, .int .u64 0] w (GivesF 48 X g ls A l c (fun r _ => r = .int .u64 (N : Int)) sp' w) := xnumber_any h i 2 must 0 N hq
theorem xfbool_any {X : Nat → Prop} {w : World} {g : Nat} {ls : List V} {A : Option Addr} {l c : Nat} {sp sp' : Bool} (h : Fld 48 X w g ls A l c sp) (i : Int) (must : Bool) (N : Nat) (hq : oneR ls i 2 must sp 0 V.num = (N, sp')) :
    Calls Tryd.prog 47 #[.pointer (some ⟨g, 0, none⟩), .int .i64 i, .bool must] w (GivesF 48 X g ls A l c (fun r _ => r = .bool (decide (N = 1))) sp' w) := by
  obtain ⟨d, hd⟩ : ∃ d, decide (N = 1) = d := ⟨_, rfl⟩
  have hd' : ((N : Int) == 1) = d := by rw [← hd]; by_cases h : N = 1 <;> simp [h] <;> omega
  have HH := Lib.hid (xnumber2_any h i must N hq)
  rw [hd]
  clear h hq hd
  go_enter Tryd.func47, Tryd.ntmps47
  go_wp2_with fail
  refine HH.out.mono ?_
  rintro e w1 hF
  obtain ⟨r, rfl, rfl, ho, hF⟩ := hF
  have HF := Lib.hid hF
  have HO := Lib.hid ho
  clear hF ho
  go_wp2
  go_ret
  exact ⟨_, rfl, rfl, HO.out, HF.out⟩
theorem may_nokids {k n : Nat} {t : ByteArray} {ks : List V} (h : mayB (.mk k n t ks) = true) (hk : k = 21) : ks = [] := by
  subst hk
  have ha : aloneOk 21 n t ks.length = true := by simp only [mayB, Bool.and_eq_true] at h; exact h.1.2
  simp only [aloneOk, show ¬ (21 = 1) by omega, if_false, show ¬ (2 ≤ 21 ∧ 21 ≤ 14) by omega, show (15 ≤ 21 ∧ 21 ≤ 21) by omega, and_self, if_true, Bool.and_eq_true, decide_eq_true_eq] at ha
  exact List.eq_nil_of_length_eq_zero ha.1.2
/-- What Value tells of symbols, and what Symbols makes of it. -/
theorem sym_val {ls : List V} {i : Int} {sp sp' : Bool} {ts : List ByteArray} (hm : mayL ls = true) (hq : symR ls i sp = (ts, sp')) :
    ∃ k n t ks sp1, valR ls i [21, 24] sp = (.mk k n t ks, sp1) ∧ ((k = 1 ∧ ks = [] ∧ ts = [] ∧ sp' = sp1) ∨ (k = 21 ∧ ks = [] ∧ ts = [t] ∧ sp' = sp1) ∨ (k = 24 ∧ ((allSym ks = true ∧ ts = texts ks ∧ sp' = sp1) ∨ (allSym ks = false ∧ ts = [] ∧ sp' = true)))) := by
  cases ha : ask ls i with
  | none =>
    rw [symR_none ha] at hq
    injection hq with e1 e2
    exact ⟨1, 0, ⟨#[]⟩, [], sp, valR_none ha, .inl ⟨rfl, rfl, e1.symm, e2.symm⟩⟩
  | some v =>
    obtain ⟨k, n, t, ks⟩ := v
    have hmv : mayB (.mk k n t ks) = true := by
      obtain ⟨j, _, _, hx, _⟩ := ask_some ha
      exact mayL_mem hm _ (List.mem_of_getElem? hx)
    by_cases h21 : k = 21
    · subst h21
      obtain rfl := may_nokids hmv rfl
      rw [symR_yes ha rfl] at hq
      injection hq with e1 e2
      exact ⟨21, n, t, [], sp, valR_yes ha rfl, .inr (.inl ⟨rfl, rfl, e1.symm, e2.symm⟩)⟩
    · by_cases h24 : k = 24
      · subst h24
        refine ⟨24, n, t, ks, sp, valR_yes ha rfl, .inr (.inr ⟨rfl, ?_⟩)⟩
        cases hs : allSym ks with
        | true =>
          rw [symR_yes ha (show allSym (symOf (.mk 24 n t ks)) = true from hs)] at hq
          injection hq with e1 e2
          exact .inl ⟨rfl, e1.symm, e2.symm⟩
        | false =>
          rw [symR_no ha (show allSym (symOf (.mk 24 n t ks)) = false from hs)] at hq
          injection hq with e1 e2
          exact .inr ⟨rfl, e1.symm, e2.symm⟩
      · have hf : fitsB [21, 24] (V.mk k n t ks).kind = false := by
          show (decide (([21, 24] : List Nat).length = 0) || decide (k ∈ [21, 24])) = false
          simp [h21, h24]
        have hs : allSym (symOf (.mk k n t ks)) = false := by
          unfold symOf
          rw [if_neg (show ¬ (V.mk k n t ks).kind = 24 from h24)]
          show (decide (k = 21) && true) = false
          rw [decide_eq_false h21]; rfl
        rw [symR_no ha hs] at hq
        injection hq with e1 e2
        exact ⟨1, 0, ⟨#[]⟩, [], true, valR_no ha hf, .inl ⟨rfl, rfl, e1.symm, e2.symm⟩⟩
theorem kinds_two (w : World) : Kinds (w.alloc (.cells #[.int .u8 21, .int .u8 24] 5)) (some ⟨w.heap.size, 0, none⟩) 2 [21, 24] := by
  refine ⟨⟨rfl, by simp, fun _ => ⟨w.heap.size, 0, rfl, by simp, fun k hk => ?_⟩⟩, by omega⟩
  have : k = 0 ∨ k = 1 := by simp at hk; omega
  rcases this with rfl | rfl <;> simp
/-- What is kept while symbols are told: the fields, the value's box and its kids. -/
structure SM (X : Nat → Prop) (w wi : World) (g : Nat) (ls : List V) (A : Option Addr) (l c : Nat) (sp : Bool) (g5 k n : Nat) (t : ByteArray) (ks : List V) (A2 : Option Addr) (l2 c2 : Nat) : Prop where
  sx : SX X w wi g ls A l c sp
  b5 : Box wi g5 (.int .u8 (k : Int)) (.int .u64 (n : Int)) (.string t) (.slice A2 l2 c2)
  kd : Kd wi ks A2 l2 c2
theorem SM.call {X : Nat → Prop} {w wi w' : World} {g : Nat} {ls : List V} {A : Option Addr} {l c : Nat} {sp : Bool} {g5 k n : Nat} {t : ByteArray} {ks : List V} {A2 : Option Addr} {l2 c2 : Nat} (h : SM X w wi g ls A l c sp g5 k n t ks A2 l2 c2) (hb : Below wi.heap.size wi w') : SM X w w' g ls A l c sp g5 k n t ks A2 l2 c2 := ⟨h.sx.call hb, h.b5.call hb, h.kd.call hb⟩

set_option maxHeartbeats 4000000 in
theorem xfsym_any {X : Nat → Prop} {w : World} {g : Nat} {ls : List V} {A : Option Addr} {l c : Nat} {sp sp' : Bool} {ts : List ByteArray} (h : Fld 48 X w g ls A l c sp) (i : Int) (hN : bulkL ls ≤ 1073741824) (hm : mayL ls = true) (hq : symR ls i sp = (ts, sp')) :
    Calls Tryd.prog 50 #[.pointer (some ⟨g, 0, none⟩), .int .i64 i] w (GivesF 48 X g ls A l c (QL w.heap.size ts) sp' w) := by
  have hb0 : Below w.heap.size w (w.alloc (.cells #[.int .u8 21, .int .u8 24] 5)) := (Below.refl _ _).alloc (Nat.le_refl _) _
  obtain ⟨k, n, t, ks, sp1, hv, hcase⟩ := sym_val hm hq
  have hbv : bulk (.mk k n t ks) ≤ 1073741825 := by
    have e : (valR ls i [21, 24] sp).1 = .mk k n t ks := by rw [hv]
    rw [← e]
    cases ha : ask ls i with
    | none => rw [valR_none ha]; show 1 ≤ _; omega
    | some u =>
      cases hf : fitsB [21, 24] u.kind with
      | true => rw [valR_yes ha hf]; have := ask_bulk ha; show bulk u ≤ _; omega
      | false => rw [valR_no ha hf]; show 1 ≤ _; omega
  have HV := Lib.hid (xfvalue_any (kc := 2) (h.call hb0) (kinds_two w) i hN hv)
  have HF := Lib.hid h
  have HB0 := Lib.hid (show SX X w (w.alloc (.cells #[.int .u8 21, .int .u8 24] 5)) g ls A l c sp from ⟨h.call hb0, Off.of _ hb0⟩)
  have HBV := Lib.hid hbv
  obtain ⟨i0, hi, hz0, hz1, hz2⟩ := info_parts infoS
  clear hb0 hN hm hq h hv hbv
  have hks0 : k ≠ 24 → ks = [] := by
    rcases hcase with ⟨_, h, _⟩ | ⟨_, h, _⟩ | ⟨h, _⟩
    · exact fun _ => h
    · exact fun _ => h
    · exact fun hh => absurd h hh
  have HKS0 := Lib.hid hks0
  clear hks0
  have HCASE := Lib.hid hcase
  go_enter Tryd.func50, Tryd.ntmps50
  go_wp2_with fail
  refine HV.out.mono ?_
  rintro e w1 ⟨r1, rfl, ⟨A2, l2, c2, rfl, hN2⟩, ho1, hF1⟩
  have hSM : SM X w (w1.alloc (.cells #[.int .u8 (k : Int), .int .u64 (n : Int), .string t, .slice A2 l2 c2] 25)) g ls A l c sp1 w1.heap.size k n t ks A2 l2 c2 :=
    ⟨(HB0.out.next ho1 hF1).call ((Below.refl _ _).alloc (Nat.le_refl _) _), Box.new w1 _ _ _ _, hN2.kd.call ((Below.refl _ _).alloc (Nat.le_refl _) _)⟩
  have hwl : w.heap.size ≤ (w1.alloc (.cells #[.int .u8 (k : Int), .int .u64 (n : Int), .string t, .slice A2 l2 c2] 25)).heap.size := hSM.sx.off.size
  have HSM := Lib.hid hSM
  have HWL := Lib.hid hwl
  have hlen := hN2.len
  clear hN2 ho1 hF1 hSM hwl HV
  rcases hcase with ⟨h1, hks, hts, hsp⟩ | ⟨h1, hks, hts, hsp⟩ | ⟨h1, hc⟩
  · subst hks; subst hts; subst hsp
    have hl0 : l2 = 0 := hlen
    subst hl0
    have hk21 : ((k : Int) == 21) = false := by rw [h1]; rfl
    have H1 := Lib.hid HSM.out
    clear h1 hlen HCASE
    go_wp2
    refine wp_loop_rounds 1 ?_
    rw [rounds_succ]
    go_wp2
    go_ret
    exact ⟨_, rfl, ⟨none, 0, 0, rfl, Strs.nil _ _⟩, H1.out.sx.off, H1.out.sx.fld⟩
  · subst hks; subst hts; subst hsp
    have hl0 : l2 = 0 := hlen
    subst hl0
    have hk21 : ((k : Int) == 21) = true := by rw [h1]; rfl
    clear h1 hlen HCASE
    obtain ⟨W, hW⟩ : ∃ W, w1.alloc (.cells #[.int .u8 (k : Int), .int .u64 (n : Int), .string t, .slice A2 0 c2] 25) = W := ⟨_, rfl⟩
    obtain ⟨G5, hG5⟩ : ∃ G5, w1.heap.size = G5 := ⟨_, rfl⟩
    rw [hW, hG5] at HSM
    rw [hW] at HWL
    obtain ⟨x0, x1, x2, x3, _⟩ := HSM.out.b5.all
    have hwl := HWL.out
    go_wp2_with (at_builtin; refine wpList_append_lies _ rfl _ _ 38 rfl W.heap.size 9 i0 _ 1 16 Tryd.underlying38 hi hz0 hz1 hz2 rfl (by omega) _ _ _ rfl (Strs.nil W.heap.size _) ⟨W.heap.size, 0, none⟩ 1 1 [.string t] rfl rfl (news1 _ _ _ _ rfl) (fun u hu => (by simp at hu; rcases hu with rfl; rfl)) (by omega) (by unfold maxLen; omega) (by omega) (by simp) _ rfl ?_; intro g9 cap9 w9 hown9 hgrow9 hat9 _; have hb9 : Below W.heap.size W w9 := (((Below.refl W.heap.size W).alloc (Nat.le_refl _) _)).grown hgrow9 (by simp) (fun k hk => by cases hk); have HS9 := Lib.hid (HSM.out.call hb9); have HO9 := Lib.hid hown9; obtain ⟨y0, y1, y2, y3, _⟩ := (HSM.out.call hb9).b5.all; clear hb9 hown9 hgrow9 hat9 x0 x1 x2 x3)
    refine wp_loop_rounds 1 ?_
    rw [rounds_succ]
    go_wp2
    go_ret
    refine ⟨_, rfl, ⟨some ⟨g9, 0, none⟩, 1, cap9, rfl, ?_⟩, HS9.out.sx.off, HS9.out.sx.fld⟩
    have := HO9.out
    exact Strs.mono (B := W.heap.size) this hwl
  · have hk21 : ((k : Int) == 21) = false := by rw [h1]; rfl
    clear HCASE h1
    obtain ⟨W, hW⟩ : ∃ W, w1.alloc (.cells #[.int .u8 (k : Int), .int .u64 (n : Int), .string t, .slice A2 l2 c2] 25) = W := ⟨_, rfl⟩
    obtain ⟨G5, hG5⟩ : ∃ G5, w1.heap.size = G5 := ⟨_, rfl⟩
    rw [hW, hG5] at HSM
    rw [hW] at HWL
    have hl2 : l2 ≤ 1073741824 := by have := HBV.out; have h2 := length_bulk ks; simp only [bulk] at this; omega
    have HLE := Lib.hid hlen
    have HL2 := Lib.hid hl2
    have HC := Lib.hid hc
    clear hlen hl2 hc
    obtain ⟨x0, x1, x2, x3, _⟩ := HSM.out.b5.all
    go_wp2_with fail
    clear hW hG5 x0 x1 x2 x3
    go_loopw [6, 7] (fun s i wr => ∃ (j : Nat) (A1 : Option Addr) (c1 : Nat), j ≤ l2 ∧ i = .int .i64 j ∧ s = .slice A1 j c1 ∧ Strs W.heap.size wr A1 j c1 (texts (ks.take j)) ∧ allSym (ks.take j) = true ∧ Below W.heap.size W wr) (fun _ i _ => l2 - (intOf i).toNat)
    case atStart => exact ⟨0, none, 0, Nat.zero_le _, rfl, rfl, Strs.nil _ _, rfl, Below.refl _ _⟩
    case round =>
      obtain ⟨j, A1, c1, hj, rfl, rfl, hS, hall, hb⟩ := hrel
      have HS := Lib.hid hS
      have HA := Lib.hid hall
      have HBW := Lib.hid hb
      have HMR := Lib.hid (HSM.out.call hb)
      have hl2 := HL2.out
      obtain ⟨x0, x1, x2, x3, _⟩ := HMR.out.b5.all
      by_cases hlt : j < l2
      · obtain ⟨bb, oo, k', n', t', ks', A', l', c', hAA, hb', hx, h0, h1, h2, h3, hk', hn', hK'⟩ := HMR.out.kd.at_ hlt
        subst hAA
        have HX := Lib.hid hx
        by_cases h21 : k' = 21
        · have hne21 : ((k' : Int) != 21) = false := by rw [h21]; rfl
          have hs := hb.size
          have hlt9 := World.ownsRow.lt hS
          have HOB := Lib.hid hlt9
          have HK21 := Lib.hid h21
          clear hx hS hall hb hlt9 hK' h21
          go_wp2_with (at_builtin; refine wpList_append_lies _ rfl _ _ 38 rfl W.heap.size 9 i0 _ 1 16 Tryd.underlying38 hi hz0 hz1 hz2 rfl (by omega) _ _ _ rfl (World.ownsRow.alloc HS.out _) ⟨wr.heap.size, 0, none⟩ 1 1 [.string t'] rfl rfl (news1 _ _ _ _ rfl) (fun u hu => (by simp at hu; rcases hu with rfl; rfl)) (by omega) (by unfold maxLen; omega) (by omega) (by simp; omega) _ rfl ?_; intro g9 cap9 w9 hown9 hgrow9 hat9 _)
          go_roundw
          case rel =>
            refine ⟨j + 1, some ⟨g9, 0, none⟩, cap9, by omega, by go_num, rfl, ?_, ?_, (HBW.out.alloc HBW.out.size _).grown hgrow9 (by simp; omega) fun k hk => (HOB.out k hk).1⟩
            · rw [texts_snoc HX.out]
              unfold Strs
              rw [List.map_append]
              exact hown9
            · rw [allSym_snoc HX.out, HA.out, show (V.mk k' n' t' ks').kind = 21 from HK21.out]
              rfl
          case measure => simp [intOf]; omega
        · have hne0 : ((k' : Int) == 21) = false := by rw [beq_eq_false_iff_ne]; omega
          have hne21 : ((k' : Int) != 21) = true := by rw [bne, hne0]; rfl
          have HN21 := Lib.hid h21
          obtain ⟨a0, a1, af⟩ := HMR.out.sx.fld.cells
          have HSP := Lib.hid HMR.out.sx.spoil
          clear h21 hx hS hall hb hne0
          go_wp2
          go_ret
          have hns := allSym_no HX.out HN21.out
          rcases HC.out with ⟨h1, _⟩ | ⟨_, h2, h3⟩
          · rw [hns] at h1; cases h1
          · subst h2; subst h3
            exact ⟨_, rfl, ⟨none, 0, 0, rfl, Strs.nil _ _⟩, HSP.out.off, HSP.out.fld⟩
      · have hjl : j = l2 := by omega
        have HE : Hid (ks.take j = ks) := Lib.hid (List.take_of_length_le (by have := HLE.out; omega))
        clear hS hall hb
        go_wp2
        go_ret
        rcases HC.out with ⟨_, h2, h3⟩ | ⟨h1, _, _⟩
        · subst h2; subst h3
          refine ⟨_, rfl, ⟨A1, j, c1, rfl, ?_⟩, HMR.out.sx.off, HMR.out.sx.fld⟩
          have := HS.out
          rw [HE.out] at this
          exact this.mono HWL.out
        · have := HA.out
          rw [HE.out, h1] at this; cases this
end Go.Proofs.YtobnbgbijdhjjaaDoor.Fl
