/-
  The walk of the statement FieldsSymbols: one symbol, or an array of them, is told; all else spoils. Conditions: the table utf.shapes lies as the program's text lays it; texts and values of bulk at most 2^20.
-/
import Derived.Test.YtnojhgpaplecgaaDoorFsq
import Derived.Test.YtnojhgpaplecgaaDoorFmu
import Derived.Test.YtnojhgpaplecgaaDoorLrg
import Derived.Deep.AppendLies
import Derived.Laws.AppendOwnNone
import Derived.Laws.OwnMore
import Derived.Deep.DeepCutAuto
import Derived.BigQuiet
import Derived.Deep.QuietTactic
namespace Go.Proofs.YtnojhgpaplecgaaDoor.fieldsSymbols
set_option maxRecDepth 100000
open Go.RowKit Go.Proofs.YtnojhgpaplecgaaDoor.Utf Go.Proofs.YtnojhgpaplecgaaDoor.Val Go.Proofs.YtnojhgpaplecgaaDoor.Fl V

theorem text21 (t : ByteArray) (w : World) : Calls Tryd.prog 25 #[.int .u8 21, .string t] w fun e w' => e = .returned (.agg #[.int .u8 21, .int .u64 0, .string t, .slice none 0 0]) ∧ Below w.heap.size w w' := text_any' 21 t w
def GivesMv (ks : List V) (w : World) (e : Ending) (w' : World) : Prop := ∃ A l c, e = .returned (.agg #[.int .u8 24, .int .u64 0, .string ⟨#[]⟩, .slice A l c]) ∧ Nw w.heap.size w' ks A l c ∧ Below w.heap.size w w'
theorem vmany24 (ks : List V) (A : Option Addr) (l c : Nat) (w : World) (hN : bulkL ks ≤ 1073741824) (hK : Kd w ks A l c) : Calls Tryd.prog 26 #[.int .u8 24, .slice A l c] w (GivesMv ks w) := vmany_any 24 ks A l c w hN (by omega) hK
theorem sy_take {ts : List ByteArray} {j : Nat} {t : ByteArray} (h : ts[j]? = some t) : syV (ts.take (j + 1)) = syV (ts.take j) ++ [.mk 21 0 t []] := by
  unfold syV
  rw [List.take_add_one, h]
  simp
theorem big_one (v : V) : bigL [v] = bigL [v] := rfl
/-- What is kept of the arguments: the box of the value, its kids, the texts. -/
structure SA (w wi : World) (ts : List ByteArray) (As : Option Addr) (ns k n : Nat) (t : ByteArray) (ks : List V) (A : Option Addr) (l c : Nat) : Prop where
  b3 : Box wi w.heap.size (.int .u8 (k : Int)) (.int .u64 (n : Int)) (.string t) (.slice A l c)
  low : Below w.heap.size w wi
  kd : Kd w ks A l c
  sr : SrR w As ns ts
  tab : Tab w
section
variable {w wi w' : World} {ts : List ByteArray} {As : Option Addr} {ns k n : Nat} {t : ByteArray} {ks : List V} {A : Option Addr} {l c : Nat}
theorem SA.call (h : SA w wi ts As ns k n t ks A l c) (hb : Below wi.heap.size wi w') : SA w w' ts As ns k n t ks A l c := ⟨h.b3.call hb, below_next h.low hb, h.kd, h.sr, h.tab⟩
theorem SA.next {g : Nat} (h : SA w wi ts As ns k n t ks A l c) (hg : w.heap.size < g) (ho : Off (fun i => i = g) wi w') : SA w w' ts As ns k n t ks A l c :=
  ⟨Box.off h.b3 ho (by omega), h.low.trans (ho.below h.low.size fun i hi e => by omega), h.kd, h.sr, h.tab⟩
theorem SA.kdn (h : SA w wi ts As ns k n t ks A l c) : Kd wi ks A l c := h.kd.call h.low
theorem SA.srn (h : SA w wi ts As ns k n t ks A l c) : SrR wi As ns ts := h.sr.call h.low
theorem SA.tabn (h : SA w wi ts As ns k n t ks A l c) : Tab wi := h.tab.call h.low
end

/-- What is kept behind the first question. -/
structure SY (w w2 wi : World) (ts : List ByteArray) (As : Option Addr) (ns k n : Nat) (t : ByteArray) (ks : List V) (A : Option Addr) (l c : Nat) (g : Nat) (Af : Option Addr) (lf cf : Nat) (sp : Bool) (G : Nat) (Ag : Option Addr) (cg : Nat) : Prop where
  sa : SA w wi ts As ns k n t ks A l c
  ws : WS w2 wi g (trim (allV ts (.mk k n t ks))) Af lf cf sp
  hg : w.heap.size < g
  got : Strs G wi Ag ns cg ts
  hG : g < G
section
variable {w w2 wi w' : World} {ts : List ByteArray} {As : Option Addr} {ns k n : Nat} {t : ByteArray} {ks : List V} {A : Option Addr} {l c : Nat} {g : Nat} {Af : Option Addr} {lf cf : Nat} {sp sp' : Bool} {G : Nat} {Ag : Option Addr} {cg : Nat}
theorem SY.call (h : SY w w2 wi ts As ns k n t ks A l c g Af lf cf sp G Ag cg) (hb : Below wi.heap.size wi w') : SY w w2 w' ts As ns k n t ks A l c g Af lf cf sp G Ag cg := ⟨h.sa.call hb, h.ws.call hb, h.hg, h.got.call hb, h.hG⟩
theorem SY.next (h : SY w w2 wi ts As ns k n t ks A l c g Af lf cf sp G Ag cg) (ho : Off (fun i => i = g) wi w') (hF : Fld 69 (fun i => g ≤ i) w' g (trim (allV ts (.mk k n t ks))) Af lf cf sp') : SY w w2 w' ts As ns k n t ks A l c g Af lf cf sp' G Ag cg :=
  ⟨h.sa.next h.hg ho, h.ws.next ho hF, h.hg, h.got.keep fun b hb => by
    have := World.ownsRow.lt h.got b hb
    have := h.hG
    exact ho.block b (by omega) (by omega), h.hG⟩
end
theorem may_or {ts : List ByteArray} {v : V} (hok : okB (.mk 25 0 ⟨#[]⟩ (putL 1 (trim (allV ts v)))) = true) : v.kind = 1 ∨ mayB v = true := by
  by_cases hk : v.kind = 1
  · exact .inl hk
  · right
    have hm : mayB (.mk 25 0 ⟨#[]⟩ (putL 1 (trim (allV ts v)))) = true := by
      unfold okB at hok
      simp only [Bool.and_eq_true] at hok
      exact hok.2
    obtain ⟨x, y, hxy, _, _, hy⟩ := may_desc hm
    unfold putL at hxy
    injection hxy with _ hxy
    injection hxy with hxy _
    subst hxy
    have ha : Fl.ask (trim (allV ts v)) ((ts.length + 1 : Nat) : Int) = some v := by
      rw [ask_trm]
      obtain ⟨k, n, t, ks⟩ := v
      exact ask_there (all_atv ts _) hk
    obtain ⟨_, _, _, hx, _⟩ := ask_some ha
    exact mayL_mem (may_kids hy) v (List.mem_of_getElem? hx)
theorem sym_lst {ts : List ByteArray} {v : V} (h : v.kind = 1 ∨ mayB v = true) : (symR (trim (allV ts v)) ((ts.length + 1 : Nat) : Int) false).2 = !fineB v := by
  rw [symR_trm]
  by_cases hk : v.kind = 1
  · obtain ⟨k, n, t, ks⟩ := v
    have hk' : k = 1 := hk
    subst hk'
    rw [symR_none (ask_null (all_atv ts _))]
    rfl
  · exact sym_last (h.resolve_left hk)

set_option maxHeartbeats 4000000 in
theorem walk (ts : List ByteArray) (As : Option Addr) (ns cs : Nat) (k n : Nat) (t : ByteArray) (ks : List V) (A : Option Addr) (l c : Nat) (w : World) (ht : Tab w) (hNs : bulkL (syV ts) ≤ 1048576) (hS : SrR w As ns ts) (hN : bulk (.mk k n t ks) ≤ 1048576) (hk : k < 256) (hn : n < 18446744073709551616) (hK : Kd w ks A l c) :
    Calls Tryd.prog 6 #[.slice As ns cs, .agg #[.int .u8 (k : Int), .int .u64 (n : Int), .string t, .slice A l c]] w (GivesB true w) := by
  have hb0 : Below w.heap.size w (w.alloc (.cells #[.int .u8 (k : Int), .int .u64 (n : Int), .string t, .slice A l c] 25)) := (Below.refl _ _).alloc (Nat.le_refl _) _
  have HS0 : Hid (SA w (w.alloc (.cells #[.int .u8 (k : Int), .int .u64 (n : Int), .string t, .slice A l c] 25)) ts As ns k n t ks A l c) := Lib.hid ⟨Box.new w _ _ _ _, hb0, hK, hS, ht⟩
  have HNS := Lib.hid hNs
  have HN := Lib.hid hN
  have HK := Lib.hid hk
  have HNN := Lib.hid hn
  have hlen := hS.1
  have HLEN := Lib.hid hlen
  have hlb := length_bulk (syV ts)
  rw [syV_len] at hlb
  have HNL := Lib.hid (show ns ≤ 1048576 by omega)
  obtain ⟨i0, hi, hz0, hz1, hz2⟩ := info_parts infoV
  clear hb0 hNs hN hK hS ht hk hn hlen hlb
  by_cases h100 : 100 < ns
  · have hd : decide (100 < (ns : Int)) = true := decide_eq_true (by omega)
    clear h100
    go_enter Tryd.func6, Tryd.ntmps6
    go_wp2_with fail
    refine (works7_any _ HS0.out.tabn).mono ?_
    rintro e w1 ⟨rfl, hb1⟩
    go_wp2_with fail
    go_ret
    exact ⟨rfl, below_next HS0.out.low hb1⟩
  · have hd : decide (100 < (ns : Int)) = false := decide_eq_false (by omega)
    clear h100
    obtain ⟨p, hp⟩ : ∃ p, decide (8192 < bigL [V.mk k n t ks]) = p := ⟨_, rfl⟩
    have HP := Lib.hid hp
    clear hp
    go_enter Tryd.func6, Tryd.ntmps6
    go_wp2_with fail
    have hLL := large_any [V.mk k n t ks] _ 1 1 _ (by have := HN.out; simp only [bulkL]; omega) (kid1 (t := t) HK.out HNN.out HS0.out.kdn)
    rw [HP.out, World.size_alloc] at hLL
    with_reducible refine hLL.mono ?_
    rintro e w2 ⟨rfl, hb2⟩
    have HS2 := Lib.hid ((HS0.out.call ((Below.refl _ _).alloc (Nat.le_refl _) _)).call hb2)
    clear hb2 hLL
    cases p with
    | true =>
      go_wp2_with fail
      refine (works7_any _ HS2.out.tabn).mono ?_
      rintro e w3 ⟨rfl, hb3⟩
      go_wp2_with fail
      go_ret
      exact ⟨rfl, below_next HS2.out.low hb3⟩
    | false =>
    go_wp2
    go_loopw [5, 6] (fun s i wr => ∃ (j : Nat) (A1 : Option Addr) (c1 : Nat) (xs : List Value), j ≤ ns ∧ i = .int .i64 j ∧ s = .slice A1 j c1 ∧ CS w2.heap.size wr A1 j c1 (syV (ts.take j)) xs ∧ (j = 0 → A1 = none ∧ c1 = 0) ∧ Below w2.heap.size w2 wr) (fun _ i _ => ns - (intOf i).toNat)
    case atStart => exact ⟨0, none, 0, [], Nat.zero_le _, rfl, rfl, CS.nil _ _, fun _ => ⟨rfl, rfl⟩, Below.refl _ _⟩
    case round =>
      obtain ⟨j, A1, c1, xs, hj, rfl, rfl, hC, hj0, hb⟩ := hrel
      have HSR := Lib.hid (HS2.out.call hb)
      have hNL := HNL.out
      by_cases hlt : j < ns
      · obtain ⟨bs, os, tj, hAs, hbs, hx, hcell⟩ := HSR.out.srn.2 j hlt
        subst hAs
        have HX := Lib.hid hx
        have HC0 := Lib.hid hC
        have HB := Lib.hid hb
        clear hx hC hb hj0
        go_wp2_with fail
        refine (text21 tj wr).mono ?_
        rintro e w3 ⟨rfl, hb3⟩
        have hC3 := HC0.out.call hb3
        have hown3 := hC3.own
        have hs3 := hb3.size
        have hs2 := HB.out.size
        have hbx := below_next HB.out hb3
        have hlt3 := hC3.own.lt
        have HOB := Lib.hid hlt3
        have HC3 := Lib.hid hC3
        clear hC3 hlt3 hcell
        go_wp2_with (at_builtin; refine wpList_append_lies _ rfl _ _ 23 rfl w2.heap.size 25 i0 _ 4 56 Tryd.underlying23 hi hz0 hz1 hz2 rfl (by omega) _ _ _ rfl (hown3.alloc _) ⟨w3.heap.size, 0, none⟩ 1 1 [.int .u8 21, .int .u64 0, .string tj, .slice none 0 0] rfl rfl (news4 w3 _ _ _ _ _ _ rfl) (fun u hu => (by simp at hu; rcases hu with rfl | rfl | rfl | rfl <;> rfl)) (by omega) (by unfold maxLen; omega) (by omega) (by simp; omega) _ rfl ?_; intro g9 cap9 w9 hown9 hgrow9 hat9 _)
        go_roundw
        case rel =>
          refine ⟨j + 1, some ⟨g9, 0, none⟩, cap9, _, by omega, by go_num, rfl, ((HC3.out.push (k := 21) (m := 0) (by omega) (by omega) (Kids.none_ _ _ _ none 0) _ rfl hown9 hgrow9 ?_).cast (sy_take HX.out).symm), fun h => by omega, (hbx.alloc (by omega) _).grown hgrow9 (by simp; omega) fun k hk => (HOB.out k hk).1⟩
          rcases hat9 with h | h
          · exact .inl h
          · right; simp at h; omega
        case measure => simp [intOf]; omega
      · have hjn : j = ns := by omega
        subst hjn
        have HE : Hid (syV (ts.take j) = syV ts) := Lib.hid (by rw [List.take_of_length_le (by rw [← HLEN.out]; exact Nat.le_refl _)])
        have HC := Lib.hid (hC.cast HE.out)
        have HJ0 := Lib.hid hj0
        have HB := Lib.hid hb
        clear hC hj0 hb hlt
        go_upto_region 8 with fail
        go_cut [7] (fun s wx => ∃ (A7 : Option Addr) (c7 : Nat) (ys : List Value), s = .slice A7 (1 + j) c7 ∧ wx.ownsRow w2.heap.size 25 4 (.slice A7 (1 + j) c7) (1 + j) ys ∧ CellsF wx (fun i => i < wx.heap.size ∧ (Value.slice A7 (1 + j) c7).ownBlock ≠ some i) (.mk 24 0 ⟨#[]⟩ (syV ts) :: syV ts) ys ∧ Below w2.heap.size w2 wx)
        case first =>
          go_wp2_with fail
          refine (vmany24 (syV ts) A1 j c1 wr (by have := HNS.out; omega) HC.out.nw.kd).mono ?_
          rintro e w4 ⟨A4, l4, c4, rfl, hN4, hb4⟩
          have hC4 := HC.out.call hb4
          have hB4 := below_next HB.out hb4
          have hs4 := hB4.size
          have hlit := World.ownsRow_lit (base := w2.heap.size) (e := 25) (size := 4) w4 #[.int .u8 24, .int .u64 0, .string ⟨#[]⟩, .slice A4 l4 c4] 1 (by omega) (by unfold maxLen; omega) rfl
          have HLIT := Lib.hid hlit
          have HN4 := Lib.hid hN4
          have HC4 := Lib.hid hC4
          have HB4 := Lib.hid hB4
          have HS4 := Lib.hid hs4
          clear hlit hN4 hb4 hC4 hB4
          by_cases h0 : j = 0
          · obtain ⟨rfl, rfl⟩ := HJ0.out h0
            subst h0
            go_wp2_with (at_builtin; refine wpList_append_own_none rfl _ _ 23 rfl w2.heap.size 25 i0 4 Tryd.underlying23 hi _ _ _ rfl HLIT.out rfl ?_)
            go_meet
            have hts : ts = [] := List.eq_nil_of_length_eq_zero HLEN.out.symm
            refine ⟨_, 1, _, rfl, HLIT.out, ?_, HB4.out.alloc HS4.out _⟩
            rw [show V.mk 24 0 ⟨#[]⟩ (syV ts) :: syV ts = [V.mk 24 0 ⟨#[]⟩ (syV ts)] by rw [hts]; rfl]
            exact CellsF.one (by omega) (by omega) ((Go.Proofs.YtnojhgpaplecgaaDoor.Val.Kids.keep (HN4.out.kd) fun i hi => Below.heap_alloc _ _ _ hi).mono fun i hi => ⟨by simp; omega, fun e => by injection e with e; simp at e; omega⟩)
          · obtain ⟨g1, cap1, hv1, _, _⟩ := World.ownsRow.form HC4.out.own (by omega)
            injection hv1 with e1 e2 e3
            subst e1
            subst e3
            clear e2
            have hxl : xs.length = j * 4 := HC4.out.own.1
            go_wp2_with (at_builtin; refine wpList_append_lies _ rfl _ _ 23 rfl w2.heap.size 25 i0 _ 4 56 Tryd.underlying23 hi hz0 hz1 hz2 rfl (by omega) (.slice (some ⟨w4.heap.size, 0, none⟩) 1 1) 1 _ rfl HLIT.out ⟨g1, 0, none⟩ j c1 xs rfl hxl (World.ownsRow.cells (World.ownsRow.alloc HC4.out.own _) rfl) (cells_one HC4.out.cells) (by omega) (by unfold maxLen; omega) (by omega) (by simp; omega) _ rfl ?_; intro g9 cap9 w9 hown9 hgrow9 hat9 hlt9)
            go_meet
            have hblk : ∀ i, i < w4.heap.size → w9.heap[i]? = w4.heap[i]? := fun i hi => (hgrow9.block i (by simp; omega) (fun e => by injection e with e; simp at e; omega)).trans (Below.heap_alloc _ _ _ hi)
            have hsz := hgrow9.size
            simp only [World.size_alloc] at hsz
            refine ⟨_, cap9, _, rfl, hown9, ⟨A4, l4, c4, xs, rfl, by omega, by omega, (Go.Proofs.YtnojhgpaplecgaaDoor.Val.Kids.keep HN4.out.kd hblk).mono fun i hi => ⟨by omega, fun e => ?_⟩, CellsF.sy HC4.out.cells⟩, (HB4.out.alloc HS4.out _).grown hgrow9 (by simp; omega) fun k hk => by injection hk with hk; simp at hk; omega⟩
            injection e with e
            rcases hat9 with h | h
            · injection h with h
              simp at h e
              omega
            · simp at h e
              omega
        case rest =>
          obtain ⟨A7, c7, ys, rfl, hown7, hcf7, hb7⟩ := hcut
          have HSC := Lib.hid (HS2.out.call hb7)
          have HO7 := Lib.hid hown7
          have HF7 := Lib.hid hcf7
          have HB7 := Lib.hid hb7
          have hs7 := hb7.size
          have hlt7 := World.ownsRow.lt hown7
          have HLT7 := Lib.hid hlt7
          obtain ⟨d0, d1, d2, d3, _⟩ := HSC.out.b3.all
          clear hown7 hcf7 hb7 hlt7
          go_wp2_with (at_builtin; refine wpList_append_lies _ rfl _ _ 23 rfl w2.heap.size 25 i0 _ 4 56 Tryd.underlying23 hi hz0 hz1 hz2 rfl (by omega) (.slice A7 (1 + j) c7) (1 + j) _ rfl (World.ownsRow.alloc HO7.out _) ⟨wc.heap.size, 0, none⟩ 1 1 [.int .u8 (k : Int), .int .u64 (n : Int), .string t, .slice A l c] rfl rfl (news4 wc _ _ _ _ _ _ rfl) (fun u hu => (by simp at hu; rcases hu with rfl | rfl | rfl | rfl <;> rfl)) (by omega) (by unfold maxLen; omega) (by omega) (by simp; omega) _ rfl ?_; intro g9 cap9 w9 hown9 hgrow9 hat9 hlt9)
          have hkdv := HSC.out.kdn
          have hcf9 : CellsF w9 (fun i => i < w9.heap.size) (allV ts (.mk k n t ks)) (ys ++ [.int .u8 (k : Int), .int .u64 (n : Int), .string t, .slice A l c]) := by
            have hsz := hgrow9.size
            simp only [World.size_alloc] at hsz
            have h1 : CellsF w9 (fun i => i < w9.heap.size) (.mk 24 0 ⟨#[]⟩ (syV ts) :: syV ts) ys := (HF7.out.keep (w' := w9) fun i hi => (hgrow9.block i (by simp; omega) (fun e => hi.2 e.symm)).trans (Below.heap_alloc _ _ _ hi.1)).mono fun i hi => by omega
            have h2 : CellsF w9 (fun i => i < w9.heap.size) [V.mk k n t ks] [.int .u8 (k : Int), .int .u64 (n : Int), .string t, .slice A l c] := CellsF.one HK.out HNN.out ((Go.Proofs.YtnojhgpaplecgaaDoor.Val.Kids.keep (w' := w9) (show Go.Proofs.YtnojhgpaplecgaaDoor.Val.Kids false w (fun i => i < w.heap.size) ks A l c from HSC.out.kd) fun i hi => by
              have hlw := HS2.out.low.size
              have := HSC.out.low.size
              exact ((hgrow9.block i (by simp; omega) (fun e => by have := (HLT7.out i e.symm).1; omega)).trans (Below.heap_alloc _ _ _ (by omega))).trans (HSC.out.low.block i hi)).mono fun i hi => by have := HSC.out.low.size; omega)
            exact CellsF.append h2 h1
          have hb9 : Below w2.heap.size w2 w9 := (HB7.out.alloc hs7 _).grown hgrow9 (by simp; omega) fun k hk => (HLT7.out k hk).1
          have hk9 : Kd w9 (allV ts (.mk k n t ks)) (some ⟨g9, 0, none⟩) (1 + j + 1) cap9 := CellsF.kd hown9 hcf9 (fun _ h => h) (by omega)
          have HS9 := Lib.hid (HS2.out.call hb9)
          have HK9 := Lib.hid hk9
          have HBU : Hid (bulkL (allV ts (.mk k n t ks)) ≤ 4194304) := Lib.hid (by
            have h1 := HNS.out
            have h2 := HN.out
            have h3 : bulkL [V.mk k n t ks] = bulk (.mk k n t ks) := by simp only [bulkL]; omega
            have h4 : bulk (.mk 24 0 ⟨#[]⟩ (syV ts)) = bulkL (syV ts) + 0 + 1 := rfl
            unfold allV
            rw [bulkL, bulkL_append, h3, h4]
            omega)
          clear hcf9 hb9 hk9 hkdv hown9 hgrow9 hat9 d0 d1 d2 d3
          obtain ⟨M, hM⟩ : ∃ M, 1 + j + 1 = M := ⟨_, rfl⟩
          rw [hM] at HK9 ⊢
          have HM := Lib.hid hM
          clear hM
          have HPU : Hid (Calls Tryd.prog 20 #[.int .u64 1, .slice (some ⟨g9, 0, none⟩) M cap9] w9 (GivesU 1 (trim (allV ts (.mk k n t ks))) w9)) := Lib.hid (put_any 1 _ _ _ _ w9 (by have := HBU.out; omega) (by omega) HK9.out)
          refine HPU.out.mono ?_
          rintro e w10 ⟨Ap, lp, cp, rfl, hNp, hb10⟩
          have hbp := bulk_put 1 (allV ts (.mk k n t ks))
          have HRR : Hid (Calls Tryd.prog 23 #[.agg #[.int .u8 25, .int .u64 0, .string ⟨#[]⟩, .slice Ap lp cp]] w10 (GivesB (okB (.mk 25 0 ⟨#[]⟩ (putL 1 (trim (allV ts (.mk k n t ks)))))) w10)) := Lib.hid (vright_any 25 0 ⟨#[]⟩ _ Ap lp cp w10 (by have := HBU.out; omega) (by simp [ByteArray.size]) (by omega) hNp.kd (HS9.out.call hb10).tabn)
          have HB10 := Lib.hid hb10
          clear hNp hb10 hbp
          go_wp2_with fail
          refine HRR.out.mono ?_
          rintro e w11 ⟨rfl, hb11⟩
          have HB11 := Lib.hid (below_next HB10.out hb11)
          clear hb11
          cases hok : okB (.mk 25 0 ⟨#[]⟩ (putL 1 (trim (allV ts (.mk k n t ks))))) with
          | false =>
            clear hok
            go_wp2_with fail
            refine (works7_any _ (HS9.out.call HB11.out).tabn).mono ?_
            rintro e w12 ⟨rfl, hb12⟩
            go_wp2_with fail
            go_ret
            exact ⟨rfl, below_next (HS9.out.call HB11.out).low hb12⟩
          | true =>
          have HMAY := Lib.hid (may_or hok)
          have hls : Calls Tryd.prog 27 #[.int .u64 1, .slice (some ⟨g9, 0, none⟩) M cap9] w11 (GivesLs (newR (.mk 25 0 ⟨#[]⟩ (putL 1 (trim (allV ts (.mk k n t ks))))) 1 ⟨#[]⟩) w11) := list_any 1 _ _ _ _ w11 (by have := HBU.out; omega) (by omega) (HK9.out.call HB11.out) (HS9.out.call HB11.out).tabn
          rw [new_put hok] at hls
          have HLS := Lib.hid hls
          clear hls hok
          go_wp2_with fail
          refine HLS.out.mono ?_
          rintro e w12 ⟨g, Af, lf, cf, rfl, hg, hF, _, hb12⟩
          have HF12 := Lib.hid hF
          have HB12 := Lib.hid (below_next HB11.out hb12)
          have HG12 : Hid (w9.heap.size ≤ g) := Lib.hid (Nat.le_trans HB11.out.size hg)
          have HBT : Hid (bulkL (trim (allV ts (.mk k n t ks))) ≤ 1073741824) := Lib.hid (by have := bulk_take (allV ts (.mk k n t ks)) (cutN (allV ts (.mk k n t ks)) (allV ts (.mk k n t ks)).length); have := HBU.out; unfold trim; omega)
          clear hF hg hb12
          go_wp2_with fail
          refine (symbols_any HF12.out 0 HBT.out ((symR_trm _ _ _).trans (sym0 ts _ false))).mono ?_
          rintro e w13 ⟨r13, rfl, ⟨Ag, ng, cg, rfl, hSg⟩, ho13, hF13⟩
          have hng : ng = j := by rw [hSg.len, HLEN.out]
          subst hng
          have hgl : g < w12.heap.size := HF12.out.lt
          have hSA12 := HS9.out.call HB12.out
          have hSA13 := hSA12.next (by have := HS9.out.b3.lt; have := HG12.out; omega) ho13
          have HY13 : Hid (SY w w9 w13 ts As ng k n t ks A l c g Af lf cf false w12.heap.size Ag cg) := Lib.hid ⟨hSA13, ⟨hF13, HB12.out.trans (ho13.below HB12.out.size fun i hi e => by have := HG12.out; omega), HG12.out⟩, by have := HS9.out.b3.lt; have := HG12.out; omega, hSg, hgl⟩
          clear hSg ho13 hF13 hSA12 hSA13 hgl
          go_wp2_with fail
          refine (symbols_any HY13.out.ws.fld (M : Int) HBT.out ((symR_trm _ _ _).trans (show symR (allV ts (.mk k n t ks)) (M : Int) false = ([], false) from by rw [show M = ts.length + 2 by have := HM.out; have := HLEN.out; omega]; exact sym_far ts _ false))).mono ?_
          rintro e w14 ⟨r14, rfl, ⟨Az, nz, cz, rfl, hSz⟩, ho14, hF14⟩
          obtain rfl : nz = 0 := hSz.len
          have HY14 := Lib.hid (HY13.out.next ho14 hF14)
          clear hSz ho14 hF14
          go_wp2_with fail
          refine (symbols_any HY14.out.ws.fld (-1) HBT.out ((symR_trm _ _ _).trans (sym_neg ts _ false))).mono ?_
          rintro e w15 ⟨r15, rfl, ⟨Ay, ny, cy, rfl, hSy⟩, ho15, hF15⟩
          obtain rfl : ny = 0 := hSy.len
          have HY15 := Lib.hid (HY14.out.next ho15 hF15)
          clear hSy ho15 hF15
          go_wp2
          go_loopw [10] (fun i wx => ∃ q : Nat, q ≤ ng ∧ i = .int .i64 q ∧ SY w w9 wx ts As ng k n t ks A l c g Af lf cf false w12.heap.size Ag cg) (fun i _ => ng - (intOf i).toNat)
          case atStart => exact ⟨0, Nat.zero_le _, rfl, HY15.out⟩
          case round =>
            obtain ⟨q, hq, rfl, hY⟩ := hrel
            have HY := Lib.hid hY
            by_cases hlq : q < ng
            · obtain ⟨bs, os, tq, hAs, hbs, hx, hcell⟩ := HY.out.sa.srn.2 q hlq
              have HX := Lib.hid hx
              have hsy := symbols_any HY.out.ws.fld (1 + (q : Int)) HBT.out ((symR_trm _ _ _).trans (show symR (allV ts (.mk k n t ks)) (1 + (q : Int)) false = ([tq], false) from by rw [show (1 : Int) + (q : Int) = ((1 + q : Nat) : Int) by omega]; exact sym1 HX.out false))
              have HSYM := Lib.hid hsy
              clear hY hx hcell hbs hsy hAs
              go_wp2_with fail
              refine HSYM.out.mono ?_
              rintro e w16 ⟨r16, rfl, ⟨Ao, no, co, rfl, hSo⟩, ho16, hF16⟩
              have hno : no = 1 := hSo.len
              subst hno
              have HY16 := Lib.hid (HY.out.next ho16 hF16)
              obtain ⟨go, to_, hAo, _, _, hto, hco⟩ := hSo.at_ (j := 0) (by omega)
              subst hAo
              simp only [List.getElem?_cons_zero, Option.some.injEq] at hto
              subst hto
              obtain ⟨gg, tg, hAg, _, _, htg, hcg⟩ := HY16.out.got.at_ (j := q) hlq
              subst hAg
              obtain rfl : tg = tq := by rw [HX.out] at htg; injection htg with htg; exact htg.symm
              obtain ⟨bs, os, tr, hAs, hbs, hx2, hcell⟩ := HY16.out.sa.srn.2 q hlq
              subst hAs
              obtain rfl : tr = tg := by rw [HX.out] at hx2; injection hx2 with hx2; exact hx2.symm
              clear hSo ho16 hF16 htg hx2 hbs HSYM
              go_wp2_with fail
              go_quiet (fail)
              go_wp2_with fail
              go_roundw
              case rel => exact ⟨q + 1, by omega, by go_num, HY16.out.call (below_drewN (Below.refl _ _) _)⟩
              case measure => simp [intOf]; omega
            · clear hY
              have hdn := done_any HY.out.ws.fld (M : Int)
              have hlen2 : (M : Int) = ((allV ts (.mk k n t ks)).length : Int) := by rw [allV_len]; have := HM.out; have := HLEN.out; omega
              rw [hlen2, done_trm, if_neg Bool.false_ne_true, ← hlen2] at hdn
              have HDN := Lib.hid hdn
              clear hdn hlen2
              go_wp2_with fail
              refine HDN.out.mono ?_
              rintro e w17 ⟨rfl, rfl⟩
              have hM1 : 2 ≤ M := by have := HM.out; omega
              have hM2 : M ≤ 2097152 := by have := HM.out; have := HNL.out; omega
              go_wp2_with fail
              obtain ⟨tl, sl, hsl⟩ : ∃ tl sl, symR (trim (allV ts (.mk k n t ks))) ((M : Int) - 1) false = (tl, sl) := ⟨_, _, rfl⟩
              have hsf : sl = !fineB (.mk k n t ks) := by
                have := sym_lst (ts := ts) HMAY.out
                rw [show ((ts.length + 1 : Nat) : Int) = (M : Int) - 1 by have := HM.out; have := HLEN.out; omega, hsl] at this
                exact this
              have HSF := Lib.hid hsf
              refine (symbols_any HY.out.ws.fld ((M : Int) - 1) HBT.out hsl).mono ?_
              rintro e w18 ⟨r18, rfl, ⟨Aw, nw, cw, rfl, _⟩, ho18, hF18⟩
              have HY18 := Lib.hid (HY.out.next ho18 hF18)
              clear ho18 hF18 hsl hsf
              obtain ⟨F, hFF⟩ : ∃ F, fineB (.mk k n t ks) = F := ⟨_, rfl⟩
              rw [hFF] at HSF
              have HFF := Lib.hid hFF
              have hll := HY.out.sa.kd.len
              have HLL := Lib.hid hll
              clear hFF hll hM1 hM2
              go_upto_region 27 with fail
              obtain ⟨d0, d1, d2, d3, _⟩ := HY18.out.sa.b3.all
              go_cut [12] (fun s wx => s = .bool F ∧ wx = w18)
              case first =>
                have hfine : F = (decide (k = 1) || decide (k = 21) || (decide (k = 24) && firstB ks)) := HFF.out.symm
                by_cases h1 : k = 1
                · have e1 : ((k : Int) == 1) = true := by rw [h1]; rfl
                  have hFt : F = true := by rw [hfine, decide_eq_true h1]; rfl
                  subst hFt
                  clear h1 hfine
                  go_wp2_with fail
                  go_meet
                  exact ⟨rfl, rfl⟩
                have e1 : ((k : Int) == 1) = false := by simp; omega
                by_cases h21 : k = 21
                · have e2 : ((k : Int) == 21) = true := by rw [h21]; rfl
                  have hFt : F = true := by rw [hfine, decide_eq_true h21]; simp
                  subst hFt
                  clear h1 h21 hfine
                  go_wp2_with fail
                  go_meet
                  exact ⟨rfl, rfl⟩
                have e2 : ((k : Int) == 21) = false := by simp; omega
                by_cases h24 : k = 24
                · have e3 : ((k : Int) == 24) = true := by rw [h24]; rfl
                  have hfs : F = firstB ks := by rw [hfine, decide_eq_false h1, decide_eq_false h21, decide_eq_true h24]; rfl
                  clear hfine h1 h21 h24
                  by_cases hl0 : l = 0
                  · have hks : ks = [] := List.eq_nil_of_length_eq_zero (by have := HLL.out; omega)
                    have hFt : F = true := by rw [hfs, hks]; rfl
                    subst hFt
                    subst hl0
                    clear hfs hks
                    go_wp2_with fail
                    go_meet
                    exact ⟨rfl, rfl⟩
                  · have e4 : ((l : Int) == 0) = false := by simp; omega
                    obtain ⟨bx, ox, kx, nx, tx, ksx, Ax, lx, cx, hAx, hbx, hxx, y0, y1, y2, y3, _, _, _⟩ := HY18.out.sa.kdn.at_ (i := 0) (by omega)
                    subst hAx
                    rw [Nat.zero_mul, Nat.add_zero] at y0 y1 y2 y3
                    have hlp : 0 < l := by omega
                    have hu : ((kx : Int) == 21) = F := by
                      rw [hfs]
                      cases ks with
                      | nil => simp at hxx
                      | cons x r =>
                        simp at hxx
                        subst hxx
                        show _ = decide (kx = 21)
                        by_cases hk2 : kx = 21
                        · rw [hk2]; rfl
                        · rw [decide_eq_false hk2]; simp; omega
                    clear hfs hxx hl0
                    go_wp2_with fail
                    go_meet
                    exact ⟨by simp, rfl⟩
                · have e3 : ((k : Int) == 24) = false := by simp; omega
                  have hFt : F = false := by rw [hfine, decide_eq_false h1, decide_eq_false h21, decide_eq_false h24]; rfl
                  subst hFt
                  clear h1 h21 h24 hfine
                  go_wp2_with fail
                  go_meet
                  exact ⟨rfl, rfl⟩
              case rest =>
                obtain ⟨rfl, rfl⟩ := hcut
                have hdn := done_any HY18.out.ws.fld (M : Int)
                have hlen2 : (M : Int) = ((allV ts (.mk k n t ks)).length : Int) := by rw [allV_len]; have := HM.out; have := HLEN.out; omega
                rw [hlen2, done_trm, ← hlen2, HSF.out] at hdn
                have HDN := Lib.hid hdn
                clear hdn hlen2 d0 d1 d2 d3
                cases F with
                | true =>
                  go_wp2_with fail
                  refine HDN.out.mono ?_
                  rintro e w19 ⟨rfl, rfl⟩
                  go_wp2_with fail
                  refine (works7_any _ HY18.out.sa.tabn).mono ?_
                  rintro e w20 ⟨rfl, hb20⟩
                  go_wp2_with fail
                  go_ret
                  exact ⟨rfl, below_next HY18.out.sa.low hb20⟩
                | false =>
                  go_wp2_with fail
                  refine HDN.out.mono ?_
                  rintro e w19 ⟨rfl, rfl⟩
                  go_wp2_with fail
                  refine (works7_any _ HY18.out.sa.tabn).mono ?_
                  rintro e w20 ⟨rfl, hb20⟩
                  go_wp2_with fail
                  go_ret
                  exact ⟨rfl, below_next HY18.out.sa.low hb20⟩
end Go.Proofs.YtnojhgpaplecgaaDoor.fieldsSymbols
