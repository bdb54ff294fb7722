/-
  The walk of the statement FieldsSpoils: fields are spoilt by just one that must be, and is not, or one of another kind than is asked. Conditions: the table utf.shapes lies as the program's text lays it; values of bulk at most 2^20.
-/
import Derived.Test.YtnojhgpaplecgaaDoorOpa
import Derived.Test.YtnojhgpaplecgaaDoorLrg
import Derived.Deep.DeepCutAuto
namespace Go.Proofs.YtnojhgpaplecgaaDoor.Fl
set_option maxRecDepth 100000
open Go.RowKit Go.Proofs.YtnojhgpaplecgaaDoor.Utf Go.Proofs.YtnojhgpaplecgaaDoor.Val V

theorem cutN_above (ls : List V) (j : Nat) : ∀ n, cutN ls n ≤ j → j < n → nulAt ls j = true
  | 0, _, h => by omega
  | n + 1, h, hj => by
    unfold cutN at h
    by_cases hn : nulAt ls n = true
    · rw [if_pos hn] at h
      by_cases e : j = n
      · subst e; exact hn
      · exact cutN_above ls j n h (by omega)
    · rw [if_neg hn] at h; omega
/-- What is asked of a list without the nulls at its end is what is asked of it. -/
theorem ask_trim (ls : List V) (i : Int) : ask (trim ls) i = ask ls i := by
  by_cases h0 : i < 0
  · rw [ask_neg h0, ask_neg h0]
  · obtain ⟨j, rfl⟩ : ∃ j : Nat, i = (j : Int) := ⟨i.toNat, by omega⟩
    unfold ask trim
    rw [if_pos (by omega), if_pos (by omega), Int.toNat_natCast]
    by_cases hj : j < cutN ls ls.length
    · rw [List.getElem?_take_of_lt hj]
    · rw [List.getElem?_take_eq_none (by omega)]
      by_cases hl : j < ls.length
      · have hn := cutN_above ls j ls.length (by omega) hl
        unfold nulAt at hn
        rw [List.getElem?_eq_getElem hl] at hn ⊢
        simp only [decide_eq_true_eq] at hn
        simp [Option.filter, hn]
      · rw [List.getElem?_eq_none (by omega)]
theorem trim_le (ls : List V) : (trim ls).length ≤ ls.length := by unfold trim; rw [List.length_take]; omega
theorem done_trim (ls : List V) (sp : Bool) : doneN (trim ls) sp (ls.length : Int) = if sp = true then 6 else 0 := by
  unfold doneN
  have := trim_le ls
  cases sp with
  | true => rw [if_pos (.inl rfl), if_pos rfl]
  | false => rw [if_neg (by simp; omega), if_neg Bool.false_ne_true]
/-- Does a question spoil? -/
def badR (ls : List V) (i : Int) (kind : Nat) (must : Bool) : Bool := match ask ls i with | none => must | some v => !decide (v.kind = kind)
theorem oneR_bad {α : Type} (ls : List V) (i : Int) (kind : Nat) (must sp : Bool) (z : α) (f : V → α) : (oneR (trim ls) i kind must sp z f).2 = (sp || badR ls i kind must) := by
  unfold oneR badR
  rw [ask_trim]
  cases ask ls i with
  | none => rfl
  | some v =>
    by_cases h : v.kind = kind
    · simp [h]
    · simp [h]
theorem does1 (ls : List V) (i : Int) (kind : Nat) (must : Bool) (z : Nat) (L : List Nat) (sp : Bool) : (doesR (trim ls) ⟨1, i, kind, must, z, L⟩ sp).2 = (sp || badR ls i kind must) := oneR_bad ls i kind must sp z V.num
theorem does2 (ls : List V) (i : Int) (kind : Nat) (must : Bool) (z : Nat) (L : List Nat) (sp : Bool) : (doesR (trim ls) ⟨2, i, kind, must, z, L⟩ sp).2 = (sp || badR ls i 2 must) := by
  show (oneR (trim ls) i 2 must sp 0 V.num).2 = _
  exact oneR_bad ls i 2 must sp 0 V.num
theorem does3 (ls : List V) (i : Int) (kind : Nat) (must : Bool) (z : Nat) (L : List Nat) (sp : Bool) : (doesR (trim ls) ⟨3, i, kind, must, z, L⟩ sp).2 = (sp || badR ls i kind must) := oneR_bad ls i kind must sp (⟨#[]⟩ : ByteArray) V.text
theorem bad_none {ls : List V} {i : Int} {kind : Nat} {must : Bool} (h : ask ls i = none) : badR ls i kind must = must := by unfold badR; rw [h]
theorem bad_some {ls : List V} {i : Int} {kind : Nat} {must : Bool} {v : V} (h : ask ls i = some v) : badR ls i kind must = !decide (v.kind = kind) := by unfold badR; rw [h]
end Go.Proofs.YtnojhgpaplecgaaDoor.Fl
namespace Go.Proofs.YtnojhgpaplecgaaDoor.fieldsSpoils
set_option maxRecDepth 100000
open Go.RowKit Go.Proofs.YtnojhgpaplecgaaDoor.Utf Go.Proofs.YtnojhgpaplecgaaDoor.Val Go.Proofs.YtnojhgpaplecgaaDoor.Fl V

/-- What is kept: the fields, the values, the questions, the table. -/
structure SP (w wi : World) (g : Nat) (ls : List V) (Af : Option Addr) (lf cf : Nat) (sp : Bool) (A : Option Addr) (l c : Nat) (qs : List AQ) (Aq : Option Addr) (nq : Nat) : Prop where
  ws : WS w wi g (trim ls) Af lf cf sp
  kd : Go.Proofs.YtnojhgpaplecgaaDoor.Val.Kids false wi (fun i => i < w.heap.size) ls A l c
  qs : Qs w Aq nq qs
  tab : Tab w
section
variable {w wi w' : World} {g : Nat} {ls : List V} {Af : Option Addr} {lf cf : Nat} {sp sp' : Bool} {A : Option Addr} {l c : Nat} {qs : List AQ} {Aq : Option Addr} {nq : Nat}
theorem SP.call (h : SP w wi g ls Af lf cf sp A l c qs Aq nq) (hb : Below wi.heap.size wi w') : SP w w' g ls Af lf cf sp A l c qs Aq nq :=
  ⟨h.ws.call hb, h.kd.keep fun i hi => hb.block i (Nat.lt_of_lt_of_le hi h.ws.low.size), h.qs, h.tab⟩
theorem SP.next (h : SP w wi g ls Af lf cf sp A l c qs Aq nq) (ho : Off (fun i => i = g) wi w') (hF : Fld 69 (fun i => g ≤ i) w' g (trim ls) Af lf cf sp') : SP w w' g ls Af lf cf sp' A l c qs Aq nq :=
  ⟨h.ws.next ho hF, h.kd.keep fun i hi => ho.block i (Nat.lt_of_lt_of_le hi h.ws.low.size) (fun e => by have := h.ws.ge; omega), h.qs, h.tab⟩
theorem SP.qsn (h : SP w wi g ls Af lf cf sp A l c qs Aq nq) : Qs wi Aq nq qs := h.qs.call h.ws.low
theorem SP.tabn (h : SP w wi g ls Af lf cf sp A l c qs Aq nq) : Tab wi := h.tab.call h.ws.low
theorem SP.kdn (h : SP w wi g ls Af lf cf sp A l c qs Aq nq) : Kd wi ls A l c := h.kd.mono fun _ hi => Nat.lt_of_lt_of_le hi h.ws.low.size
end

set_option maxHeartbeats 4000000 in
theorem walk (ls : List V) (A : Option Addr) (l c : Nat) (qs : List AQ) (Aq : Option Addr) (nq cq : Nat) (w : World) (ht : Tab w) (hN : bulkL ls ≤ 1048576) (hK : Kd w ls A l c) (hQ : Qs w Aq nq qs) :
    Calls Tryd.prog 5 #[.slice A l c, .slice Aq nq cq] w (GivesB true w) := by
  obtain ⟨p, hp⟩ : ∃ p, decide (8192 < bigL ls) = p := ⟨_, rfl⟩
  have HPUT := Lib.hid (show Calls Tryd.prog 20 #[.int .u64 5, .slice A l c] w (GivesU 5 (trim ls) w) from put_any 5 ls A l c w (by omega) (by omega) hK)
  have HT := Lib.hid ht
  have HN := Lib.hid hN
  have HK := Lib.hid hK
  have HQ := Lib.hid hQ
  have HLEN := Lib.hid hK.len
  have HP := Lib.hid hp
  clear ht hN hK hQ hp
  go_enter Tryd.func5, Tryd.ntmps5
  go_wp2_with fail
  refine HPUT.out.mono ?_
  rintro e w1 ⟨A1, l1, c1, rfl, hN1, hb1⟩
  have hbx := Box.new w1 (.int .u8 25) (.int .u64 0) (.string ⟨#[]⟩) (.slice A1 l1 c1)
  have hba : Below w1.heap.size w1 (w1.alloc (.cells #[.int .u8 25, .int .u64 0, .string ⟨#[]⟩, .slice A1 l1 c1] 25)) := (Below.refl _ _).alloc (Nat.le_refl _) _
  have HBX := Lib.hid hbx
  have HB1 := Lib.hid (below_next hb1 hba)
  have HN1 := Lib.hid (hN1.call hba)
  clear hb1 hba hbx hN1
  go_wp2_with fail
  have hLL := large_any _ _ l c _ (by have := HN.out; omega) (HK.out.call HB1.out)
  rw [HP.out] at hLL
  refine hLL.mono ?_
  rintro e w2 ⟨rfl, hb2⟩
  obtain ⟨z0, z1, z2, z3, _⟩ := (HBX.out.call hb2).all
  have HB2 := Lib.hid (below_next HB1.out hb2)
  have HN2 := Lib.hid (HN1.out.call hb2)
  have HBX2 := Lib.hid (HBX.out.call hb2)
  clear hb2 HBX HN1 HB1 hLL
  cases p with
  | true =>
    go_wp2_with fail
    refine (works7_any _ (HT.out.call HB2.out)).mono ?_
    rintro e w3 ⟨rfl, hb3⟩
    go_wp2_with fail
    go_ret
    exact ⟨rfl, below_next HB2.out hb3⟩
  | false =>
  have hbp := bulk_put 5 ls
  have hRR : Calls Tryd.prog 23 #[.agg #[.int .u8 25, .int .u64 0, .string ⟨#[]⟩, .slice A1 l1 c1]] w2 (GivesB (okB (.mk 25 0 ⟨#[]⟩ (putL 5 (trim ls)))) w2) := vright_any 25 0 ⟨#[]⟩ (putL 5 (trim ls)) A1 l1 c1 w2 (by have := HN.out; omega) (by simp [ByteArray.size]) (by omega) HN2.out.kd (HT.out.call HB2.out)
  have HRR := Lib.hid hRR
  have HBP := Lib.hid hbp
  clear hRR hbp
  go_wp2_with fail
  refine HRR.out.mono ?_
  rintro e w3 ⟨rfl, hb3⟩
  obtain ⟨y0, y1, y2, y3, _⟩ := (HBX2.out.call hb3).all
  have HB3 := Lib.hid (below_next HB2.out hb3)
  have HN3 := Lib.hid (HN2.out.call hb3)
  clear hb3 HN2 HBX2 HRR z0 z1 z2 z3
  cases hok : okB (.mk 25 0 ⟨#[]⟩ (putL 5 (trim ls))) with
  | false =>
    clear hok
    go_wp2_with fail
    refine (works7_any _ (HT.out.call HB3.out)).mono ?_
    rintro e w4 ⟨rfl, hb4⟩
    go_wp2_with fail
    go_ret
    exact ⟨rfl, below_next HB3.out hb4⟩
  | true =>
  have hNW : Calls Tryd.prog 11 #[.agg #[.int .u8 25, .int .u64 0, .string ⟨#[]⟩, .slice A1 l1 c1], .int .u64 5, .string ⟨#[]⟩] w3 (GivesNew (newR (.mk 25 0 ⟨#[]⟩ (putL 5 (trim ls))) 5 ⟨#[]⟩) w3) := new_any25 (putL 5 (trim ls)) A1 l1 c1 5 ⟨#[]⟩ w3 (by have := HN.out; have := HBP.out; omega) HN3.out.kd (HT.out.call HB3.out)
  rw [new_put hok] at hNW
  have HNW := Lib.hid hNW
  clear hNW hok
  by_cases hbig : nq ≤ 60
  · have hd60 : decide (60 < (nq : Int)) = false := decide_eq_false (by omega)
    have HBIG := Lib.hid hbig
    clear hbig
    go_wp2_with fail
    refine HNW.out.mono ?_
    rintro e w4 ⟨g, Af, lf, cf, rfl, hg, hF, _, hb4⟩
    have HS4 : Hid (SP w w4 g ls Af lf cf false A l c qs Aq nq) := Lib.hid ⟨⟨hF, below_next HB3.out hb4, Nat.le_trans HB3.out.size hg⟩, HK.out.keep fun i hi => (below_next HB3.out hb4).block i hi, HQ.out, HT.out⟩
    clear hg hF hb4 y0 y1 y2 y3 HNW HN3
    go_wp2
    go_loopw [8, 9] (fun b i wr => ∃ (sp : Bool) (j : Nat), j ≤ nq ∧ b = .bool sp ∧ i = .int .i64 j ∧ SP w wr g ls Af lf cf sp A l c qs Aq nq) (fun _ i _ => nq - (intOf i).toNat)
    case atStart => exact ⟨false, 0, Nat.zero_le _, rfl, rfl, HS4.out⟩
    case round =>
      obtain ⟨sp, j, hj, rfl, rfl, hS⟩ := hrel
      have HS := Lib.hid hS
      have HB60 := HBIG.out
      by_cases hlt : j < nq
      · obtain ⟨bq, oq, q, KA, kl, kc, hAq, hbq, hx, c0, c1, c2, c3, c4, c5, hz, hKi⟩ := hS.qs.2 j hlt
        subst hAq
        obtain ⟨what, qi, kind, must, z, L⟩ := q
        simp only at c0 c1 c2 c3 c4 hz hKi
        replace c0 := (hS.ws.low.cell (p := ⟨bq, oq + j * 6, none⟩) hbq).trans c0
        replace c1 := (hS.ws.low.cell (p := ⟨bq, oq + j * 6 + 1, none⟩) hbq).trans c1
        replace c2 := (hS.ws.low.cell (p := ⟨bq, oq + j * 6 + 2, none⟩) hbq).trans c2
        replace c3 := (hS.ws.low.cell (p := ⟨bq, oq + j * 6 + 3, none⟩) hbq).trans c3
        replace c4 := (hS.ws.low.cell (p := ⟨bq, oq + j * 6 + 4, none⟩) hbq).trans c4
        replace c5 := (hS.ws.low.cell (p := ⟨bq, oq + j * 6 + 5, none⟩) hbq).trans c5
        have HKI := Lib.hid hKi
        have hbe : Below wr.heap.size wr (wr.alloc (.cells #[.int .i64 what, .int .i64 qi, .int .u8 (kind : Int), .bool must, .int .u64 (z : Int), .slice KA kl kc] 44)) := (Below.refl _ _).alloc (Nat.le_refl _) _
        have hb6 : Bx6 (wr.alloc (.cells #[.int .i64 what, .int .i64 qi, .int .u8 (kind : Int), .bool must, .int .u64 (z : Int), .slice KA kl kc] 44)) wr.heap.size (.int .i64 what) (.int .i64 qi) (.int .u8 (kind : Int)) (.bool must) (.int .u64 (z : Int)) (.slice KA kl kc) := heap_alloc_new wr _
        have hSq := HS.out.call hbe
        obtain ⟨wq, hwq⟩ : ∃ x, wr.alloc (.cells #[.int .i64 what, .int .i64 qi, .int .u8 (kind : Int), .bool must, .int .u64 (z : Int), .slice KA kl kc] 44) = x := ⟨_, rfl⟩
        rw [hwq] at hb6 hSq
        obtain ⟨gq, hgq⟩ : ∃ x, wr.heap.size = x := ⟨_, rfl⟩
        rw [hgq] at hb6
        have hgl : g < gq := by have := HS.out.ws.fld.lt; omega
        have HB6 := Lib.hid hb6
        have HSQ := Lib.hid hSq
        have HGL := Lib.hid hgl
        have HWQ := Lib.hid hwq
        have HGQ := Lib.hid hgq
        clear hS hx hz hKi hbe hb6 hSq hgl hwq hgq
        have htt : ∀ k' : Nat, ∃ b, badR ls qi k' must = b := fun _ => ⟨_, rfl⟩
        by_cases hw1 : what = 1
        · subst hw1
          obtain ⟨bb, hbb⟩ := htt kind
          have HBB := Lib.hid hbb
          obtain ⟨T, hT⟩ : ∃ T, (Fl.ask ls qi).isSome = T := ⟨_, rfl⟩
          have HTT := Lib.hid hT
          clear hbb hT htt
          go_upto_region 16 with fail
          have hgq := HGQ.out
          have hwq := HWQ.out
          rw [hgq, hwq]
          clear c0 c1 c2 c3 c4 c5 hgq hwq
          obtain ⟨x0, x1, x2, x3, x4, x5⟩ := HB6.out.all
          go_cut [12] (fun s wx => s = .bool T ∧ wx = wq)
          case first =>
            by_cases hi0 : qi < 0
            · have hd : decide (0 ≤ qi) = false := decide_eq_false (by omega)
              have hTf : T = false := by rw [← HTT.out, ask_neg hi0]; rfl
              subst hTf
              clear hi0
              go_wp2_with fail
              go_meet
              exact ⟨rfl, rfl⟩
            · obtain ⟨j', rfl⟩ : ∃ j' : Nat, qi = (j' : Int) := ⟨qi.toNat, by omega⟩
              have hd : decide (0 ≤ (j' : Int)) = true := decide_eq_true (by omega)
              by_cases hi1 : j' < l
              · obtain ⟨bv, ov, kv, nv, tv, ksv, Av, lv, cv, hAv, hbv, hxv, y0, y1, y2, y3, hkv, hnv, hKv⟩ := HSQ.out.kdn.at_ hi1
                subst hAv
                have hd2 : decide ((j' : Int) < (l : Int)) = true := decide_eq_true (by omega)
                obtain ⟨u, hu⟩ : ∃ u, ((kv : Int) != 1) = u := ⟨_, rfl⟩
                have hTu : T = u := by
                  rw [← HTT.out, ← hu]
                  by_cases hk1 : kv = 1
                  · subst hk1; rw [ask_null hxv]; rfl
                  · rw [ask_there hxv hk1]; simp; omega
                subst hTu
                clear hi0 hxv hkv hnv hKv
                go_wp2_with fail
                go_meet
                exact ⟨by simp, rfl⟩
              · have hd2 : decide ((j' : Int) < (l : Int)) = false := decide_eq_false (by omega)
                have hTf : T = false := by rw [← HTT.out, ask_far (by have := HLEN.out; omega)]; rfl
                subst hTf
                clear hi0
                go_wp2_with fail
                go_meet
                exact ⟨rfl, rfl⟩
          case rest =>
            obtain ⟨rfl, rfl⟩ := hcut
            go_upto_region 17 with fail
            go_cut [8] (fun s wx => s = .bool (sp || bb) ∧ wx = wc)
            case first =>
              cases sp with
              | true =>
                go_wp2_with fail
                go_meet
                exact ⟨by simp, rfl⟩
              | false =>
              cases T with
              | false =>
                have hbm : bb = must := by
                  rw [← HBB.out]
                  exact bad_none (by cases ha : Fl.ask ls qi with | none => rfl | some v => have := HTT.out; rw [ha] at this; cases this)
                subst hbm
                cases bb with
                | true =>
                  go_wp2_with fail
                  go_meet
                  exact ⟨rfl, rfl⟩
                | false =>
                  go_wp2_with fail
                  go_meet
                  exact ⟨rfl, rfl⟩
              | true =>
                obtain ⟨v, hav⟩ : ∃ v, Fl.ask ls qi = some v := by
                  cases ha : Fl.ask ls qi with
                  | none => have := HTT.out; rw [ha] at this; cases this
                  | some v => exact ⟨v, rfl⟩
                have hbv := bad_some (kind := kind) (must := must) hav
                obtain ⟨j', rfl, hj1, hxv0, _⟩ := ask_some hav
                obtain ⟨bv, ov, kv, nv, tv, ksv, Av, lv, cv, hAv, hbvl, hxv, y0, y1, y2, y3, hkv, hnv, hKv⟩ := HSQ.out.kdn.at_ (i := j') (by have := HLEN.out; omega)
                subst hAv
                have hlt' : j' < l := by have := HLEN.out; omega
                have hvv : v = .mk kv nv tv ksv := by rw [hxv0] at hxv; injection hxv
                have hu : ((kv : Int) != (kind : Int)) = bb := by
                  rw [← HBB.out, hbv, hvv]
                  by_cases hk1 : kv = kind
                  · rw [hk1]; simp [V.kind]
                  · simp [V.kind, hk1]; omega
                clear hav hbv hj1 hxv0 hxv hkv hnv hKv hvv
                go_wp2_with fail
                go_meet
                exact ⟨by simp, rfl⟩
            case rest =>
              obtain ⟨rfl, rfl⟩ := hcut
              obtain ⟨X, hX⟩ : ∃ X, (sp || bb) = X := ⟨_, rfl⟩
              have hXX : (X || bb) = X := by rw [← hX]; cases sp <;> cases bb <;> rfl
              obtain ⟨td1, sd1, hd1⟩ : ∃ td sd, doesR (trim ls) ⟨1, qi, kind, must, z, L⟩ sp = (td, sd) := ⟨_, _, rfl⟩
              have hs1 : sd1 = X := by
                have := does1 ls qi kind must z L sp
                rw [hd1, HBB.out, hX] at this
                exact this
              subst hs1
              obtain ⟨td2, sd2, hd2⟩ : ∃ td sd, doesR (trim ls) ⟨1, qi, kind, must, z, L⟩ sd1 = (td, sd) := ⟨_, _, rfl⟩
              have hs2 : sd2 = sd1 := by
                have := does1 ls qi kind must z L sd1
                rw [hd2, HBB.out, hXX] at this
                exact this
              subst hs2
              have HD2 := Lib.hid hd2
              have HNT : Hid (bulkL (trim ls) ≤ 1073741824) := Lib.hid (by have := bulk_take ls (cutN ls ls.length); have := HN.out; unfold trim; omega)
              have HDA := Lib.hid (does_any HSQ.out.ws.fld ⟨1, qi, kind, must, z, L⟩ KA kl kc (HKI.out.call HSQ.out.ws.low) HNT.out td1 hd1)
              rw [hX]
              clear hd1 hd2 hX hXX
              go_wp2_with fail
              refine HDA.out.mono ?_
              rintro e w5 ⟨r5, rfl, _, ho5, hF5⟩
              have HS5 := Lib.hid (HSQ.out.next ho5 hF5)
              have HB65 := Lib.hid (HB6.out.off ho5 (by have := HGL.out; omega))
              obtain ⟨x0, x1, x2, x3, x4, x5⟩ := HB65.out.all
              have HDA5 := Lib.hid (does_any HS5.out.ws.fld ⟨1, qi, kind, must, z, L⟩ KA kl kc (HKI.out.call HS5.out.ws.low) HNT.out td2 HD2.out)
              clear ho5 hF5
              go_wp2_with fail
              refine HDA5.out.mono ?_
              rintro e w6 ⟨r6, rfl, _, ho6, hF6⟩
              have HS6 := Lib.hid (HS5.out.next ho6 hF6)
              clear ho6 hF6 x0 x1 x2 x3 x4 x5
              have hdn := done_any HS6.out.ws.fld (l : Int)
              rw [HLEN.out, done_trim, ← HLEN.out] at hdn
              have HDN := Lib.hid hdn
              clear hdn
              cases sd2 with
              | true =>
                go_wp2_with fail
                refine HDN.out.mono ?_
                rintro e w7 ⟨rfl, rfl⟩
                go_wp2_with fail
                go_roundw
                case rel =>
                  exact ⟨true, j + 1, by omega, rfl, by go_num, HS6.out⟩
                case measure => simp [intOf]; omega
              | false =>
                go_wp2_with fail
                refine HDN.out.mono ?_
                rintro e w7 ⟨rfl, rfl⟩
                go_wp2_with fail
                go_roundw
                case rel =>
                  exact ⟨false, j + 1, by omega, rfl, by go_num, HS6.out⟩
                case measure => simp [intOf]; omega
        by_cases hw2 : what = 2
        · subst hw2
          obtain ⟨bb, hbb⟩ := htt 2
          have HBB := Lib.hid hbb
          obtain ⟨T, hT⟩ : ∃ T, (Fl.ask ls qi).isSome = T := ⟨_, rfl⟩
          have HTT := Lib.hid hT
          clear hbb hT htt hw1
          go_upto_region 16 with fail
          have hgq := HGQ.out
          have hwq := HWQ.out
          rw [hgq, hwq]
          clear c0 c1 c2 c3 c4 c5 hgq hwq
          obtain ⟨x0, x1, x2, x3, x4, x5⟩ := HB6.out.all
          go_cut [12] (fun s wx => s = .bool T ∧ wx = wq)
          case first =>
            by_cases hi0 : qi < 0
            · have hd : decide (0 ≤ qi) = false := decide_eq_false (by omega)
              have hTf : T = false := by rw [← HTT.out, ask_neg hi0]; rfl
              subst hTf
              clear hi0
              go_wp2_with fail
              go_meet
              exact ⟨rfl, rfl⟩
            · obtain ⟨j', rfl⟩ : ∃ j' : Nat, qi = (j' : Int) := ⟨qi.toNat, by omega⟩
              have hd : decide (0 ≤ (j' : Int)) = true := decide_eq_true (by omega)
              by_cases hi1 : j' < l
              · obtain ⟨bv, ov, kv, nv, tv, ksv, Av, lv, cv, hAv, hbv, hxv, y0, y1, y2, y3, hkv, hnv, hKv⟩ := HSQ.out.kdn.at_ hi1
                subst hAv
                have hd2 : decide ((j' : Int) < (l : Int)) = true := decide_eq_true (by omega)
                obtain ⟨u, hu⟩ : ∃ u, ((kv : Int) != 1) = u := ⟨_, rfl⟩
                have hTu : T = u := by
                  rw [← HTT.out, ← hu]
                  by_cases hk1 : kv = 1
                  · subst hk1; rw [ask_null hxv]; rfl
                  · rw [ask_there hxv hk1]; simp; omega
                subst hTu
                clear hi0 hxv hkv hnv hKv
                go_wp2_with fail
                go_meet
                exact ⟨by simp, rfl⟩
              · have hd2 : decide ((j' : Int) < (l : Int)) = false := decide_eq_false (by omega)
                have hTf : T = false := by rw [← HTT.out, ask_far (by have := HLEN.out; omega)]; rfl
                subst hTf
                clear hi0
                go_wp2_with fail
                go_meet
                exact ⟨rfl, rfl⟩
          case rest =>
            obtain ⟨rfl, rfl⟩ := hcut
            go_upto_region 17 with fail
            go_cut [8] (fun s wx => s = .bool (sp || bb) ∧ wx = wc)
            case first =>
              cases sp with
              | true =>
                go_wp2_with fail
                go_meet
                exact ⟨by simp, rfl⟩
              | false =>
              cases T with
              | false =>
                have hbm : bb = must := by
                  rw [← HBB.out]
                  exact bad_none (by cases ha : Fl.ask ls qi with | none => rfl | some v => have := HTT.out; rw [ha] at this; cases this)
                subst hbm
                cases bb with
                | true =>
                  go_wp2_with fail
                  go_meet
                  exact ⟨rfl, rfl⟩
                | false =>
                  go_wp2_with fail
                  go_meet
                  exact ⟨rfl, rfl⟩
              | true =>
                obtain ⟨v, hav⟩ : ∃ v, Fl.ask ls qi = some v := by
                  cases ha : Fl.ask ls qi with
                  | none => have := HTT.out; rw [ha] at this; cases this
                  | some v => exact ⟨v, rfl⟩
                have hbv := bad_some (kind := 2) (must := must) hav
                obtain ⟨j', rfl, hj1, hxv0, _⟩ := ask_some hav
                obtain ⟨bv, ov, kv, nv, tv, ksv, Av, lv, cv, hAv, hbvl, hxv, y0, y1, y2, y3, hkv, hnv, hKv⟩ := HSQ.out.kdn.at_ (i := j') (by have := HLEN.out; omega)
                subst hAv
                have hlt' : j' < l := by have := HLEN.out; omega
                have hvv : v = .mk kv nv tv ksv := by rw [hxv0] at hxv; injection hxv
                have hu : ((kv : Int) != 2) = bb := by
                  rw [← HBB.out, hbv, hvv]
                  by_cases hk1 : kv = 2
                  · rw [hk1]; simp [V.kind]
                  · simp [V.kind, hk1]; omega
                clear hav hbv hj1 hxv0 hxv hkv hnv hKv hvv
                go_wp2_with fail
                go_meet
                exact ⟨by simp, rfl⟩
            case rest =>
              obtain ⟨rfl, rfl⟩ := hcut
              obtain ⟨X, hX⟩ : ∃ X, (sp || bb) = X := ⟨_, rfl⟩
              have hXX : (X || bb) = X := by rw [← hX]; cases sp <;> cases bb <;> rfl
              obtain ⟨td1, sd1, hd1⟩ : ∃ td sd, doesR (trim ls) ⟨2, qi, kind, must, z, L⟩ sp = (td, sd) := ⟨_, _, rfl⟩
              have hs1 : sd1 = X := by
                have := does2 ls qi kind must z L sp
                rw [hd1, HBB.out, hX] at this
                exact this
              subst hs1
              obtain ⟨td2, sd2, hd2⟩ : ∃ td sd, doesR (trim ls) ⟨2, qi, kind, must, z, L⟩ sd1 = (td, sd) := ⟨_, _, rfl⟩
              have hs2 : sd2 = sd1 := by
                have := does2 ls qi kind must z L sd1
                rw [hd2, HBB.out, hXX] at this
                exact this
              subst hs2
              have HD2 := Lib.hid hd2
              have HNT : Hid (bulkL (trim ls) ≤ 1073741824) := Lib.hid (by have := bulk_take ls (cutN ls ls.length); have := HN.out; unfold trim; omega)
              have HDA := Lib.hid (does_any HSQ.out.ws.fld ⟨2, qi, kind, must, z, L⟩ KA kl kc (HKI.out.call HSQ.out.ws.low) HNT.out td1 hd1)
              rw [hX]
              clear hd1 hd2 hX hXX
              go_wp2_with fail
              refine HDA.out.mono ?_
              rintro e w5 ⟨r5, rfl, _, ho5, hF5⟩
              have HS5 := Lib.hid (HSQ.out.next ho5 hF5)
              have HB65 := Lib.hid (HB6.out.off ho5 (by have := HGL.out; omega))
              obtain ⟨x0, x1, x2, x3, x4, x5⟩ := HB65.out.all
              have HDA5 := Lib.hid (does_any HS5.out.ws.fld ⟨2, qi, kind, must, z, L⟩ KA kl kc (HKI.out.call HS5.out.ws.low) HNT.out td2 HD2.out)
              clear ho5 hF5
              go_wp2_with fail
              refine HDA5.out.mono ?_
              rintro e w6 ⟨r6, rfl, _, ho6, hF6⟩
              have HS6 := Lib.hid (HS5.out.next ho6 hF6)
              clear ho6 hF6 x0 x1 x2 x3 x4 x5
              have hdn := done_any HS6.out.ws.fld (l : Int)
              rw [HLEN.out, done_trim, ← HLEN.out] at hdn
              have HDN := Lib.hid hdn
              clear hdn
              cases sd2 with
              | true =>
                go_wp2_with fail
                refine HDN.out.mono ?_
                rintro e w7 ⟨rfl, rfl⟩
                go_wp2_with fail
                go_roundw
                case rel =>
                  exact ⟨true, j + 1, by omega, rfl, by go_num, HS6.out⟩
                case measure => simp [intOf]; omega
              | false =>
                go_wp2_with fail
                refine HDN.out.mono ?_
                rintro e w7 ⟨rfl, rfl⟩
                go_wp2_with fail
                go_roundw
                case rel =>
                  exact ⟨false, j + 1, by omega, rfl, by go_num, HS6.out⟩
                case measure => simp [intOf]; omega
        by_cases hw3 : what = 3
        · subst hw3
          obtain ⟨bb, hbb⟩ := htt kind
          have HBB := Lib.hid hbb
          obtain ⟨T, hT⟩ : ∃ T, (Fl.ask ls qi).isSome = T := ⟨_, rfl⟩
          have HTT := Lib.hid hT
          clear hbb hT htt hw1 hw2
          go_upto_region 16 with fail
          have hgq := HGQ.out
          have hwq := HWQ.out
          rw [hgq, hwq]
          clear c0 c1 c2 c3 c4 c5 hgq hwq
          obtain ⟨x0, x1, x2, x3, x4, x5⟩ := HB6.out.all
          go_cut [12] (fun s wx => s = .bool T ∧ wx = wq)
          case first =>
            by_cases hi0 : qi < 0
            · have hd : decide (0 ≤ qi) = false := decide_eq_false (by omega)
              have hTf : T = false := by rw [← HTT.out, ask_neg hi0]; rfl
              subst hTf
              clear hi0
              go_wp2_with fail
              go_meet
              exact ⟨rfl, rfl⟩
            · obtain ⟨j', rfl⟩ : ∃ j' : Nat, qi = (j' : Int) := ⟨qi.toNat, by omega⟩
              have hd : decide (0 ≤ (j' : Int)) = true := decide_eq_true (by omega)
              by_cases hi1 : j' < l
              · obtain ⟨bv, ov, kv, nv, tv, ksv, Av, lv, cv, hAv, hbv, hxv, y0, y1, y2, y3, hkv, hnv, hKv⟩ := HSQ.out.kdn.at_ hi1
                subst hAv
                have hd2 : decide ((j' : Int) < (l : Int)) = true := decide_eq_true (by omega)
                obtain ⟨u, hu⟩ : ∃ u, ((kv : Int) != 1) = u := ⟨_, rfl⟩
                have hTu : T = u := by
                  rw [← HTT.out, ← hu]
                  by_cases hk1 : kv = 1
                  · subst hk1; rw [ask_null hxv]; rfl
                  · rw [ask_there hxv hk1]; simp; omega
                subst hTu
                clear hi0 hxv hkv hnv hKv
                go_wp2_with fail
                go_meet
                exact ⟨by simp, rfl⟩
              · have hd2 : decide ((j' : Int) < (l : Int)) = false := decide_eq_false (by omega)
                have hTf : T = false := by rw [← HTT.out, ask_far (by have := HLEN.out; omega)]; rfl
                subst hTf
                clear hi0
                go_wp2_with fail
                go_meet
                exact ⟨rfl, rfl⟩
          case rest =>
            obtain ⟨rfl, rfl⟩ := hcut
            go_upto_region 17 with fail
            go_cut [8] (fun s wx => s = .bool (sp || bb) ∧ wx = wc)
            case first =>
              cases sp with
              | true =>
                go_wp2_with fail
                go_meet
                exact ⟨by simp, rfl⟩
              | false =>
              cases T with
              | false =>
                have hbm : bb = must := by
                  rw [← HBB.out]
                  exact bad_none (by cases ha : Fl.ask ls qi with | none => rfl | some v => have := HTT.out; rw [ha] at this; cases this)
                subst hbm
                cases bb with
                | true =>
                  go_wp2_with fail
                  go_meet
                  exact ⟨rfl, rfl⟩
                | false =>
                  go_wp2_with fail
                  go_meet
                  exact ⟨rfl, rfl⟩
              | true =>
                obtain ⟨v, hav⟩ : ∃ v, Fl.ask ls qi = some v := by
                  cases ha : Fl.ask ls qi with
                  | none => have := HTT.out; rw [ha] at this; cases this
                  | some v => exact ⟨v, rfl⟩
                have hbv := bad_some (kind := kind) (must := must) hav
                obtain ⟨j', rfl, hj1, hxv0, _⟩ := ask_some hav
                obtain ⟨bv, ov, kv, nv, tv, ksv, Av, lv, cv, hAv, hbvl, hxv, y0, y1, y2, y3, hkv, hnv, hKv⟩ := HSQ.out.kdn.at_ (i := j') (by have := HLEN.out; omega)
                subst hAv
                have hlt' : j' < l := by have := HLEN.out; omega
                have hvv : v = .mk kv nv tv ksv := by rw [hxv0] at hxv; injection hxv
                have hu : ((kv : Int) != (kind : Int)) = bb := by
                  rw [← HBB.out, hbv, hvv]
                  by_cases hk1 : kv = kind
                  · rw [hk1]; simp [V.kind]
                  · simp [V.kind, hk1]; omega
                clear hav hbv hj1 hxv0 hxv hkv hnv hKv hvv
                go_wp2_with fail
                go_meet
                exact ⟨by simp, rfl⟩
            case rest =>
              obtain ⟨rfl, rfl⟩ := hcut
              obtain ⟨X, hX⟩ : ∃ X, (sp || bb) = X := ⟨_, rfl⟩
              have hXX : (X || bb) = X := by rw [← hX]; cases sp <;> cases bb <;> rfl
              obtain ⟨td1, sd1, hd1⟩ : ∃ td sd, doesR (trim ls) ⟨3, qi, kind, must, z, L⟩ sp = (td, sd) := ⟨_, _, rfl⟩
              have hs1 : sd1 = X := by
                have := does3 ls qi kind must z L sp
                rw [hd1, HBB.out, hX] at this
                exact this
              subst hs1
              obtain ⟨td2, sd2, hd2⟩ : ∃ td sd, doesR (trim ls) ⟨3, qi, kind, must, z, L⟩ sd1 = (td, sd) := ⟨_, _, rfl⟩
              have hs2 : sd2 = sd1 := by
                have := does3 ls qi kind must z L sd1
                rw [hd2, HBB.out, hXX] at this
                exact this
              subst hs2
              have HD2 := Lib.hid hd2
              have HNT : Hid (bulkL (trim ls) ≤ 1073741824) := Lib.hid (by have := bulk_take ls (cutN ls ls.length); have := HN.out; unfold trim; omega)
              have HDA := Lib.hid (does_any HSQ.out.ws.fld ⟨3, qi, kind, must, z, L⟩ KA kl kc (HKI.out.call HSQ.out.ws.low) HNT.out td1 hd1)
              rw [hX]
              clear hd1 hd2 hX hXX
              go_wp2_with fail
              refine HDA.out.mono ?_
              rintro e w5 ⟨r5, rfl, _, ho5, hF5⟩
              have HS5 := Lib.hid (HSQ.out.next ho5 hF5)
              have HB65 := Lib.hid (HB6.out.off ho5 (by have := HGL.out; omega))
              obtain ⟨x0, x1, x2, x3, x4, x5⟩ := HB65.out.all
              have HDA5 := Lib.hid (does_any HS5.out.ws.fld ⟨3, qi, kind, must, z, L⟩ KA kl kc (HKI.out.call HS5.out.ws.low) HNT.out td2 HD2.out)
              clear ho5 hF5
              go_wp2_with fail
              refine HDA5.out.mono ?_
              rintro e w6 ⟨r6, rfl, _, ho6, hF6⟩
              have HS6 := Lib.hid (HS5.out.next ho6 hF6)
              clear ho6 hF6 x0 x1 x2 x3 x4 x5
              have hdn := done_any HS6.out.ws.fld (l : Int)
              rw [HLEN.out, done_trim, ← HLEN.out] at hdn
              have HDN := Lib.hid hdn
              clear hdn
              cases sd2 with
              | true =>
                go_wp2_with fail
                refine HDN.out.mono ?_
                rintro e w7 ⟨rfl, rfl⟩
                go_wp2_with fail
                go_roundw
                case rel =>
                  exact ⟨true, j + 1, by omega, rfl, by go_num, HS6.out⟩
                case measure => simp [intOf]; omega
              | false =>
                go_wp2_with fail
                refine HDN.out.mono ?_
                rintro e w7 ⟨rfl, rfl⟩
                go_wp2_with fail
                go_roundw
                case rel =>
                  exact ⟨false, j + 1, by omega, rfl, by go_num, HS6.out⟩
                case measure => simp [intOf]; omega
        · have e1 : (what != 1) = true := by simp [hw1]
          have e2 : (what != 2) = true := by simp [hw2]
          have e3 : (what != 3) = true := by simp [hw3]
          clear hw1 hw2 hw3 htt
          go_wp2
          go_roundw
          case rel => exact ⟨sp, j + 1, by omega, rfl, by go_num, by rw [HWQ.out]; exact HSQ.out⟩
          case measure => simp [intOf]; omega
      · have hjn : j = nq := by omega
        obtain ⟨a0, a1, af⟩ := hS.ws.fld.cells
        clear hS
        go_wp2_with fail
        refine (spoil_F HS.out.ws.fld).mono ?_
        rintro e w5 ⟨⟨v, rfl⟩, ho5, hF5⟩
        have HS5 := Lib.hid (HS.out.next ho5 hF5)
        clear ho5 hF5 a0 a1 af
        go_wp2_with fail
        have hdn := done_any HS5.out.ws.fld (l : Int)
        rw [HLEN.out, done_trim, if_pos rfl, ← HLEN.out] at hdn
        refine hdn.mono ?_
        rintro e w6 ⟨rfl, rfl⟩
        clear hdn
        go_wp2_with fail
        refine (works7_any _ HS5.out.tabn).mono ?_
        rintro e w7 ⟨rfl, hb7⟩
        go_wp2_with fail
        go_ret
        exact ⟨rfl, below_next HS5.out.ws.low hb7⟩
  · have hd60 : decide (60 < (nq : Int)) = true := decide_eq_true (by omega)
    clear hbig
    go_wp2_with fail
    refine (works7_any _ (HT.out.call HB3.out)).mono ?_
    rintro e w4 ⟨rfl, hb4⟩
    go_wp2_with fail
    go_ret
    exact ⟨rfl, below_next HB3.out hb4⟩
end Go.Proofs.YtnojhgpaplecgaaDoor.fieldsSpoils
