/-
  Contract of the program's outcome.Get. Memory that was there stays. Conditions: the table utf.shapes lies as the program's text lays it; values of bulk at most 2^28.
-/
import Derived.Test.YtobnbgbijdhjjaaDoorOcf
import Derived.Laws.EntriesVeiled
import Derived.WalkMore
namespace Go.Proofs.YtobnbgbijdhjjaaDoor.Oc
set_option maxRecDepth 100000
open Go.RowKit Go.Proofs.YtobnbgbijdhjjaaDoor.Utf Go.Proofs.YtobnbgbijdhjjaaDoor.Val Go.Proofs.YtobnbgbijdhjjaaDoor.Fl V

/-- An outcome and an error's number. -/
def GivesOE (o : Option O) (w : World) (e : Ending) (w' : World) : Prop :=
  match o with
  | none => e = .returned (.tuple #[.agg #[.int .u8 0, .int .u64 0, .int .u64 0, .string ⟨#[]⟩], .int .i64 6]) ∧ Below w.heap.size w w'
  | some p => e = .returned (.tuple #[oV p, .int .i64 0]) ∧ Below w.heap.size w w'
/-- A box of one of the five. -/
def B6 (w : World) (g : Nat) (x0 x1 x2 x3 x4 x5 : Value) : Prop := w.heap[g]? = some (.cells #[x0, x1, x2, x3, x4, x5] 84 (0, 0))
section
variable {w w' : World} {g : Nat} {x0 x1 x2 x3 x4 x5 : Value}
theorem B6.lt (h : B6 w g x0 x1 x2 x3 x4 x5) : g < w.heap.size := (Array.getElem?_eq_some_iff.1 h).1
theorem B6.call (h : B6 w g x0 x1 x2 x3 x4 x5) (hb : Below w.heap.size w w') : B6 w' g x0 x1 x2 x3 x4 x5 := (hb.block g h.lt).trans h
theorem B6.off {X : Nat → Prop} (h : B6 w g x0 x1 x2 x3 x4 x5) (ho : Off X w w') (hX : ¬ X g) : B6 w' g x0 x1 x2 x3 x4 x5 := (ho.block g h.lt hX).trans h
theorem B6.all (h : B6 w g x0 x1 x2 x3 x4 x5) : w.cell? ⟨g, 0, none⟩ = some x0 ∧ w.cell? ⟨g, 1, none⟩ = some x1 ∧ w.cell? ⟨g, 2, none⟩ = some x2 ∧ w.cell? ⟨g, 3, none⟩ = some x3 ∧ w.cell? ⟨g, 4, none⟩ = some x4 ∧ w.cell? ⟨g, 5, none⟩ = some x5 :=
  ⟨cell_of_row w g 0 _ _ _ h, cell_of_row w g 1 _ _ _ h, cell_of_row w g 2 _ _ _ h, cell_of_row w g 3 _ _ _ h, cell_of_row w g 4 _ _ _ h, cell_of_row w g 5 _ _ _ h⟩
end
theorem five_drop {j : Nat} (hj : j < 5) : ([1, 2, 3, 4, 5] : List Nat).drop j = (j + 1) :: ([1, 2, 3, 4, 5] : List Nat).drop (j + 1) := by
  have hj' : j = 0 ∨ j = 1 ∨ j = 2 ∨ j = 3 ∨ j = 4 := by omega
  rcases hj' with rfl | rfl | rfl | rfl | rfl <;> rfl
theorem first_hit {v : V} {j : Nat} {ls : List V} (hj : j < 5) (h : newR v (34 + (j + 1)) (oname (j + 1)) = some ls) : firstR v (([1, 2, 3, 4, 5] : List Nat).drop j) = some (j + 1, ls) := by
  rw [five_drop hj]
  unfold firstR
  rw [h]
theorem first_miss {v : V} {j : Nat} (hj : j < 5) (h : newR v (34 + (j + 1)) (oname (j + 1)) = none) : firstR v (([1, 2, 3, 4, 5] : List Nat).drop j) = firstR v (([1, 2, 3, 4, 5] : List Nat).drop (j + 1)) := by
  rw [five_drop hj]
  conv => lhs; unfold firstR
  rw [h]
theorem get_null {v : V} (h : v.kind = 1) : getR v = some ⟨0, 0, 0, ⟨#[]⟩⟩ := if_pos h
theorem get_miss {v : V} (h : ¬ v.kind = 1) (hf : firstR v [1, 2, 3, 4, 5] = none) : getR v = none := by unfold getR; rw [if_neg h, hf]
theorem get_hit {v : V} {k : Nat} {ls : List V} (h : ¬ v.kind = 1) (hf : firstR v [1, 2, 3, 4, 5] = some (k, ls)) : getR v = readO k ls := by unfold getR; rw [if_neg h, hf]
/-- What is kept while an outcome is got: the value's box, the answer's box, the outcome's box, the five. -/
structure SH (w wi : World) (k n : Nat) (t : ByteArray) (A : Option Addr) (l c : Nat) (g o : Nat) : Prop where
  b1 : Box wi w.heap.size (.int .u8 (k : Int)) (.int .u64 (n : Int)) (.string t) (.slice A l c)
  b2 : BxO wi (w.heap.size + 1) (.int .u8 0) (.int .u64 0) (.int .u64 0) (.string ⟨#[]⟩)
  b4 : BxO wi (w.heap.size + 1 + 1) (.int .u8 0) (.int .u64 0) (.int .u64 0) (.string ⟨#[]⟩)
  fv : Fv wi g o
  low : Below w.heap.size w wi
section
variable {w wi w' : World} {k n : Nat} {t : ByteArray} {A : Option Addr} {l c : Nat} {g o : Nat}
theorem SH.call (h : SH w wi k n t A l c g o) (hb : Below wi.heap.size wi w') : SH w w' k n t A l c g o := ⟨h.b1.call hb, h.b2.call hb, h.b4.call hb, h.fv.call hb, below_next h.low hb⟩
theorem SH.alloc (h : SH w wi k n t A l c g o) (b : Obj) : SH w (wi.alloc b) k n t A l c g o := h.call ((Below.refl _ _).alloc (Nat.le_refl _) _)
end

/-- What Done answers, of fields of which only the length is asked. -/
theorem done_obj {w : World} {g : Nat} {ls : List V} {A : Option Addr} {l c : Nat} {sp : Bool} (ho : w.heap[g]? = some (.cells #[.slice A l c, .bool sp] 75 (0, 0))) (hl : l = ls.length) (n : Int) : Calls Tryd.prog 17 #[.pointer (some ⟨g, 0, none⟩), .int .i64 n] w fun e w' => e = .returned (.int .i64 (doneN ls sp n)) ∧ w = w' := by
  have a0 : w.cell? ⟨g, 0, none⟩ = some (.slice A l c) := cell_of_row w g 0 _ _ _ ho
  have a1 : w.cell? ⟨g, 1, none⟩ = some (.bool sp) := cell_of_row w g 1 _ _ _ ho
  unfold doneN
  rw [← hl]
  clear ho hl
  cases sp with
  | true =>
    rw [if_pos (.inl rfl)]
    go_enter Tryd.func17, Tryd.ntmps17
    go_wp2
    go_ret
    exact ⟨rfl, rfl⟩
  | false =>
    by_cases hn : n < (l : Int)
    · rw [if_pos (.inr hn)]
      have hd : decide (n < (l : Int)) = true := decide_eq_true hn
      clear hn
      go_enter Tryd.func17, Tryd.ntmps17
      go_wp2
      go_ret
      exact ⟨rfl, rfl⟩
    · rw [if_neg (by simp [hn])]
      have hd : decide (n < (l : Int)) = false := decide_eq_false hn
      clear hn
      go_enter Tryd.func17, Tryd.ntmps17
      go_wp2
      go_ret
      exact ⟨rfl, rfl⟩

set_option maxHeartbeats 2000000 in
theorem oget_any (k n : Nat) (t : ByteArray) (ks : List V) (A : Option Addr) (l c : Nat) (w : World) (hN : bulkL ks ≤ 268435456) (ht : t.size ≤ 268435456) (hn : n < 18446744073709551616) (hK : Kd w ks A l c) (hTab : Tab w) :
    Calls Tryd.prog 23 #[.agg #[.int .u8 (k : Int), .int .u64 (n : Int), .string t, .slice A l c]] w (GivesOE (getR (.mk k n t ks)) w) := by
  have hB : Below w.heap.size w ((w.alloc (.cells #[.int .u8 (k : Int), .int .u64 (n : Int), .string t, .slice A l c] 25)).alloc (.cells #[.int .u8 0, .int .u64 0, .int .u64 0, .string ⟨#[]⟩] 52)) := two_boxes w _ _
  have h1 : Box ((w.alloc (.cells #[.int .u8 (k : Int), .int .u64 (n : Int), .string t, .slice A l c] 25)).alloc (.cells #[.int .u8 0, .int .u64 0, .int .u64 0, .string ⟨#[]⟩] 52)) w.heap.size (.int .u8 (k : Int)) (.int .u64 (n : Int)) (.string t) (.slice A l c) := (Box.new w _ _ _ _).alloc _
  have h2 : BxO ((w.alloc (.cells #[.int .u8 (k : Int), .int .u64 (n : Int), .string t, .slice A l c] 25)).alloc (.cells #[.int .u8 0, .int .u64 0, .int .u64 0, .string ⟨#[]⟩] 52)) (w.heap.size + 1) (.int .u8 0) (.int .u64 0) (.int .u64 0) (.string ⟨#[]⟩) := by
    have := BxO.new (w.alloc (.cells #[.int .u8 (k : Int), .int .u64 (n : Int), .string t, .slice A l c] 25)) (.int .u8 0) (.int .u64 0) (.int .u64 0) (.string ⟨#[]⟩)
    rwa [World.size_alloc] at this
  by_cases hk1 : k = 1
  · have HR := Lib.hid (get_null (v := .mk k n t ks) hk1)
    have HB := Lib.hid hB
    subst hk1
    clear hB h1 h2 hK hTab hN ht hn
    go_enter Tryd.func23, Tryd.ntmps23
    go_wp2
    go_step3
    go_wp2
    try rw [Exit.noGoto_ret]
    refine bodyPost_ret (v := .tuple #[.agg #[.int .u8 0, .int .u64 0, .int .u64 0, .string ⟨#[]⟩], .int .i64 0]) (by simp [results, Tryd.results23, go_sem]) rfl ?_
    rw [HR.out]
    exact ⟨rfl, HB.out⟩
  · have hd : ((k : Int) == 1) = false := by rw [beq_eq_false_iff_ne]; omega
    have hsz : (((w.alloc (.cells #[.int .u8 (k : Int), .int .u64 (n : Int), .string t, .slice A l c] 25)).alloc (.cells #[.int .u8 0, .int .u64 0, .int .u64 0, .string ⟨#[]⟩] 52))).heap.size = w.heap.size + 2 := by simp
    have HW0 := Lib.hid (show Below w.heap.size w (((w.alloc (.cells #[.int .u8 (k : Int), .int .u64 (n : Int), .string t, .slice A l c] 25)).alloc (.cells #[.int .u8 0, .int .u64 0, .int .u64 0, .string ⟨#[]⟩] 52)).alloc (.cells #[.int .u8 0, .int .u64 0, .int .u64 0, .string ⟨#[]⟩] 52)) from hB.alloc (by omega) _)
    have H1 := Lib.hid (h1.alloc (.cells #[.int .u8 0, .int .u64 0, .int .u64 0, .string ⟨#[]⟩] 52))
    have H2 := Lib.hid (h2.call ((Below.refl _ _).alloc (Nat.le_refl _) (.cells #[.int .u8 0, .int .u64 0, .int .u64 0, .string ⟨#[]⟩] 52)))
    have H4 : Hid (BxO (((w.alloc (.cells #[.int .u8 (k : Int), .int .u64 (n : Int), .string t, .slice A l c] 25)).alloc (.cells #[.int .u8 0, .int .u64 0, .int .u64 0, .string ⟨#[]⟩] 52)).alloc (.cells #[.int .u8 0, .int .u64 0, .int .u64 0, .string ⟨#[]⟩] 52)) (w.heap.size + 1 + 1) (.int .u8 0) (.int .u64 0) (.int .u64 0) (.string ⟨#[]⟩)) := Lib.hid (by
      have := BxO.new ((w.alloc (.cells #[.int .u8 (k : Int), .int .u64 (n : Int), .string t, .slice A l c] 25)).alloc (.cells #[.int .u8 0, .int .u64 0, .int .u64 0, .string ⟨#[]⟩] 52)) (.int .u8 0) (.int .u64 0) (.int .u64 0) (.string ⟨#[]⟩)
      rwa [hsz] at this)
    have HNK := Lib.hid (show ¬ (V.mk k n t ks).kind = 1 from hk1)
    have HN := Lib.hid hN
    have HT := Lib.hid ht
    have HNN := Lib.hid hn
    have HK := Lib.hid hK
    have HTab := Lib.hid hTab
    clear hB h1 h2 hsz hN ht hn hK hTab hk1
    go_enter Tryd.func23, Tryd.ntmps23
    go_wp2_with fail
    go_step3
    go_wp2_with fail
    go_step3
    go_wp2_with fail
    refine (five_any _).mono ?_
    rintro e w2 ⟨g, o, rfl, hF, hb2⟩
    have hG : SH w w2 k n t A l c g o := ⟨H1.out.call hb2, H2.out.call hb2, H4.out.call hb2, hF, below_next HW0.out hb2⟩
    have HG := Lib.hid hG
    clear hb2 hF hG H1 H2 H4 HW0
    go_wp2_with fail
    go_loopw [5, 16] (fun s5 s wr => s5 = .int .i64 6 ∧ ∃ j : Nat, j ≤ 5 ∧ s = .int .i64 j ∧ firstR (.mk k n t ks) [1, 2, 3, 4, 5] = firstR (.mk k n t ks) (([1, 2, 3, 4, 5] : List Nat).drop j) ∧ SH w wr k n t A l c g o) (fun _ s _ => 5 - (intOf s).toNat)
    case atStart => exact ⟨rfl, 0, by omega, rfl, rfl, HG.out⟩
    case round =>
      obtain ⟨rfl, j, hj, rfl, hfi, hS⟩ := hrel
      have HFI := Lib.hid hfi
      have HSS := Lib.hid hS
      clear hfi hS HG
      by_cases hlt : j < 5
      · obtain ⟨ft, fr, htl, hrd, _, hef, c0, c1, c2, c3, c4, c5⟩ := HSS.out.fv.2 j hlt
        have hcr : ∀ (args : Array Value) (w : World), (callFunc fr args).run Tryd.prog w = .ok (.enter fr args) w := hef
        obtain ⟨x0, x1, x2, x3, xf⟩ := HSS.out.b1.all
        have hs1 := HSS.out.b1.lt
        have hs4 := HSS.out.b4.lt
        have hne : ¬ w.heap.size = wr.heap.size := by omega
        have HRD := Lib.hid hrd
        obtain ⟨p, hp⟩ : ∃ p, o + j * 6 = p := ⟨_, rfl⟩
        obtain ⟨k', hk'⟩ : ∃ k', j + 1 = k' := ⟨_, rfl⟩
        obtain ⟨cd, hcd⟩ : ∃ cd, 34 + k' = cd := ⟨_, rfl⟩
        obtain ⟨nm, hnm⟩ : ∃ nm, oname k' = nm := ⟨_, rfl⟩
        obtain ⟨mo, hmo⟩ : ∃ mo, mostN k' = mo := ⟨_, rfl⟩
        rw [hk'] at c0 c1 c2 c3 HRD
        rw [hp] at c0 c1 c2 c3 c4 c5
        rw [hcd] at c1
        rw [hnm] at c2
        rw [hmo] at c3
        have HCD := Lib.hid hcd
        have HNM := Lib.hid hnm
        have HMO := Lib.hid hmo
        have HKK := Lib.hid hk'
        clear htl hrd hef hnm hmo hcd hk'
        have HS3 := Lib.hid (SH.alloc HSS.out (.cells #[.int .u8 (k' : Int), .int .u64 (cd : Int), .string nm, .int .i64 mo, .func (.func ft) #[] #[], .func (.func fr) #[] #[]] 84))
        have HB6 : Hid (B6 (wr.alloc (.cells #[.int .u8 (k' : Int), .int .u64 (cd : Int), .string nm, .int .i64 mo, .func (.func ft) #[] #[], .func (.func fr) #[] #[]] 84)) wr.heap.size (.int .u8 (k' : Int)) (.int .u64 (cd : Int)) (.string nm) (.int .i64 mo) (.func (.func ft) #[] #[]) (.func (.func fr) #[] #[])) := Lib.hid (heap_alloc_new wr _)
        have HNW := Lib.hid (new_any k n t ks A l c cd nm (wr.alloc (.cells #[.int .u8 (k' : Int), .int .u64 (cd : Int), .string nm, .int .i64 mo, .func (.func ft) #[] #[], .func (.func fr) #[] #[]] 84)) (by have := HN.out; omega) (by have := HT.out; omega) HNN.out (HK.out.call HS3.out.low) (HTab.out.call HS3.out.low))
        cases hnw : newR (.mk k n t ks) cd nm with
        | none =>
          rw [hnw] at HNW
          have HM := Lib.hid (first_miss (v := .mk k n t ks) hlt (by rw [HKK.out, HCD.out, HNM.out]; exact hnw))
          clear hnw
          go_wp2_with fail
          refine HNW.out.mono ?_
          rintro e w3 ⟨rfl, hb3⟩
          have HS4 := Lib.hid (HS3.out.call hb3)
          clear hb3 HS3 HB6
          go_wp2
          go_roundw
          case rel => exact ⟨rfl, j + 1, by omega, by go_num, HFI.out.trans HM.out, HS4.out⟩
          case measure => simp [intOf]; omega
        | some ls =>
          rw [hnw] at HNW
          have HM := Lib.hid (first_hit (v := .mk k n t ks) hlt (by rw [HKK.out, HCD.out, HNM.out]; exact hnw))
          have HR : Hid (getR (.mk k n t ks) = readO k' ls) := Lib.hid (by rw [← HKK.out]; exact get_hit HNK.out (HFI.out.trans HM.out))
          have HL : Hid (bulkL ls ≤ 268435456) := Lib.hid (by
            have := HN.out
            obtain ⟨n', t', d, n'', t'', e, _, _⟩ := newR_some hnw
            injection e with _ _ _ e
            subst e
            simp only [bulkL, bulk] at this
            omega)
          clear hnw
          go_wp2_with fail
          refine HNW.out.mono ?_
          rintro e w3 ⟨g3, A3, l3, c3', rfl, hg3, hF3, _, hb3⟩
          have HS4 := Lib.hid (HS3.out.call hb3)
          have HB64 := Lib.hid (HB6.out.call hb3)
          have HTB := Lib.hid (HTab.out.call HS4.out.low)
          have hg3' : wr.heap.size + 1 ≤ g3 := by simpa using hg3
          have hpos : 0 < g3 := by omega
          have HF3 := Lib.hid hF3
          obtain ⟨y0, y1, y2, y3, y4, y5⟩ := HB64.out.all
          clear hb3 HS3 HB6 hF3 hg3
          go_wp2_with fail
          refine (HRD.out _ _ _ _ _ _ _ HF3.out hpos HL.out HTB.out).mono ?_
          rintro e w4 ⟨r4, rfl, rfl, ho4, hF4⟩
          have HB65 := Lib.hid (HB64.out.off ho4 (by omega))
          have HX2 := Lib.hid (HS4.out.b2.off ho4 (by omega))
          have HX4 := Lib.hid (HS4.out.b4.off ho4 (by omega))
          have HLW := Lib.hid (show Below w.heap.size w w4 from HS4.out.low.trans (ho4.below HS4.out.low.size fun i hi e => by omega))
          have HF4 := Lib.hid hF4
          obtain ⟨ro, hro⟩ : ∃ ro, (rdR k' ls).1 = ro := ⟨_, rfl⟩
          obtain ⟨rs, hrs⟩ : ∃ rs, (rdR k' ls).2 = rs := ⟨_, rfl⟩
          have HRO : Hid (getR (.mk k n t ks) = if doneN ls rs mo = 0 then some ro else none) := Lib.hid (by rw [HR.out, ← hro, ← hrs, ← HMO.out]; rfl)
          rw [hro]
          rw [hrs] at HF4
          obtain ⟨rk, ra, rb, rc⟩ := ro
          unfold oV
          simp only
          obtain ⟨z0, z1, z2, z3, zf⟩ := HX4.out.all
          clear ho4 hF4 hro hrs y0 y1 y2 y3 y4 y5 HRD HNW HS4 HB64 HF3 HR
          obtain ⟨q0, q1, q2, q3, qf⟩ := HX2.out.all
          obtain ⟨y0, y1, y2, y3, y4, y5⟩ := HB65.out.all
          have hls3 := HX4.out.lt
          go_wp2_with fail
          have hob := obj_far4 HF4.out.obj (show g3 ≠ w.heap.size + 1 + 1 by omega) (.int .u8 (rk : Int)) (.int .u64 (ra : Int)) (.int .u64 (rb : Int)) (.string rc)
          refine (done_obj (ls := ls) hob HF4.out.fkd.len mo).mono ?_
          rintro e w5 ⟨rfl, hw5⟩
          subst hw5
          clear hob
          by_cases hd0 : doneN ls rs mo = 0
          · have HR2 : Hid (getR (.mk k n t ks) = some ⟨rk, ra, rb, rc⟩) := Lib.hid (HRO.out.trans (if_pos hd0))
            rw [hd0]
            clear hd0 HRO
            go_wp2
            try rw [Exit.noGoto_ret]
            refine bodyPost_ret (v := .tuple #[.agg #[.int .u8 (rk : Int), .int .u64 (ra : Int), .int .u64 (rb : Int), .string rc], .int .i64 0]) (by simp [results, Tryd.results23, go_sem, q0, q1, q2, q3]) rfl ?_
            rw [HR2.out]
            exact ⟨rfl, below_set4 (below_set4 HLW.out (by omega) _ _ _ _) (by omega) _ _ _ _⟩
          · have HR2 : Hid (getR (.mk k n t ks) = none) := Lib.hid (HRO.out.trans (if_neg hd0))
            rw [done_not hd0]
            clear hd0 HRO
            go_wp2
            try rw [Exit.noGoto_ret]
            refine bodyPost_ret (v := .tuple #[.agg #[.int .u8 0, .int .u64 0, .int .u64 0, .string ⟨#[]⟩], .int .i64 6]) (by simp [results, Tryd.results23, go_sem, q0, q1, q2, q3]) rfl ?_
            rw [HR2.out]
            exact ⟨rfl, below_set4 (below_set4 HLW.out (by omega) _ _ _ _) (by omega) _ _ _ _⟩
      · have HR2 : Hid (getR (.mk k n t ks) = none) := Lib.hid (by
          refine get_miss HNK.out (HFI.out.trans ?_)
          rw [show j = 5 by omega]; rfl)
        obtain ⟨q0, q1, q2, q3, qf⟩ := HSS.out.b2.all
        go_wp2
        try rw [Exit.noGoto_ret]
        refine bodyPost_ret (v := .tuple #[.agg #[.int .u8 0, .int .u64 0, .int .u64 0, .string ⟨#[]⟩], .int .i64 6]) (by simp [results, Tryd.results23, go_sem, q0, q1, q2, q3]) rfl ?_
        rw [HR2.out]
        exact ⟨rfl, below_set4 HSS.out.low (by omega) _ _ _ _⟩
end Go.Proofs.YtobnbgbijdhjjaaDoor.Oc
