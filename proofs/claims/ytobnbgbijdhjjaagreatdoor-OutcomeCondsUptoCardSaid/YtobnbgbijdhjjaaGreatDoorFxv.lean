/-
  Contracts of the document's New, and of its fields' Has, take, Number, Text, Done. Memory that was there stays, but for the block of the fields. Conditions: values of bulk at most 2^20.
  Contract of the document's fields' Value. Memory that was there stays, but for the block of the fields. Conditions: values of bulk at most 2^30; at most 2^40 kinds.
-/
import Derived.Test.YtobnbgbijdhjjaaGreatDoorFne
import Derived.Test.YtobnbgbijdhjjaaGreatDoorXrig
namespace Go.Proofs.YtobnbgbijdhjjaaGreatDoor.Fl
set_option maxRecDepth 100000
open Go.RowKit Go.Proofs.YtobnbgbijdhjjaaGreatDoor.Utf Go.Proofs.YtobnbgbijdhjjaaGreatDoor.Val V

/-- What a value is called, where it may be. -/
theorem called_kind {d : V} {code : Nat} {name : ByteArray} (hm : mayB d = true) (h : nameB d.kind = true) : calledB d code name = if d.kind = 6 then decide (d.num = code) else decide (d.text = name) := by
  obtain ⟨k, n, t, ks⟩ := d
  have ha : aloneOk k n t ks.length = true := by simp only [mayB, Bool.and_eq_true] at hm; exact hm.1.2
  have h : nameB k = true := h
  show calledB (.mk k n t ks) code name = if k = 6 then decide (n = code) else decide (t = name)
  simp only [nameB, Bool.or_eq_true, beq_iff_eq] at h
  rcases h with rfl | rfl
  · rw [if_pos rfl]
    simp only [aloneOk, show ¬ (6 = 1) by omega, if_false, show (2 ≤ 6 ∧ 6 ≤ 14) by omega, and_self, if_true, Bool.and_eq_true, decide_eq_true_eq, numB] at ha
    obtain ⟨⟨h1, h2⟩, _⟩ := ha
    have h1 : t.size = 0 := of_decide_eq_true h1
    obtain rfl := empty_eq h1
    obtain rfl := List.eq_nil_of_length_eq_zero h2
    unfold calledB
    rw [V.same_no (b := .mk 21 0 name []) (by intro h; injection h with h; omega), Bool.or_false]
    by_cases hc : n = code
    · subst hc; rw [V.same_self]; simp
    · rw [V.same_no (by intro e; injection e with _ e; exact hc e), decide_eq_false hc]
  · rw [if_neg (by omega)]
    simp only [aloneOk, show ¬ (21 = 1) by omega, if_false, show ¬ (2 ≤ 21 ∧ 21 ≤ 14) by omega, show (15 ≤ 21 ∧ 21 ≤ 21) by omega, and_self, if_true, Bool.and_eq_true, decide_eq_true_eq] at ha
    obtain ⟨⟨rfl, h2⟩, _⟩ := ha
    obtain rfl := List.eq_nil_of_length_eq_zero h2
    unfold calledB
    rw [V.same_no (b := .mk 6 code ⟨#[]⟩ []) (by intro h; injection h with h; omega), Bool.false_or]
    by_cases hc : t = name
    · subst hc; rw [V.same_self]; simp
    · rw [V.same_no (by intro e; injection e with _ _ e; exact hc e), decide_eq_false hc]

/-- Fields that the document makes. -/
def GivesNewX (o : Option (List V)) (w : World) (e : Ending) (w' : World) : Prop :=
  match o with
  | none => e = .returned (.tuple #[.pointer none, .int .i64 6]) ∧ Below w.heap.size w w'
  | some ls => ∃ g A l c, e = .returned (.tuple #[.pointer (some ⟨g, 0, none⟩), .int .i64 0]) ∧ w.heap.size ≤ g ∧ Fld 78 (fun i => g ≤ i) w' g ls A l c false ∧ g + 1 = w'.heap.size ∧ Below w.heap.size w w'
theorem xnew_bad (k n : Nat) (t : ByteArray) (ks : List V) (A : Option Addr) (l c code : Nat) (name : ByteArray) (w : World) (hN : bulk (.mk k n t ks) ≤ 1048576) (hn : n < 18446744073709551616) (hK : Kd w ks A l c) (hv : okB (.mk k n t ks) = false ∨ ¬ k = 25) :
    Calls Tryz.prog 27 #[.agg #[.int .u8 (k : Int), .int .u64 (n : Int), .string t, .slice A l c], .int .u64 (code : Int), .string name] w (GivesNewX none w) := by
  have hb0 : Below w.heap.size w (w.alloc (.cells #[.int .u8 (k : Int), .int .u64 (n : Int), .string t, .slice A l c] 25)) := (Below.refl _ _).alloc (Nat.le_refl _) _
  have HX := Lib.hid (Box.new w (.int .u8 (k : Int)) (.int .u64 (n : Int)) (.string t) (.slice A l c))
  have HR := Lib.hid (Go.Proofs.YtobnbgbijdhjjaaGreatDoor.valueRights.xright_any k n t ks A l c _ hN hn (hK.call hb0))
  have HB := Lib.hid hb0
  clear hN hn hK hb0
  cases hok : okB (.mk k n t ks) with
  | false =>
    rw [hok] at HR
    clear hok hv
    go_enter Tryz.func27, Tryz.ntmps27
    go_wp2_with fail
    refine HR.out.mono ?_
    rintro e w1 ⟨rfl, hb1⟩
    have HB1 := Lib.hid (below_next HB.out hb1)
    clear hb1
    go_wp2
    refine bodyPost_ret (v := .tuple #[.pointer none, .int .i64 6]) (by simp [results, Tryz.results27, go_sem]) rfl ?_
    exact ⟨rfl, HB1.out⟩
  | true =>
    rw [hok] at HR
    have h25 : ¬ k = 25 := by
      rcases hv with h | h
      · rw [h] at hok; cases hok
      · exact h
    have hd : ((k : Int) == 25) = false := by rw [beq_eq_false_iff_ne]; omega
    have hdn : ((k : Int) != 25) = true := by rw [bne, hd]; rfl
    have hde : ¬ (k : Int) = 25 := by omega
    clear hok hv h25
    go_enter Tryz.func27, Tryz.ntmps27
    go_wp2_with fail
    refine HR.out.mono ?_
    rintro e w1 ⟨rfl, hb1⟩
    obtain ⟨d0, d1, d2, d3, df⟩ := (HX.out.call hb1).all
    have HB1 := Lib.hid (below_next HB.out hb1)
    clear hb1
    go_wp2
    refine bodyPost_ret (v := .tuple #[.pointer none, .int .i64 6]) (by simp [results, Tryz.results27, go_sem]) rfl ?_
    exact ⟨rfl, HB1.out⟩
set_option maxHeartbeats 2000000 in
theorem xnew_pair (n : Nat) (t : ByteArray) (ks : List V) (x y : V) (hks : ks = [x, y]) (A : Option Addr) (l c code : Nat) (name : ByteArray) (w : World) (hN : bulk (.mk 25 n t ks) ≤ 1048576) (hn : n < 18446744073709551616) (hK : Kd w ks A l c) (hok : okB (.mk 25 n t ks) = true) (hmx : mayB x = true) (hnx : nameB x.kind = true) :
    Calls Tryz.prog 27 #[.agg #[.int .u8 25, .int .u64 (n : Int), .string t, .slice A l c], .int .u64 (code : Int), .string name] w (GivesNewX (newR (.mk 25 n t ks) code name) w) := by
  have hb0 : Below w.heap.size w (w.alloc (.cells #[.int .u8 25, .int .u64 (n : Int), .string t, .slice A l c] 25)) := (Below.refl _ _).alloc (Nat.le_refl _) _
  have HX := Lib.hid (Box.new w (.int .u8 25) (.int .u64 (n : Int)) (.string t) (.slice A l c))
  have HR : Hid (Calls Tryz.prog 48 #[.agg #[.int .u8 25, .int .u64 (n : Int), .string t, .slice A l c]] _ (GivesB (okB (.mk 25 n t ks)) _)) := Lib.hid (Go.Proofs.YtobnbgbijdhjjaaGreatDoor.valueRights.xright_any 25 n t ks A l c _ hN hn (hK.call hb0))
  rw [hok] at HR
  have HB := Lib.hid hb0
  have HK := Lib.hid (hK.call hb0)
  have HN := Lib.hid hN
  have HE := Lib.hid hks
  have hcl := called_kind (code := code) (name := name) hmx hnx
  have ho := newR_pair (code := code) (name := name) hok hks
  rw [hcl] at ho
  simp only [nameB, Bool.or_eq_true, beq_iff_eq] at hnx
  have HNX := Lib.hid hnx
  have HO := Lib.hid ho
  clear hN hn hK hok hb0 hks hmx hcl ho hnx
  obtain ⟨o, hoo⟩ : ∃ o, newR (.mk 25 n t ks) code name = o := ⟨_, rfl⟩
  rw [hoo] at HO ⊢
  clear hoo
  go_enter Tryz.func27, Tryz.ntmps27
  go_wp2_with fail
  refine HR.out.mono ?_
  rintro e w1 ⟨rfl, hb1⟩
  have hdx := (HX.out.call hb1).all
  have HB1 := Lib.hid (below_next HB.out hb1)
  obtain ⟨b, ob, k1, n1, t1, ks1, A1, l1, c1, k2, n2, t2, ks2, A2, l2, c2, rfl, hbl, rfl, rfl, rfl, p0, p1, p2, p3, q0, q1, q2, q3, hk1, hn1, hK1, hk2, hn2, hK2⟩ := kids_pair (HK.out.call hb1) HE.out
  have hs1 := (HX.out.call hb1).lt
  obtain ⟨d0, d1, d2, d3, df⟩ := hdx
  have hne : ¬ b = w1.heap.size := by omega
  have hnw : ¬ w.heap.size = w1.heap.size := by omega
  have hks2 : ks = [.mk k1 n1 t1 ks1, .mk k2 n2 t2 ks2] := HE.out
  have HKD := Lib.hid hK2
  have HBK := Lib.hid (show bulkL ks2 ≤ 1048576 by have := HN.out; rw [hks2] at this; simp only [bulk, bulkL] at this; omega)
  have HO2 : Hid (o = if (if k1 = 6 then decide (n1 = code) else decide (t1 = name)) = true ∧ k2 = 22 then some ks2 else none) := Lib.hid HO.out
  have HNX2 : Hid (k1 = 6 ∨ k1 = 21) := Lib.hid HNX.out
  clear hb1 hK1 hK2 HK HO HNX hks2 HX HR HB
  by_cases h22 : k2 = 22
  case neg =>
    have hd : ((k2 : Int) == 22) = false := by rw [beq_eq_false_iff_ne]; omega
    have hdn : ((k2 : Int) != 22) = true := by rw [bne, hd]; rfl
    have hde : ¬ (k2 : Int) = 22 := by omega
    obtain rfl : o = none := by rw [HO2.out]; exact if_neg fun h => h22 h.2
    clear h22 HO2
    go_wp2
    refine bodyPost_ret (v := .tuple #[.pointer none, .int .i64 6]) (by simp [results, Tryz.results27, go_sem]) rfl ?_
    exact ⟨rfl, HB1.out⟩
  case pos =>
    have hd : ((k2 : Int) == 22) = true := by rw [h22]; rfl
    have hdn : ((k2 : Int) != 22) = false := by rw [bne, hd]; rfl
    have hde : (k2 : Int) = 22 := by omega
    rcases HNX2.out with h6 | h6
    · have he6 : ((k1 : Int) == 6) = true := by rw [h6]; rfl
      have he21 : ((k1 : Int) == 21) = false := by rw [h6]; rfl
      by_cases hcd : n1 = code
      · have hec : ((n1 : Int) == (code : Int)) = true := by rw [hcd]; simp
        obtain rfl : o = some ks2 := by rw [HO2.out, if_pos h6]; exact if_pos ⟨decide_eq_true hcd, h22⟩
        clear h22 h6 hcd HO2 HNX2 hde hd
        go_wp2_with fail
        refine (xcopyAll_any 1048576 ks2 A2 l2 c2 _ HBK.out (by omega) (HKD.out.call ((Below.refl _ _).alloc (Nat.le_refl _) _))).mono ?_
        rintro e w9 ⟨A3, l3, c3, rfl, hN3, hb9⟩
        have HB9 := Lib.hid (below_next (HB1.out.alloc HB1.out.size _) hb9)
        have HN9 := Lib.hid hN3
        clear hb9 hN3
        go_wp2
        refine bodyPost_ret (v := .tuple #[.pointer (some ⟨w9.heap.size, 0, none⟩), .int .i64 0]) (by simp [results, Tryz.results27, go_sem]) rfl ?_
        refine ⟨w9.heap.size, A3, l3, c3, rfl, HB9.out.size, ⟨heap_alloc_new w9 _, ?_, Nat.le_refl _⟩, by simp, HB9.out.alloc HB9.out.size _⟩
        exact ((HN9.out.kd.keep fun i hi => Below.heap_alloc _ _ _ hi).mono fun i hi => ⟨by simp; omega, by omega⟩)
      · have hec : ((n1 : Int) == (code : Int)) = false := by rw [beq_eq_false_iff_ne]; omega
        obtain rfl : o = none := by rw [HO2.out, if_pos h6]; exact if_neg fun h => hcd (of_decide_eq_true h.1)
        clear h22 h6 hcd HO2 HNX2 hde hd
        go_wp2
        refine bodyPost_ret (v := .tuple #[.pointer none, .int .i64 6]) (by simp [results, Tryz.results27, go_sem]) rfl ?_
        exact ⟨rfl, HB1.out.alloc HB1.out.size _⟩
    · have he6 : ((k1 : Int) == 6) = false := by rw [h6]; rfl
      have he21 : ((k1 : Int) == 21) = true := by rw [h6]; rfl
      by_cases hcd : t1 = name
      · obtain rfl : o = some ks2 := by rw [HO2.out, if_neg (show ¬ k1 = 6 by omega)]; exact if_pos ⟨decide_eq_true hcd, h22⟩
        subst hcd
        clear h22 h6 HO2 HNX2 hde hd
        go_wp2_with fail
        refine (xcopyAll_any 1048576 ks2 A2 l2 c2 _ HBK.out (by omega) (HKD.out.call ((Below.refl _ _).alloc (Nat.le_refl _) _))).mono ?_
        rintro e w9 ⟨A3, l3, c3, rfl, hN3, hb9⟩
        have HB9 := Lib.hid (below_next (HB1.out.alloc HB1.out.size _) hb9)
        have HN9 := Lib.hid hN3
        clear hb9 hN3
        go_wp2
        refine bodyPost_ret (v := .tuple #[.pointer (some ⟨w9.heap.size, 0, none⟩), .int .i64 0]) (by simp [results, Tryz.results27, go_sem]) rfl ?_
        refine ⟨w9.heap.size, A3, l3, c3, rfl, HB9.out.size, ⟨heap_alloc_new w9 _, ?_, Nat.le_refl _⟩, by simp, HB9.out.alloc HB9.out.size _⟩
        exact ((HN9.out.kd.keep fun i hi => Below.heap_alloc _ _ _ hi).mono fun i hi => ⟨by simp; omega, by omega⟩)
      · have hec0 : ¬ t1.toList = name.toList := fun h => hcd (ba_toList h)
        have hec : (t1.toList == name.toList) = false := by rw [beq_eq_false_iff_ne]; exact hec0
        obtain rfl : o = none := by rw [HO2.out, if_neg (show ¬ k1 = 6 by omega)]; exact if_neg fun h => hcd (of_decide_eq_true h.1)
        clear h22 h6 hcd HO2 HNX2 hde hd
        go_wp2
        refine bodyPost_ret (v := .tuple #[.pointer none, .int .i64 6]) (by simp [results, Tryz.results27, go_sem]) rfl ?_
        exact ⟨rfl, HB1.out.alloc HB1.out.size _⟩
theorem xnew_any (k n : Nat) (t : ByteArray) (ks : List V) (A : Option Addr) (l c code : Nat) (name : ByteArray) (w : World) (hN : bulk (.mk k n t ks) ≤ 1048576) (hn : n < 18446744073709551616) (hK : Kd w ks A l c) :
    Calls Tryz.prog 27 #[.agg #[.int .u8 (k : Int), .int .u64 (n : Int), .string t, .slice A l c], .int .u64 (code : Int), .string name] w (GivesNewX (newR (.mk k n t ks) code name) w) := by
  cases hok : okB (.mk k n t ks) with
  | false =>
    rw [show newR (.mk k n t ks) code name = none from if_neg fun h => by rw [hok] at h; exact Bool.false_ne_true h.1]
    exact xnew_bad k n t ks A l c code name w hN hn hK (.inl hok)
  | true =>
    by_cases h25 : k = 25
    · subst h25
      have hm : mayB (.mk 25 n t ks) = true := by
        unfold okB at hok
        simp only [Bool.and_eq_true] at hok
        exact hok.2
      obtain ⟨x, y, hks, h1, h2, _⟩ := may_desc hm
      exact xnew_pair n t ks x y hks A l c code name w hN hn hK hok h2 h1
    · rw [show newR (.mk k n t ks) code name = none from if_neg fun h => h25 h.2]
      exact xnew_bad k n t ks A l c code name w hN hn hK (.inr h25)

section
variable {X : Nat → Prop} {w : World} {g : Nat} {ls : List V} {A : Option Addr} {l c : Nat} {sp : Bool}
theorem Fld.setb {T : TypeId} (h : Fld T X w g ls A l c sp) (b : Bool) : Fld T X (w.setCell ⟨g, 1, none⟩ (.bool b)) g ls A l c b := by
  refine ⟨?_, (h.kd.keep fun i hi => Below.heap_setCell w ⟨g, 1, none⟩ _ i (fun e => hi.2 (e ▸ h.mem))).mono fun _ hi => ⟨by simpa using hi.1, hi.2⟩, h.mem⟩
  have := h.obj
  simp [World.setCell, Array.getElem?_modify, this]
theorem xhas_any (h : Fld 78 X w g ls A l c sp) (i : Int) : Calls Tryz.prog 72 #[.pointer (some ⟨g, 0, none⟩), .int .i64 i] w (GivesB (ask ls i).isSome w) := by
  obtain ⟨a0, a1, _⟩ := h.cells
  have hl := h.fkd.len
  by_cases h0 : i < 0
  · rw [ask_neg h0]
    have hd : decide (0 ≤ i) = false := decide_eq_false (by omega)
    clear h0 h hl
    go_enter Tryz.func72, Tryz.ntmps72
    go_wp2
    go_ret
    exact ⟨rfl, Below.refl _ _⟩
  · obtain ⟨j, rfl⟩ : ∃ j : Nat, i = (j : Int) := ⟨i.toNat, by omega⟩
    have hd : decide (0 ≤ (j : Int)) = true := decide_eq_true (by omega)
    by_cases h1 : j < l
    · obtain ⟨b, o, k, n, t, ks, A', l', c', rfl, hb, hx, e0, e1, e2, e3, hk, hn, hK⟩ := h.fkd.at_ h1
      by_cases hk1 : k = 1
      · have hr : (ask ls (j : Int)).isSome = false := by subst hk1; rw [ask_null hx]; rfl
        rw [hr]
        have hd1 : ((k : Int) == 1) = true := by rw [hk1]; rfl
        have hd2 : ((k : Int) != 1) = false := by rw [bne, hd1]; rfl
        clear h0 h hl hr hx hk1 hk hn hK hb
        go_enter Tryz.func72, Tryz.ntmps72
        go_wp2
        go_ret
        exact ⟨rfl, Below.refl _ _⟩
      · have hr : (ask ls (j : Int)).isSome = true := by rw [ask_there hx hk1]; rfl
        rw [hr]
        have hd1 : ((k : Int) == 1) = false := by rw [beq_eq_false_iff_ne]; omega
        have hd2 : ((k : Int) != 1) = true := by rw [bne, hd1]; rfl
        have hd3 : ¬ (k : Int) = 1 := by omega
        clear h0 h hl hr hx hk1 hk hn hK hb
        go_enter Tryz.func72, Tryz.ntmps72
        go_wp2
        go_ret
        exact ⟨rfl, Below.refl _ _⟩
    · rw [ask_far (by omega)]
      clear h0 h hl
      go_enter Tryz.func72, Tryz.ntmps72
      go_wp2
      go_ret
      exact ⟨rfl, Below.refl _ _⟩
theorem xdone_any (h : Fld 78 X w g ls A l c sp) (n : Int) : Calls Tryz.prog 30 #[.pointer (some ⟨g, 0, none⟩), .int .i64 n] w fun e w' => e = .returned (.int .i64 (doneN ls sp n)) ∧ w = w' := by
  obtain ⟨a0, a1, hf⟩ := h.cells
  unfold doneN
  rw [← h.fkd.len]
  clear h hf
  cases sp with
  | true =>
    rw [if_pos (.inl rfl)]
    go_enter Tryz.func30, Tryz.ntmps30
    go_wp2
    go_ret
    exact ⟨rfl, rfl⟩
  | false =>
    by_cases hn : n < (l : Int)
    · rw [if_pos (.inr hn)]
      have hd : decide (n < (l : Int)) = true := decide_eq_true hn
      clear hn
      go_enter Tryz.func30, Tryz.ntmps30
      go_wp2
      go_ret
      exact ⟨rfl, rfl⟩
    · rw [if_neg (by simp [hn])]
      have hd : decide (n < (l : Int)) = false := decide_eq_false hn
      clear hn
      go_enter Tryz.func30, Tryz.ntmps30
      go_wp2
      go_ret
      exact ⟨rfl, rfl⟩
/-- What take answers: the field, if it is there. -/
def GivesTk (X : Nat → Prop) (g : Nat) (ls : List V) (A : Option Addr) (l c : Nat) (o : Option V) (sp must : Bool) (w : World) (e : Ending) (w' : World) : Prop :=
  match o with
  | none => e = .returned (.tuple #[.agg #[.int .u8 0, .int .u64 0, .string ⟨#[]⟩, .slice none 0 0], .bool false]) ∧ Off (fun i => i = g) w w' ∧ Fld 78 X w' g ls A l c (sp || must)
  | some (.mk k n t ks) => ∃ A' l' c', e = .returned (.tuple #[.agg #[.int .u8 (k : Int), .int .u64 (n : Int), .string t, .slice A' l' c'], .bool true]) ∧ k < 256 ∧ n < 18446744073709551616 ∧ Kd w' ks A' l' c' ∧ Below w.heap.size w w' ∧ Fld 78 X w' g ls A l c sp
theorem xtake_any (h : Fld 78 X w g ls A l c sp) (i : Int) (must : Bool) : Calls Tryz.prog 50 #[.pointer (some ⟨g, 0, none⟩), .int .i64 i, .bool must] w (GivesTk X g ls A l c (ask ls i) sp must w) := by
  have hb0 : Below w.heap.size w (w.alloc (.cells #[.int .u8 0, .int .u64 0, .string ⟨#[]⟩, .slice none 0 0] 25)) := (Below.refl _ _).alloc (Nat.le_refl _) _
  have HX := Lib.hid (Box.new w (.int .u8 0) (.int .u64 0) (.string ⟨#[]⟩) (.slice none 0 0))
  have HB := Lib.hid hb0
  have HF := Lib.hid h
  have HH := Lib.hid (xhas_any (h.call hb0) i)
  have HGL := Lib.hid h.lt
  clear hb0
  cases ha : ask ls i with
  | none =>
    rw [ha] at HH
    clear ha h
    go_enter Tryz.func50, Tryz.ntmps50
    go_wp2_with fail
    refine HH.out.mono ?_
    rintro e w1 ⟨rfl, hb1⟩
    have HF1 := Lib.hid ((HF.out.call HB.out).call hb1)
    obtain ⟨a0, a1, hf⟩ := HF1.out.cells
    obtain ⟨d0, d1, d2, d3, df⟩ := (HX.out.call hb1).all
    have HX1 := Lib.hid (HX.out.call hb1)
    have HB1 := Lib.hid (below_next HB.out hb1)
    have hgne : ¬ g = w.heap.size := by have := HGL.out; omega
    have hgne' : ¬ w.heap.size = g := by have := HGL.out; omega
    clear hb1 HH
    have HFB := Lib.hid (HF1.out.setb (sp || must))
    have HOB := Lib.hid (((Off.of (fun i => i = g) HB1.out).trans (Off.set w1 1 (.bool (sp || must)) rfl)).set4 (Nat.le_refl _) (.int .u8 0) (.int .u64 0) (.string ⟨#[]⟩) (.slice none 0 0))
    have HFF := Lib.hid (HF.out.fin HOB.out (obj_far4 HFB.out.obj (by have := HGL.out; omega) _ _ _ _))
    cases sp <;> cases must
    all_goals
      go_wp2
      refine bodyPost_ret (v := .tuple #[.agg #[.int .u8 0, .int .u64 0, .string ⟨#[]⟩, .slice none 0 0], .bool false]) (by simp [results, Tryz.results50, go_sem, d0, d1, d2, d3]) rfl ?_
      exact ⟨rfl, HOB.out, HFF.out⟩
  | some v =>
    obtain ⟨k, n, t, ks⟩ := v
    obtain ⟨j, rfl, hj, hx, _⟩ := ask_some ha
    rw [ha] at HH
    have hjl : j < l := by rw [h.fkd.len]; exact hj
    obtain ⟨b, o, k', n', t', ks', A', l', c', rfl, hb, hx', e0, e1, e2, e3, hk, hn, hK⟩ := h.fkd.at_ hjl
    rw [hx] at hx'
    injection hx' with hx'
    injection hx' with q1 q2 q3 q4
    subst q1; subst q2; subst q3; subst q4
    have HK := Lib.hid hK
    have HKK := Lib.hid hk
    have HNN := Lib.hid hn
    clear ha h hj hx hK hk hn
    go_enter Tryz.func50, Tryz.ntmps50
    go_wp2_with fail
    refine HH.out.mono ?_
    rintro e w1 ⟨rfl, hb1⟩
    have HF1 := Lib.hid ((HF.out.call HB.out).call hb1)
    obtain ⟨a0, a1, hf⟩ := HF1.out.cells
    have HB1 := Lib.hid (below_next HB.out hb1)
    have f0 := (HB1.out.cell (p := ⟨b, o + j * 4, none⟩) hb).trans e0
    have f1 := (HB1.out.cell (p := ⟨b, o + j * 4 + 1, none⟩) hb).trans e1
    have f2 := (HB1.out.cell (p := ⟨b, o + j * 4 + 2, none⟩) hb).trans e2
    have f3 := (HB1.out.cell (p := ⟨b, o + j * 4 + 3, none⟩) hb).trans e3
    obtain ⟨d0, d1, d2, d3, df⟩ := (HX.out.call hb1).all
    have HOB := Lib.hid ((Off.of (fun i => i = g) HB1.out).set4 (Nat.le_refl _) (.int .u8 (k : Int)) (.int .u64 (n : Int)) (.string t) (.slice A' l' c'))
    have HFF := Lib.hid (HF.out.fin HOB.out (obj_far4 HF1.out.obj (by have := HGL.out; omega) _ _ _ _))
    clear hb1 HH e0 e1 e2 e3 hb
    go_wp2
    refine bodyPost_ret (v := .tuple #[.agg #[.int .u8 (k : Int), .int .u64 (n : Int), .string t, .slice A' l' c'], .bool true]) (by simp [results, Tryz.results50, go_sem, d0, d1, d2, d3]) rfl ?_
    exact ⟨A', l', c', rfl, HKK.out, HNN.out, HK.out.call (below_set4 HB1.out (Nat.le_refl _) _ _ _ _), below_set4 HB1.out (Nat.le_refl _) _ _ _ _, HFF.out⟩
/-- What is kept of fields while they are asked. -/
structure SX (X : Nat → Prop) (w wi : World) (g : Nat) (ls : List V) (A : Option Addr) (l c : Nat) (sp : Bool) : Prop where
  fld : Fld 78 X wi g ls A l c sp
  off : Off (fun i => i = g) w wi
section
variable {wi w' : World} {sp' : Bool}
theorem SX.call (h : SX X w wi g ls A l c sp) (hb : Below wi.heap.size wi w') : SX X w w' g ls A l c sp := ⟨h.fld.call hb, h.off.next hb⟩
theorem SX.alloc (h : SX X w wi g ls A l c sp) (o : Obj) : SX X w (wi.alloc o) g ls A l c sp := h.call ((Below.refl _ _).alloc (Nat.le_refl _) _)
theorem SX.next (h : SX X w wi g ls A l c sp) (ho : Off (fun i => i = g) wi w') (hF : Fld 78 X w' g ls A l c sp') : SX X w w' g ls A l c sp' := ⟨hF, h.off.trans ho⟩
theorem SX.spoil (h : SX X w wi g ls A l c sp) : SX X w (wi.setCell ⟨g, 1, none⟩ (.bool true)) g ls A l c true := h.next (Off.set _ _ _ rfl) h.fld.spoil
end
theorem xftext_any {sp' : Bool} (h : Fld 78 X w g ls A l c sp) (i : Int) (kind : Nat) (must : Bool) (N : ByteArray) (hq : oneR ls i kind must sp ⟨#[]⟩ V.text = (N, sp')) :
    Calls Tryz.prog 28 #[.pointer (some ⟨g, 0, none⟩), .int .i64 i, .int .u8 (kind : Int), .bool must] w (GivesF 78 X g ls A l c (fun r _ => r = .string N) sp' w) := by
  have HK := Lib.hid (xtake_any h i must)
  cases ha : ask ls i with
  | none =>
    rw [ha] at HK
    rw [oneR_none ha] at hq
    injection hq with e1 e2
    subst e1; subst e2
    clear ha h
    go_enter Tryz.func28, Tryz.ntmps28
    go_wp2_with fail
    refine HK.out.mono ?_
    rintro e w1 ⟨rfl, ho1, hF1⟩
    have H1 := Lib.hid ((SX.mk hF1 ho1).alloc (.cells #[.int .u8 0, .int .u64 0, .string ⟨#[]⟩, .slice none 0 0] 25))
    clear ho1 hF1 HK
    go_wp2
    go_ret
    exact ⟨_, rfl, rfl, H1.out.off, H1.out.fld⟩
  | some v =>
    obtain ⟨k, n, t, ks⟩ := v
    rw [ha] at HK
    by_cases hk : k = kind
    · have hd : ((k : Int) != (kind : Int)) = false := by rw [hk]; simp
      rw [oneR_yes ha hk] at hq
      injection hq with e1 e2
      have e1 : t = N := e1
      subst e1; subst e2
      clear ha h hk
      go_enter Tryz.func28, Tryz.ntmps28
      go_wp2_with fail
      refine HK.out.mono ?_
      rintro e w1 ⟨A', l', c', rfl, _, _, _, hbt, hF1⟩
      have ho1 := Off.of (fun i => i = g) hbt
      have H1 := Lib.hid ((SX.mk hF1 ho1).alloc (.cells #[.int .u8 (k : Int), .int .u64 (n : Int), .string t, .slice A' l' c'] 25))
      clear ho1 hbt hF1 HK
      go_wp2
      go_ret
      exact ⟨_, rfl, rfl, H1.out.off, H1.out.fld⟩
    · have hd0 : ((k : Int) == (kind : Int)) = false := by rw [beq_eq_false_iff_ne]; omega
      have hd : ((k : Int) != (kind : Int)) = true := by rw [bne, hd0]; rfl
      rw [oneR_no ha hk] at hq
      injection hq with e1 e2
      subst e1; subst e2
      clear ha h hk
      go_enter Tryz.func28, Tryz.ntmps28
      go_wp2_with fail
      refine HK.out.mono ?_
      rintro e w1 ⟨A', l', c', rfl, _, _, _, hbt, hF1⟩
      have ho1 := Off.of (fun i => i = g) hbt
      have H1 := Lib.hid ((SX.mk hF1 ho1).alloc (.cells #[.int .u8 (k : Int), .int .u64 (n : Int), .string t, .slice A' l' c'] 25))
      have H2 := Lib.hid ((SX.mk hF1 ho1).spoil.alloc (.cells #[.int .u8 (k : Int), .int .u64 (n : Int), .string t, .slice A' l' c'] 25))
      obtain ⟨a0, a1, hf⟩ := H1.out.fld.cells
      obtain ⟨b0, b1, hg⟩ := hF1.cells
      have hgl := hF1.lt
      have hgne : ¬ g = w1.heap.size := by omega
      clear ho1 hbt hF1 HK
      go_wp2
      go_ret
      exact ⟨_, rfl, rfl, H2.out.off, H2.out.fld⟩

end
end Go.Proofs.YtobnbgbijdhjjaaGreatDoor.Fl

namespace Go.Proofs.YtobnbgbijdhjjaaGreatDoor.Fl
set_option maxRecDepth 100000
open Go.RowKit Go.Proofs.YtobnbgbijdhjjaaGreatDoor.Utf Go.Proofs.YtobnbgbijdhjjaaGreatDoor.Val V

theorem fxnul_new (w : World) : Calls Tryz.prog 20 #[] w fun e w' => e = .returned (.agg #[.int .u8 1, .int .u64 0, .string ⟨#[]⟩, .slice none 0 0]) ∧ Below w.heap.size w w' := by
  go_enter Tryz.func20, Tryz.ntmps20
  go_wp2
  exact bodyPost_ret (v := .agg #[.int .u8 1, .int .u64 0, .string ⟨#[]⟩, .slice none 0 0]) (by simp [results, Tryz.results20, go_sem]) rfl ⟨rfl, (Below.refl _ _).alloc (Nat.le_refl _) _⟩
/-- How far kinds fit. -/
def fitN (L : List Nat) (k j : Nat) : Bool := decide (L.length = 0) || decide (k ∈ L.take j)
theorem fit_step {L : List Nat} {k j y : Nat} (h : L[j]? = some y) : fitN L k (j + 1) = (fitN L k j || decide (k = y)) := by
  unfold fitN
  rw [List.take_add_one, h]
  simp only [Option.toList, List.mem_append, List.mem_singleton]
  by_cases h1 : k ∈ L.take j <;> by_cases h2 : k = y <;> by_cases h3 : L.length = 0 <;> simp [h1, h2, h3]
theorem fit_end (L : List Nat) (k : Nat) {j : Nat} (h : L.length ≤ j) : fitN L k j = fitsB L k := by
  unfold fitN fitsB
  rw [List.take_of_length_le h]
/-- What is kept while a value is asked: the answer's box, the value's box, its kids, the kinds. -/
structure SW (X : Nat → Prop) (w wi : World) (g : Nat) (ls : List V) (A : Option Addr) (l c : Nat) (sp : Bool) (g7 k n : Nat) (t : ByteArray) (ks : List V) (A' : Option Addr) (l' c' : Nat) (KA : Option Addr) (kl : Nat) (L : List Nat) : Prop where
  sx : SX X w wi g ls A l c sp
  b6 : Box wi w.heap.size (.int .u8 0) (.int .u64 0) (.string ⟨#[]⟩) (.slice none 0 0)
  b7 : Box wi g7 (.int .u8 (k : Int)) (.int .u64 (n : Int)) (.string t) (.slice A' l' c')
  kd : Kd wi ks A' l' c'
  ki : Kinds wi KA kl L
  ne : g ≠ g7 ∧ w.heap.size < g7
section
variable {X : Nat → Prop} {w wi w' : World} {g : Nat} {ls : List V} {A : Option Addr} {l c : Nat} {sp : Bool} {g7 k n : Nat} {t : ByteArray} {ks : List V} {A' : Option Addr} {l' c' : Nat} {KA : Option Addr} {kl : Nat} {L : List Nat}
theorem SW.call (h : SW X w wi g ls A l c sp g7 k n t ks A' l' c' KA kl L) (hb : Below wi.heap.size wi w') : SW X w w' g ls A l c sp g7 k n t ks A' l' c' KA kl L := ⟨h.sx.call hb, h.b6.call hb, h.b7.call hb, h.kd.call hb, h.ki.call hb, h.ne⟩
/-- The end: the answer is stored into its box. -/
theorem SX.fin {sp0 : Bool} (h : SX X w wi g ls A l c sp) (h0 : Fld 78 X w g ls A l c sp0) (x y z u : Value) : Off (fun i => i = g) w ((((wi.setCell ⟨w.heap.size, 0, none⟩ x).setCell ⟨w.heap.size, 1, none⟩ y).setCell ⟨w.heap.size, 2, none⟩ z).setCell ⟨w.heap.size, 3, none⟩ u) ∧
    Fld 78 X ((((wi.setCell ⟨w.heap.size, 0, none⟩ x).setCell ⟨w.heap.size, 1, none⟩ y).setCell ⟨w.heap.size, 2, none⟩ z).setCell ⟨w.heap.size, 3, none⟩ u) g ls A l c sp := by
  have ho := h.off.set4 (Nat.le_refl _) x y z u
  exact ⟨ho, h0.fin ho (obj_far4 h.fld.obj (by have := h0.lt; omega) _ _ _ _)⟩
end

set_option maxHeartbeats 2000000 in
theorem xfvalue_any {X : Nat → Prop} {w : World} {g : Nat} {ls : List V} {A : Option Addr} {l c : Nat} {sp sp' : Bool} {rk rn : Nat} {rt : ByteArray} {rks : List V} {KA : Option Addr} {kl kc : Nat} {L : List Nat} (h : Fld 78 X w g ls A l c sp) (hK : Kinds w KA kl L) (i : Int) (hN : bulkL ls ≤ 1073741824) (hq : valR ls i L sp = (.mk rk rn rt rks, sp')) :
    Calls Tryz.prog 29 #[.pointer (some ⟨g, 0, none⟩), .int .i64 i, .slice KA kl kc] w (GivesF 78 X g ls A l c (QV w.heap.size rk rn rt rks) sp' w) := by
  have hb0 : Below w.heap.size w (w.alloc (.cells #[.int .u8 0, .int .u64 0, .string ⟨#[]⟩, .slice none 0 0] 25)) := (Below.refl _ _).alloc (Nat.le_refl _) _
  have HX := Lib.hid (Box.new w (.int .u8 0) (.int .u64 0) (.string ⟨#[]⟩) (.slice none 0 0))
  have HF := Lib.hid h
  have HT := Lib.hid (xtake_any (h.call hb0) i false)
  have HS0 := Lib.hid (show SX X w (w.alloc (.cells #[.int .u8 0, .int .u64 0, .string ⟨#[]⟩, .slice none 0 0] 25)) g ls A l c sp from ⟨h.call hb0, Off.of _ hb0⟩)
  have HGL := Lib.hid h.lt
  have HKI := Lib.hid hK
  have HN := Lib.hid hN
  clear hb0 h hK hN
  cases ha : ask ls i with
  | none =>
    rw [ha] at HT
    rw [valR_none ha] at hq
    injection hq with e1 e2
    unfold nullV at e1
    injection e1 with q1 q2 q3 q4
    subst q1; subst q2; subst q3; subst q4; subst e2
    clear ha
    go_enter Tryz.func29, Tryz.ntmps29
    go_wp2_with fail
    refine HT.out.mono ?_
    rintro e w1 ⟨rfl, ho1, hF1⟩
    rw [Bool.or_false] at hF1
    have hnx : Below w1.heap.size w1 (w1.alloc (.cells #[.int .u8 0, .int .u64 0, .string ⟨#[]⟩, .slice none 0 0] 25)) := (Below.refl _ _).alloc (Nat.le_refl _) _
    have HS1 := Lib.hid ((HS0.out.next ho1 hF1).call hnx)
    have HX1 := Lib.hid ((Box.off HX.out ho1 (by have := HGL.out; omega)).call hnx)
    clear ho1 hF1 hnx
    go_wp2_with fail
    refine (fxnul_new _).mono ?_
    rintro e w2 ⟨rfl, hb2⟩
    have HS2 := Lib.hid (HS1.out.call hb2)
    obtain ⟨d0, d1, d2, d3, df⟩ := (HX1.out.call hb2).all
    clear hb2
    go_wp2
    refine bodyPost_ret (v := .agg #[.int .u8 1, .int .u64 0, .string ⟨#[]⟩, .slice none 0 0]) (by simp [results, Tryz.results29, go_sem, d0, d1, d2, d3]) rfl ?_
    obtain ⟨h1, h2⟩ := HS2.out.fin HF.out (.int .u8 1) (.int .u64 0) (.string ⟨#[]⟩) (.slice none 0 0)
    exact ⟨_, rfl, ⟨none, 0, 0, rfl, Kids.none_ _ _ _ _ _⟩, h1, h2⟩
  | some v =>
    obtain ⟨k, n, t, ks⟩ := v
    have hbk := ask_bulk ha
    rw [ha] at HT
    have HBK := Lib.hid (show bulkL ks ≤ 1073741824 by have := HN.out; simp only [bulk] at hbk; omega)
    have HQ := Lib.hid (show valR ls i L sp = if fitsB L k = true then (.mk k n t ks, sp) else (nullV, true) by
      cases hf : fitsB L k with
      | true => rw [if_pos rfl]; exact valR_yes ha hf
      | false => rw [if_neg Bool.false_ne_true]; exact valR_no ha hf)
    have HQ2 := Lib.hid hq
    have HLL := Lib.hid HKI.out.rd.len
    clear ha hbk hq
    go_enter Tryz.func29, Tryz.ntmps29
    go_wp2_with fail
    refine HT.out.mono ?_
    rintro e w1 ⟨A', l', c', rfl, hk, hn, hKd, hbt, hF1⟩
    have hnx : Below w1.heap.size w1 (w1.alloc (.cells #[.int .u8 (k : Int), .int .u64 (n : Int), .string t, .slice A' l' c'] 25)) := (Below.refl _ _).alloc (Nat.le_refl _) _
    have hx1 := HX.out.call hbt
    have hlow : w.heap.size < w1.heap.size := hx1.lt
    have hgl1 : g < w1.heap.size := hF1.lt
    have hSW : SW X w (w1.alloc (.cells #[.int .u8 (k : Int), .int .u64 (n : Int), .string t, .slice A' l' c'] 25)) g ls A l c sp w1.heap.size k n t ks A' l' c' KA kl L :=
      ⟨(HS0.out.next (Off.of _ hbt) hF1).call hnx, hx1.call hnx, Box.new w1 _ _ _ _, hKd.call hnx, (HKI.out.call (show Below w.heap.size w (w.alloc (.cells #[.int .u8 0, .int .u64 0, .string ⟨#[]⟩, .slice none 0 0] 25)) from (Below.refl _ _).alloc (Nat.le_refl _) _)).call hbt |>.call hnx, by omega, hlow⟩
    have HSW := Lib.hid hSW
    have HKK := Lib.hid hk
    have HNN := Lib.hid hn
    have hlim := HKI.out.lim
    clear hnx hx1 hlow hgl1 hSW hk hn hKd hbt hF1 HX HS0 HT
    obtain ⟨f0, hf0⟩ : ∃ f, ((kl : Int) == 0) = f := ⟨_, rfl⟩
    have HF0 := Lib.hid (show fitN L k 0 = f0 by
      rw [← hf0]
      unfold fitN
      simp only [List.take_zero, List.not_mem_nil, decide_false, Bool.or_false]
      rw [HLL.out]
      by_cases h : kl = 0
      · rw [h]; rfl
      · rw [decide_eq_false h]; symm; rw [beq_eq_false_iff_ne]; omega)
    obtain ⟨W1, hW1⟩ : ∃ W1, w1.alloc (.cells #[.int .u8 (k : Int), .int .u64 (n : Int), .string t, .slice A' l' c'] 25) = W1 := ⟨_, rfl⟩
    rw [hW1] at HSW
    obtain ⟨G7, hG7⟩ : ∃ G7, w1.heap.size = G7 := ⟨_, rfl⟩
    rw [hG7] at HSW
    go_wp2_with fail
    clear hW1 hG7 hf0
    go_loopw [9, 10] (fun s9 s wr => ∃ (j : Nat) (f : Bool), j ≤ kl ∧ s9 = .bool f ∧ s = .int .i64 j ∧ fitN L k j = f ∧ SW X w wr g ls A l c sp G7 k n t ks A' l' c' KA kl L) (fun _ s _ => kl - (intOf s).toNat)
    case atStart => exact ⟨0, f0, Nat.zero_le _, rfl, rfl, HF0.out, HSW.out⟩
    case round =>
      obtain ⟨j, f, hj, rfl, rfl, hf, hS⟩ := hrel
      have HFN := Lib.hid hf
      have HS := Lib.hid hS
      by_cases hlt : j < kl
      · obtain ⟨b, o, y, rfl, hb, hx, hy256, hcell⟩ := hS.ki.rd.at_ hlt
        have HST := Lib.hid (fit_step (k := k) hx)
        obtain ⟨z0, z1, z2, z3, _⟩ := hS.b7.all
        have HJ := Lib.hid hj
        clear hf hS hx HSW
        cases f with
        | true =>
          go_wp2_with fail
          go_quiet (fail)
          go_wp2_with fail
          go_roundw
          case rel => exact ⟨j + 1, true, by omega, rfl, by go_num, by rw [HST.out, HFN.out]; rfl, HS.out.call (below_drewN (Below.refl _ _) _)⟩
          case measure => simp [intOf]; omega
        | false =>
          obtain ⟨d, hd⟩ : ∃ d, ((y : Int) == (k : Int)) = d := ⟨_, rfl⟩
          have HD : Hid (decide (k = y) = d) := Lib.hid (by rw [← hd]; by_cases h : k = y; (· subst h; simp); (· simp [h]; omega))
          go_wp2_with fail
          go_quiet (fail)
          go_wp2_with fail
          go_roundw
          case rel => exact ⟨j + 1, d, by omega, rfl, by go_num, by rw [HST.out, HFN.out, HD.out]; rfl, HS.out.call (below_drewN (Below.refl _ _) _)⟩
          case measure => simp [intOf]; omega
      · have HFE : Hid (fitsB L k = f) := Lib.hid (by rw [← fit_end L k (j := j) (by have := HLL.out; omega)]; exact hf)
        obtain ⟨z0, z1, z2, z3, _⟩ := hS.b7.all
        clear hf hS HSW
        cases f with
        | true =>
          have hq := HQ2.out
          rw [HQ.out, HFE.out, if_pos rfl] at hq
          injection hq with e1 e2
          injection e1 with q1 q2 q3 q4
          subst q1; subst q2; subst q3; subst q4; subst e2
          go_wp2_with fail
          refine (xcopy_any k n t ks A' l' c' _ HBK.out HS.out.kd).mono ?_
          rintro e w5 ⟨A5, l5, c5, rfl, hN5, hb5⟩
          have HS5 := Lib.hid (HS.out.call hb5)
          have HN5 := Lib.hid hN5
          obtain ⟨d0, d1, d2, d3, df⟩ := HS5.out.b6.all
          have h6l := HS.out.b6.lt
          clear hb5 hN5 z0 z1 z2 z3
          go_wp2
          refine bodyPost_ret (v := .agg #[.int .u8 (k : Int), .int .u64 (n : Int), .string t, .slice A5 l5 c5]) (by simp [results, Tryz.results29, go_sem, d0, d1, d2, d3]) rfl ?_
          obtain ⟨h1, h2⟩ := HS5.out.sx.fin HF.out (.int .u8 (k : Int)) (.int .u64 (n : Int)) (.string t) (.slice A5 l5 c5)
          exact ⟨_, rfl, ⟨A5, l5, c5, rfl, (HN5.out.far4 h6l _ _ _ _).less (by omega)⟩, h1, h2⟩
        | false =>
          have hq := HQ2.out
          rw [HQ.out, HFE.out, if_neg Bool.false_ne_true] at hq
          injection hq with e1 e2
          unfold nullV at e1
          injection e1 with q1 q2 q3 q4
          subst q1; subst q2; subst q3; subst q4; subst e2
          obtain ⟨a0, a1, af⟩ := HS.out.sx.fld.cells
          have hsp := HS.out.sx.spoil
          have h6 := HS.out.b6.far (p := ⟨g, 1, none⟩) (show w.heap.size ≠ g by have := HGL.out; omega) (.bool true)
          have HSP := Lib.hid hsp
          have H6 := Lib.hid h6
          clear hsp h6 z0 z1 z2 z3
          go_wp2_with fail
          refine (fxnul_new _).mono ?_
          rintro e w5 ⟨rfl, hb5⟩
          have HS5 := Lib.hid (HSP.out.call hb5)
          obtain ⟨d0, d1, d2, d3, df⟩ := (H6.out.call hb5).all
          clear hb5 a0 a1
          go_wp2
          refine bodyPost_ret (v := .agg #[.int .u8 1, .int .u64 0, .string ⟨#[]⟩, .slice none 0 0]) (by simp [results, Tryz.results29, go_sem, d0, d1, d2, d3]) rfl ?_
          obtain ⟨h1, h2⟩ := HS5.out.fin HF.out (.int .u8 1) (.int .u64 0) (.string ⟨#[]⟩) (.slice none 0 0)
          exact ⟨_, rfl, ⟨none, 0, 0, rfl, Kids.none_ _ _ _ _ _⟩, h1, h2⟩
end Go.Proofs.YtobnbgbijdhjjaaGreatDoor.Fl
