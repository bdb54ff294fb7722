/-
  The walk of the statement ValueKids: of a value that may be all kids may be, and it is as deep, and has as many parts, as these make it. Conditions: the table utf.shapes lies as the program's text lays it; values of bulk at most 2^20.
-/
import Derived.Test.YtdbcdabijolagaaDoorElem
import Derived.Test.YtdbcdabijolagaaDoorLarge
import Derived.Deep.RegionHeld3
import Derived.Deep.RegionWith
namespace Go.Proofs.YtdbcdabijolagaaDoor.valueKids
open Go.RowKit Go.Proofs.YtdbcdabijolagaaDoor.Utf Go.Proofs.YtdbcdabijolagaaDoor.Val V

/-- May all of them be? -/
noncomputable def allOk (l : List V) : Bool := l.all okB
theorem allOk_take {l : List V} {i : Nat} {v : V} (h : l[i]? = some v) : allOk (l.take (i + 1)) = (allOk (l.take i) && okB v) := by
  rw [take_snoc h]; simp [allOk]

/-- What stays: memory that was there, the table, and the list that was made. -/
def St (w : World) (g : Nat) (ks : List V) (A5 : Option Addr) (l5 c5 : Nat) (wr : World) : Prop := Below w.heap.size w wr ∧ Tab wr ∧ Box wr g (.int .u8 22) (.int .u64 0) (.string ⟨#[]⟩) (.slice A5 l5 c5) ∧ Kd wr ks A5 l5 c5
section
variable {w wr w' : World} {g : Nat} {ks : List V} {A5 : Option Addr} {l5 c5 : Nat}
theorem St.call (h : St w g ks A5 l5 c5 wr) (hb : Below wr.heap.size wr w') : St w g ks A5 l5 c5 w' := ⟨below_next h.1 hb, h.2.1.call hb, h.2.2.1.call hb, h.2.2.2.call hb⟩
theorem St.low (h : St w g ks A5 l5 c5 wr) : Below w.heap.size w wr := h.1
theorem St.tab (h : St w g ks A5 l5 c5 wr) : Tab wr := h.2.1
theorem St.box (h : St w g ks A5 l5 c5 wr) : Box wr g (.int .u8 22) (.int .u64 0) (.string ⟨#[]⟩) (.slice A5 l5 c5) := h.2.2.1
theorem St.kd (h : St w g ks A5 l5 c5 wr) : Kd wr ks A5 l5 c5 := h.2.2.2
end

theorem allOk_may {l : List V} (h : allOk l = true) : mayL l = true := by
  induction l with
  | nil => rfl
  | cons x l ih =>
    simp only [allOk, List.all_cons, Bool.and_eq_true] at h
    simp only [mayL, Bool.and_eq_true]
    refine ⟨?_, ih h.2⟩
    simp only [okB, Bool.and_eq_true] at h
    exact h.1.2
theorem allOk_of {l : List V} (hm : mayL l = true) (hi : itemsL l ≤ 1024) (hd : depthL l ≤ 16) : allOk l = true := by
  induction l with
  | nil => rfl
  | cons x l ih =>
    simp only [mayL, Bool.and_eq_true] at hm
    simp only [itemsL, depthL] at hi hd
    simp only [allOk, List.all_cons, Bool.and_eq_true]
    refine ⟨?_, ih hm.2 (by omega) (by omega)⟩
    simp only [okB, Bool.and_eq_true, decide_eq_true_eq]
    exact ⟨⟨by omega, by omega⟩, hm.1⟩
theorem ok_iff (v : V) : okB v = true ↔ items v ≤ 1024 ∧ depth v ≤ 16 ∧ mayB v = true := by
  simp only [okB, Bool.and_eq_true, decide_eq_true_eq, and_assoc]
theorem ok_list (ks : List V) : okB (.mk 22 0 ⟨#[]⟩ ks) = (allOk ks && decide (depthL ks < 16) && decide (itemsL ks < 1024)) := by
  rw [Bool.eq_iff_iff, ok_iff, items_mk, depth_mk]
  have e : mayB (.mk 22 0 ⟨#[]⟩ ks) = mayL ks := by
    have e : aloneOk 22 0 ⟨#[]⟩ ks.length = true := by simp [aloneOk, emp0]
    simp only [mayB, e, kidsOk_else (k := 22) (ks := ks) (by omega) (by omega) (by omega), Bool.and_true]
  simp only [e, Bool.and_eq_true, decide_eq_true_eq]
  constructor
  · rintro ⟨h1, h2, h3⟩
    exact ⟨⟨allOk_of h3 (by omega) (by omega), by omega⟩, by omega⟩
  · rintro ⟨⟨h1, h2⟩, h3⟩
    exact ⟨by omega, by omega, allOk_may h1⟩
theorem may_num (k n : Nat) (h : k = 5 ∧ n < 4294967296 ∨ k = 6) : mayB (.mk k n ⟨#[]⟩ []) = true := by
  rcases h with ⟨rfl, h⟩ | rfl
  · simp [mayB, mayL, aloneOk, emp0, numB, kidsOk, h]
  · simp [mayB, mayL, aloneOk, emp0, numB, kidsOk]
theorem ok_called (n : Nat) (v : V) : okB (.mk 25 0 ⟨#[]⟩ [.mk 6 n ⟨#[]⟩ [], v]) = (okB v && decide (depth v < 16) && decide (items v < 1023)) := by
  rw [Bool.eq_iff_iff, ok_iff, items_mk, depth_mk]
  have e : mayB (.mk 25 0 ⟨#[]⟩ [.mk 6 n ⟨#[]⟩ [], v]) = mayB v := by
    have e : aloneOk 25 0 ⟨#[]⟩ 2 = true := by simp [aloneOk, emp0]
    have e2 : kidsOk 25 [.mk 6 n ⟨#[]⟩ [], v] = true := by simp [kidsOk, nameB, kind]
    simp only [mayB.eq_1 25 0, mayL, may_num 6 n (.inr rfl), List.length_cons, List.length_nil, Nat.reduceAdd, e, e2, Bool.and_true, Bool.true_and]
  have hd := depth_pos v
  have hi : itemsL [.mk 6 n ⟨#[]⟩ [], v] = items v + 1 := by simp [itemsL, items]; omega
  have hdd : depthL [.mk 6 n ⟨#[]⟩ [], v] = depth v := by simp [depthL, depth]; omega
  rw [e, hi, hdd]
  simp only [Bool.and_eq_true, decide_eq_true_eq, ok_iff]
  constructor
  · rintro ⟨h1, h2, h3⟩
    exact ⟨⟨⟨by omega, by omega, h3⟩, by omega⟩, by omega⟩
  · rintro ⟨⟨⟨h1, h2, h3⟩, h4⟩, h5⟩
    exact ⟨by omega, by omega, h3⟩
theorem ok_uint (v : V) : okB (.mk 25 0 ⟨#[]⟩ [.mk 5 1 ⟨#[]⟩ [], v]) = false := by
  have e2 : kidsOk 25 [.mk 5 1 ⟨#[]⟩ [], v] = false := by simp [kidsOk, nameB, kind]
  simp only [okB, mayB.eq_1 25 0, e2, Bool.and_false]

/-- A value that is called something. -/
theorem called_desc {w : World} {k n m : Nat} {t : ByteArray} {ks : List V} {A : Option Addr} {l c D I : Nat} {r : Bool} (h : Tells k n t ks r D I) (hb : bulk (.mk k n t ks) ≤ 1048576) (hk : k < 256) (hm : m < 18446744073709551616) (hK : Kd w ks A l c) :
    Calls Tryd.prog 24 #[.agg #[.int .u8 6, .int .u64 m, .string ⟨#[]⟩, .slice none 0 0], .agg #[.int .u8 k, .int .u64 n, .string t, .slice A l c]] w (GivesQ 25 [.mk 6 m ⟨#[]⟩ [], .mk k n t ks] w) :=
  vdesc_any 6 m ⟨#[]⟩ [] none 0 0 k n t ks A l c w (by simp only [bulkL, bulk] at hb ⊢; show 0 + 0 + 1 + _ ≤ _; omega) (by omega) hm hk h.2.2.2.2 (Kd.none_ _ _ _) hK
theorem uint_desc {w : World} {k n : Nat} {t : ByteArray} {ks : List V} {A : Option Addr} {l c D I : Nat} {r : Bool} (h : Tells k n t ks r D I) (hb : bulk (.mk k n t ks) ≤ 1048576) (hk : k < 256) (hK : Kd w ks A l c) :
    Calls Tryd.prog 24 #[.agg #[.int .u8 5, .int .u64 1, .string ⟨#[]⟩, .slice none 0 0], .agg #[.int .u8 k, .int .u64 n, .string t, .slice A l c]] w (GivesQ 25 [.mk 5 1 ⟨#[]⟩ [], .mk k n t ks] w) :=
  vdesc_any 5 1 ⟨#[]⟩ [] none 0 0 k n t ks A l c w (by simp only [bulkL, bulk] at hb ⊢; show 0 + 0 + 1 + _ ≤ _; omega) (by omega) (by omega) hk h.2.2.2.2 (Kd.none_ _ _ _) hK
theorem called_right {w : World} {k n m : Nat} {t : ByteArray} {ks : List V} {A : Option Addr} {l c D I : Nat} {r : Bool} (h : Tells k n t ks r D I) (hb : bulk (.mk k n t ks) ≤ 1048576) (hK : Kd w [.mk 6 m ⟨#[]⟩ [], .mk k n t ks] A l c) (ht : Tab w) :
    Calls Tryd.prog 13 #[.agg #[.int .u8 25, .int .u64 0, .string ⟨#[]⟩, .slice A l c]] w (GivesB (r && decide (D < 16) && decide (I < 1023)) w) := by
  obtain ⟨rfl, rfl, rfl, _, _⟩ := h
  have := vright_any 25 0 ⟨#[]⟩ [.mk 6 m ⟨#[]⟩ [], .mk k n t ks] A l c w (by simp only [bulkL, bulk] at hb ⊢; show 0 + 0 + 1 + _ ≤ _; omega) (by decide) (by omega) hK ht
  rw [ok_called] at this
  exact this
theorem uint_right {w : World} {k n : Nat} {t : ByteArray} {ks : List V} {A : Option Addr} {l c : Nat} (hb : bulk (.mk k n t ks) ≤ 1048576) (hK : Kd w [.mk 5 1 ⟨#[]⟩ [], .mk k n t ks] A l c) (ht : Tab w) :
    Calls Tryd.prog 13 #[.agg #[.int .u8 25, .int .u64 0, .string ⟨#[]⟩, .slice A l c]] w (GivesB false w) := by
  have := vright_any 25 0 ⟨#[]⟩ [.mk 5 1 ⟨#[]⟩ [], .mk k n t ks] A l c w (by simp only [bulkL, bulk] at hb ⊢; show 0 + 0 + 1 + _ ≤ _; omega) (by decide) (by omega) hK ht
  rw [ok_uint] at this
  exact this

theorem tab_call {w w' : World} (h : Tab w) (hb : Below w.heap.size w w') : Tab w' := h.call hb
theorem held2 {w w' : World} {g b p k' n' : Nat} {t t' : ByteArray} {sl : Value} {ks' : List V} {A' : Option Addr} {l' c' : Nat} {K N : Int} (hB : Box w g (.int .u8 K) (.int .u64 N) (.string t) sl) (h : El w b p k' n' t' ks' A' l' c') (hb : Below w.heap.size w w') :
    w'.cell? ⟨g, 0, none⟩ = some (.int .u8 K) ∧ w'.cell? ⟨g, 1, none⟩ = some (.int .u64 N) ∧ w'.cell? ⟨g, 2, none⟩ = some (.string t) ∧ w'.cell? ⟨g, 3, none⟩ = some sl ∧
    w'.cell? ⟨b, p, none⟩ = some (.int .u8 k') ∧ w'.cell? ⟨b, p + 1, none⟩ = some (.int .u64 n') ∧ w'.cell? ⟨b, p + 2, none⟩ = some (.string t') ∧ w'.cell? ⟨b, p + 3, none⟩ = some (.slice A' l' c') ∧ Below w.heap.size w w' := by
  obtain ⟨a0, a1, a2, a3, _⟩ := (hB.call hb).all
  exact ⟨a0, a1, a2, a3, h.held hb⟩

theorem list_right {w : World} {ks : List V} {A : Option Addr} {l c D I : Nat} {r : Bool} (h : Tells 22 0 ⟨#[]⟩ ks r (D + 1) (I + 1)) (hK : Kd w ks A l c) (ht : Tab w) : Calls Tryd.prog 13 #[.agg #[.int .u8 22, .int .u64 0, .string ⟨#[]⟩, .slice A l c]] w (GivesB r w) := h.right hK ht
theorem list_depth {w : World} {ks : List V} {A : Option Addr} {l c D I : Nat} {r : Bool} (h : Tells 22 0 ⟨#[]⟩ ks r (D + 1) (I + 1)) (hK : Kd w ks A l c) : Calls Tryd.prog 28 #[.agg #[.int .u8 22, .int .u64 0, .string ⟨#[]⟩, .slice A l c]] w fun e w' => e = .returned (.int .i64 ((D : Int) + 1)) ∧ Below w.heap.size w w' := h.depth hK
theorem list_items {w : World} {ks : List V} {A : Option Addr} {l c D I : Nat} {r : Bool} (h : Tells 22 0 ⟨#[]⟩ ks r (D + 1) (I + 1)) (hK : Kd w ks A l c) : Calls Tryd.prog 30 #[.agg #[.int .u8 22, .int .u64 0, .string ⟨#[]⟩, .slice A l c]] w fun e w' => e = .returned (.int .i64 ((I : Int) + 1)) ∧ Below w.heap.size w w' := h.items hK

set_option maxRecDepth 100000 in
set_option maxHeartbeats 8000000 in
theorem walk (ks : List V) (A : Option Addr) (l c name : Nat) (w : World) (ht : Tab w) (hN : bulkL ks ≤ 1048576) (hname : name < 18446744073709551616) (hK : Kd w ks A l c) : Calls Tryd.prog 7 #[.slice A l c, .int .u64 name] w (GivesB true w) := by
  have HN := Lib.hid hN
  have HNM := Lib.hid hname
  have hl1 : l ≤ ks.length := Nat.le_of_eq hK.len
  have hl2 : ks.length ≤ l := Nat.le_of_eq hK.len.symm
  have hlb := length_bulk ks
  have hit := itemsL_le ks
  have hdp := depthL_le ks
  obtain ⟨p, hp⟩ : ∃ p, decide (8192 < bigL ks) = p := ⟨_, rfl⟩
  have HL := large_any ks A l c w (by omega) hK
  rw [hp] at HL
  clear hp
  go_enter Tryd.func7, Tryd.ntmps7
  go_wp2_with fail
  refine HL.mono ?_
  rintro e w1 ⟨rfl, hb1⟩
  have hT1 := ht.call hb1
  have hK1 := hK.call hb1
  clear HL
  cases p with
  | true =>
    go_wp2_with (go_at_call 11; (with_reducible refine (works_any _ hT1).mono ?_); rintro e w3 ⟨rfl, hb3⟩)
    go_ret
    exact ⟨rfl, below_next hb1 hb3⟩
  | false =>
    go_wp2_with fail
    refine (vmany_any 22 ks A l c w1 (by omega) (by omega) hK1).mono ?_
    rintro e w2 ⟨A5, l5, c5, rfl, hN2, hb2⟩
    have hb := (below_next hb1 hb2).alloc (below_next hb1 hb2).size (.cells #[.int .u8 22, .int .u64 0, .string ⟨#[]⟩, .slice A5 l5 c5] 25)
    have hB5 := Box.new w2 (.int .u8 22) (.int .u64 0) (.string ⟨#[]⟩) (.slice A5 l5 c5)
    have hK5 := hN2.kd.alloc (.cells #[.int .u8 22, .int .u64 0, .string ⟨#[]⟩, .slice A5 l5 c5] 25)
    have hT := ht.call hb
    have hS : St w w2.heap.size ks A5 l5 c5 _ := ⟨hb, hT, hB5, hK5⟩
    clear hN2 hb hB5 hK5 hT ht hT1 hK1 hb1 hb2
    go_wp2_with fail
    obtain ⟨g5, hg5⟩ : ∃ g, w2.heap.size = g := ⟨_, rfl⟩
    rw [hg5] at hS ⊢
    clear hg5
    go_loopw [6, 7, 8, 9] (fun a d m i wr => ∃ j : Nat, j ≤ l ∧ i = .int .i64 j ∧ a = .bool (allOk (ks.take j)) ∧ d = .int .i64 ((depthL (ks.take j) : Nat) : Int) ∧ m = .int .i64 ((itemsL (ks.take j) : Nat) : Int) ∧ St w g5 ks A5 l5 c5 wr) (fun _ _ _ i _ => l - (intOf i).toNat)
    case atStart => exact ⟨0, Nat.zero_le _, rfl, rfl, rfl, rfl, hS⟩
    case round =>
      obtain ⟨j, hj, rfl, rfl, rfl, rfl, hS⟩ := hrel
      by_cases hlt : j < l
      · obtain ⟨b, o, k', n', t', ks', A', l', c', rfl, hx, hk', hn', hbk, hE⟩ := (hK.call hS.low).el hlt
        have HA := Lib.hid (allOk_take hx)
        have HD := Lib.hid (depthL_take hx)
        have HI := Lib.hid (itemsL_take hx)
        have hd1 := depthL_take_le ks (j + 1)
        have hi1 := itemsL_take_le ks (j + 1)
        have hd2 := depth_le (.mk k' n' t' ks')
        have hi2 := items_le (.mk k' n' t' ks')
        have hi3 : itemsL (ks.take j) + items (.mk k' n' t' ks') ≤ 1048576 := by have := HI.out; omega
        have hd3 := depthL_take_le ks j
        obtain ⟨r, hr⟩ : ∃ r, okB (.mk k' n' t' ks') = r := ⟨_, rfl⟩
        obtain ⟨D, hD⟩ : ∃ D, depth (.mk k' n' t' ks') = D := ⟨_, rfl⟩
        obtain ⟨I, hI⟩ : ∃ I, items (.mk k' n' t' ks') = I := ⟨_, rfl⟩
        obtain ⟨q, hq⟩ : ∃ q, allOk (ks.take j) = q := ⟨_, rfl⟩
        rw [hq, hr] at HA
        rw [hD] at HD hd2 
        rw [hI] at HI hi2 hi3 hd2
        have HX : Tells k' n' t' ks' r D I := ⟨hr, hD, hI, by omega, hn'⟩
        rw [hq]
        clear hx hr hD hI hq hn' hbk
        obtain ⟨h0, h1, h2, h3⟩ := hE.cells
        have hbl := hE.lt
        cases q
        all_goals
          go_wp2_with (first
            | (go_at_call 13; (with_reducible refine (HX.right hE.kd hS.tab).mono ?_); rintro e w2 ⟨rfl, hb2⟩; have hE := hE.call hb2; have hS := hS.call hb2; have hh := hE.cells; obtain ⟨h0, h1, h2, h3⟩ := hh)
            | (go_at_call 28; (with_reducible refine (HX.depth hE.kd).mono ?_); rintro e w3 ⟨rfl, hb3⟩; have hE := hE.call hb3; have hS := hS.call hb3; have hh := hE.cells; obtain ⟨h0, h1, h2, h3⟩ := hh)
            | (go_at_call 30; (with_reducible refine (HX.items hE.kd).mono ?_); rintro e w4 ⟨rfl, hb4⟩; have hE := hE.call hb4; have hS := hS.call hb4; have hh := hE.cells; obtain ⟨h0, h1, h2, h3⟩ := hh))
          go_roundw
          case rel => exact ⟨j + 1, by omega, by go_num, by rw [HA.out]; rfl, by rw [HD.out]; go_num, by rw [HI.out]; go_num, hS⟩
          case measure => simp [intOf]; omega
      · have HE : Hid (ks.take j = ks) := Lib.hid (List.take_of_length_le (by omega))
        rw [HE.out]
        have HV : Tells 22 0 ⟨#[]⟩ ks (allOk ks && decide (depthL ks < 16) && decide (itemsL ks < 1024)) (depthL ks + 1) (itemsL ks + 1) := ⟨ok_list ks, depth_mk _ _ _ _, items_mk _ _ _ _, by show bulkL ks + 0 + 1 ≤ 2097152; omega, by omega⟩
        have HK := Lib.hid hK
        obtain ⟨P, hP⟩ : ∃ P, allOk ks = P := ⟨_, rfl⟩
        obtain ⟨D, hD⟩ : ∃ D, depthL ks = D := ⟨_, rfl⟩
        obtain ⟨I, hI⟩ : ∃ I, itemsL ks = I := ⟨_, rfl⟩
        rw [hP, hD, hI] at HV ⊢
        rw [hD] at hdp
        rw [hI] at hdp hit
        clear hP hD hI hK
        have e1 := dec_nat D 16
        have e2 := dec_nat I 1024
        obtain ⟨d, hd⟩ : ∃ d, decide (D < 16) = d := ⟨_, rfl⟩
        obtain ⟨m, hm⟩ : ∃ m, decide (I < 1024) = m := ⟨_, rfl⟩
        rw [hd] at HV e1
        rw [hm] at HV e2
        clear hd hm
        have hD2 : D ≤ 1048576 := by omega
        have hI2 : I ≤ 1048576 := by omega
        clear hdp hit hlb hN
        simp only [Int.cast_ofNat_Int] at e1 e2
        have hbx := hS.box.all
        obtain ⟨x0, x1, x2, x3, xf⟩ := hbx
        go_upto_region 13 with (fail)
        go_cut [70] (fun z wx => z = .bool false ∧ St w g5 ks A5 l5 c5 wx)
        case first =>
          cases P <;> cases d <;> cases m
          all_goals
            go_wp2_with (first
              | (go_at_call 28; (with_reducible refine (list_depth HV hS.kd).mono ?_); rintro e w3 ⟨rfl, hb3⟩; have hS := hS.call hb3; have hbx := hS.box.all; obtain ⟨x0, x1, x2, x3, xf⟩ := hbx)
              | (go_at_call 30; (with_reducible refine (list_items HV hS.kd).mono ?_); rintro e w4 ⟨rfl, hb4⟩; have hS := hS.call hb4; have hbx := hS.box.all; obtain ⟨x0, x1, x2, x3, xf⟩ := hbx)
              | (go_at_call 13; (with_reducible refine (list_right HV hS.kd hS.tab).mono ?_); rintro e w2 ⟨rfl, hb2⟩; have hS := hS.call hb2))
            go_meet
            exact ⟨rfl, hS⟩
        case rest =>
          obtain ⟨rfl, hS⟩ := hcut
          have hK := HK.out
          go_wp2_with fail
          clear HV e1 e2 hD2 hI2 x0 x1 x2 x3 xf HE
          have hl9 : l ≤ 1048576 := by have := HN.out; have := length_bulk ks; omega
          go_loopw [10] (fun i wr => ∃ j : Nat, j ≤ l ∧ i = .int .i64 j ∧ St w g5 ks A5 l5 c5 wr) (fun i _ => l - (intOf i).toNat)
          case atStart => exact ⟨0, Nat.zero_le _, rfl, hS⟩
          case round =>
            obtain ⟨j, hj, rfl, hS⟩ := hrel
            by_cases hlt : j < l
            · obtain ⟨b, o, k', n', t', ks', A', l', c', rfl, hx, hk', hn', hbk, hE⟩ := (hK.call hS.low).el hlt
              have hd2 := depth_le (.mk k' n' t' ks')
              have hi2 := items_le (.mk k' n' t' ks')
              obtain ⟨r, hr⟩ : ∃ r, okB (.mk k' n' t' ks') = r := ⟨_, rfl⟩
              obtain ⟨D, hD⟩ : ∃ D, depth (.mk k' n' t' ks') = D := ⟨_, rfl⟩
              obtain ⟨I, hI⟩ : ∃ I, items (.mk k' n' t' ks') = I := ⟨_, rfl⟩
              have hb20 : bulk (.mk k' n' t' ks') ≤ 1048576 := Nat.le_trans hbk HN.out
              have HX : Tells k' n' t' ks' r D I := ⟨hr, hD, hI, by omega, hn'⟩
              have HB20 := Lib.hid hb20
              have HK' := Lib.hid hk'
              rw [hD] at hd2
              rw [hI] at hi2 hd2
              clear hx hr hD hI hn' hbk hk'
              have hH0 : Below wr.heap.size wr wr.drew := (Below.refl _ _).drew
              have hcE := hE.cells
              obtain ⟨h0, h1, h2, h3⟩ := hcE
              have hbl := hE.lt
              go_wp2_with fail
              go_cut [11] (fun s11 wx => ∃ g A11 l11 c11, s11 = .pointer (some ⟨g, 0, none⟩) ∧ Box wx g (.int .u8 25) (.int .u64 0) (.string ⟨#[]⟩) (.slice A11 l11 c11) ∧ Kd wx [.mk 6 name ⟨#[]⟩ [], .mk k' n' t' ks'] A11 l11 c11 ∧ Below wr.heap.size wr wx)
              case first =>
                go_region_held3 (fun wx => wx.cell? ⟨b, o + j * 4, none⟩ = some (.int .u8 (k' : Int)) ∧ wx.cell? ⟨b, o + j * 4 + 1, none⟩ = some (.int .u64 (n' : Int)) ∧ wx.cell? ⟨b, o + j * 4 + 2, none⟩ = some (.string t') ∧ wx.cell? ⟨b, o + j * 4 + 3, none⟩ = some (.slice A' l' c') ∧ Below wr.heap.size wr wx) (with_reducible first | assumption | exact hE.held hH0 | exact hE.held (Below.drew (Below.alloc (Below.refl _ _) (Nat.le_refl _) _)) | exact hE.held (below_set4 hq3 hgz _ _ _ _) | exact hE.held (Below.alloc hq3 hq3.size _) | exact hE.held (Below.alloc hq1 hq1.size _) | exact hE.held hq3 | exact hE.held hq1 | fail)
                  (first
                  | (go_at_call 19; (with_reducible refine (num_any _ _ _).mono ?_); rintro e w1 ⟨rfl, hb1⟩; have hq1 : Below wr.heap.size wr w1 := (by first | exact below_next hH0 hb1 | exact below_next ((Below.alloc (Below.refl _ _) (Nat.le_refl _) _).drew) hb1))
                  | (go_at_call 24; (with_reducible refine (called_desc HX HB20.out HK'.out HNM.out (by first | exact hE.kd.call hq1 | exact (hE.kd.call hq1).alloc _)).mono ?_); rintro e w3 ⟨A3, l3, c3, rfl, hN3, hb3⟩; have hq3 : Below wr.heap.size wr w3 := (by with_reducible first | exact below_next hq1 hb3 | exact below_next (hq1.alloc hq1.size _) hb3 | fail); (first
                      | (have Z : Box w3 w1.heap.size (.int .u8 0) (.int .u64 0) (.string ⟨#[]⟩) (.slice none 0 0) := (by with_reducible exact (Box.new w1 _ _ _ _).call hb3); have hgN := (by with_reducible exact Box.call_lt (Box.new w1 _ _ _ _) hb3); have hgz : wr.heap.size ≤ w1.heap.size := hq1.size; obtain ⟨z0, z1, z2, z3, zf⟩ := Z.all)
                      | (have Z : Box w3 wr.heap.size (.int .u8 0) (.int .u64 0) (.string ⟨#[]⟩) (.slice none 0 0) := (by with_reducible exact ((Box.newd wr _ _ _ _).call hb1).call hb3); have hgN := (by with_reducible exact Box.call_lt ((Box.newd wr _ _ _ _).call hb1) hb3); have hgz : wr.heap.size ≤ wr.heap.size := Nat.le_refl _; obtain ⟨z0, z1, z2, z3, zf⟩ := Z.all)
                      | have Z := True.intro))
                  | fail)
                all_goals
                  go_wp2_with fail
                  go_meet
                  with_reducible first | exact ⟨_, A3, l3, c3, rfl, Z.set4 _ _ _ _, (hN3.far4 hgN _ _ _ _).kd, below_set4 hq3 hgz _ _ _ _⟩ | exact ⟨_, A3, l3, c3, rfl, Box.new w3 _ _ _ _, hN3.kd.alloc _, hq3.alloc hq3.size _⟩ | fail
              case rest =>
                obtain ⟨g, A11, l11, c11, rfl, hBX, hKX, hq⟩ := hcut
                have hE := hE.call hq
                have hS := hS.call hq
                have hcE := hE.cells
                obtain ⟨h0, h1, h2, h3⟩ := hcE
                have hcB := hBX.all
                obtain ⟨y0, y1, y2, y3, yf⟩ := hcB
                have hbl := hE.lt
                have hgl := hBX.lt
                clear hq hH0
                have hH0 : Below wc.heap.size wc wc.drew := (Below.refl _ _).drew
                have f1 := dec_nat D 16
                have f2 := dec_nat I 1023
                obtain ⟨d, hd⟩ : ∃ d, decide (D < 16) = d := ⟨_, rfl⟩
                obtain ⟨m, hm⟩ : ∃ m, decide (I < 1023) = m := ⟨_, rfl⟩
                have HD := Lib.hid hd
                have HM := Lib.hid hm
                rw [hd] at f1
                rw [hm] at f2
                clear hd hm
                simp only [Int.cast_ofNat_Int] at f1 f2
                go_wp2_with fail
                go_cut [107] (fun s wx => s = .bool false ∧ Below wc.heap.size wc wx)
                case first =>
                  cases r with
                  | false =>
                    refine wp_region_noPanic ?_
                    refine wp_region_held_drew (S := fun wx => wx.cell? ⟨g, 0, none⟩ = some (.int .u8 25) ∧ wx.cell? ⟨g, 1, none⟩ = some (.int .u64 0) ∧ wx.cell? ⟨g, 2, none⟩ = some (.string ⟨#[]⟩) ∧ wx.cell? ⟨g, 3, none⟩ = some (.slice A11 l11 c11) ∧ wx.cell? ⟨b, o + j * 4, none⟩ = some (.int .u8 (k' : Int)) ∧ wx.cell? ⟨b, o + j * 4 + 1, none⟩ = some (.int .u64 (n' : Int)) ∧ wx.cell? ⟨b, o + j * 4 + 2, none⟩ = some (.string t') ∧ wx.cell? ⟨b, o + j * 4 + 3, none⟩ = some (.slice A' l' c') ∧ Below wc.heap.size wc wx) (by kernel_rfl) (by exact held2 hBX hE hH0) (fun hHeld => ?_)
                    (refine wpAnyH_take (i := 0) (oi := ⟨some 84, _, _, _, _, _⟩) (v := ?_) rfl (by kernel_rfl) (by kernel_rfl) (by kernel_rfl) (fun _ _ _ h => h) (Or.inl ⟨by kernel_rfl, ?_⟩) (by assumption) ?_; rotate_left 1; (· intro w hSw; (try dsimp only at hSw); go_simp; (try with_reducible rfl)))
                    try simp only [Act.put, List.setIfInBounds_toArray, List.set_cons_zero, List.set_cons_succ]
                    (refine wpAnyH_take (i := 2) (oi := ⟨some 86, _, _, _, _, _⟩) (v := ?_) rfl (by kernel_rfl) (by kernel_rfl) (by kernel_rfl) (fun _ _ _ h => h) (Or.inl ⟨by kernel_rfl, ?_⟩) (by assumption) ?_; rotate_left 1; (· intro w hSw; (try dsimp only at hSw); go_simp; (try with_reducible rfl)))
                    try simp only [Act.put, List.setIfInBounds_toArray, List.set_cons_zero, List.set_cons_succ]
                    (refine wpAnyH_take (i := 3) (oi := ⟨some 87, _, _, _, _, _⟩) (v := ?_) rfl (by kernel_rfl) (by kernel_rfl) (by kernel_rfl) (fun _ _ _ h => h) (Or.inl ⟨by kernel_rfl, ?_⟩) (by assumption) ?_; rotate_left 1; (· intro w hSw; (try dsimp only at hSw); go_simp; (try with_reducible rfl)))
                    try simp only [Act.put, List.setIfInBounds_toArray, List.set_cons_zero, List.set_cons_succ]
                    (refine wpAnyH_take (i := 4) (oi := ⟨some 88, _, _, _, _, _⟩) (v := ?_) rfl (by kernel_rfl) (by kernel_rfl) (by kernel_rfl) (fun _ _ _ h => h) (Or.inl ⟨by kernel_rfl, ?_⟩) (by assumption) ?_; rotate_left 1; (· intro w hSw; (try dsimp only at hSw); go_simp; (try with_reducible rfl)))
                    try simp only [Act.put, List.setIfInBounds_toArray, List.set_cons_zero, List.set_cons_succ]
                    (refine wpAnyH_take (i := 5) (oi := ⟨some 89, _, _, _, _, _⟩) (v := ?_) rfl (by kernel_rfl) (by kernel_rfl) (by kernel_rfl) (fun _ _ _ h => h) (Or.inl ⟨by kernel_rfl, ?_⟩) (by assumption) ?_; rotate_left 1; (· intro w hSw; (try dsimp only at hSw); go_simp; (try with_reducible rfl)))
                    try simp only [Act.put, List.setIfInBounds_toArray, List.set_cons_zero, List.set_cons_succ]
                    (refine wpAnyH_ready (rs := [1]) (by kernel_rfl) (by simp) ?_; refine AllReadyH.cons (o := ⟨some 85, _, _, _, _, _⟩) rfl (fun K hK => ?_) AllReadyH.nil; go_simp; (go_at_call 13; (with_reducible refine (called_right (m := name) HX HB20.out (hKX.call hH0) (tab_call hS.tab hH0)).mono ?_); rw [HD.out, HM.out]; rintro e w1 ⟨rfl, hb1⟩; have hc1 := below_next hH0 hb1); go_wp2_with fail; refine hK.out _ _ ?_ (fun hHeld => ?_); (· exact held2 hBX hE hc1); clear hK K)
                    try simp only [Act.put, List.setIfInBounds_toArray, List.set_cons_zero, List.set_cons_succ]
                    (refine wpAnyH_ready (rs := [6]) (by kernel_rfl) (by simp) ?_; refine AllReadyH.cons (o := ⟨some 90, _, _, _, _, _⟩) rfl (fun K hK => ?_) AllReadyH.nil; go_simp; (go_at_call 13; (with_reducible refine (HX.right (hE.kd.call hc1) (tab_call hS.tab hc1)).mono ?_); rintro e w2 ⟨rfl, hb2⟩; have hc2 := below_next hc1 hb2); go_wp2_with fail; refine hK.out _ _ ?_ (fun hHeld => ?_); (· exact held2 hBX hE hc2); clear hK K)
                    try simp only [Act.put, List.setIfInBounds_toArray, List.set_cons_zero, List.set_cons_succ]
                    (refine wpAnyH_take (i := 7) (oi := ⟨some 91, _, _, _, _, _⟩) (v := ?_) rfl (by kernel_rfl) (by kernel_rfl) (by kernel_rfl) (fun _ _ _ h => h) (Or.inl ⟨by kernel_rfl, ?_⟩) (by assumption) ?_; rotate_left 1; (· intro w hSw; (try dsimp only at hSw); go_simp; (try with_reducible rfl)))
                    try simp only [Act.put, List.setIfInBounds_toArray, List.set_cons_zero, List.set_cons_succ]
                    (refine wpAnyH_take (i := 8) (oi := ⟨some 92, _, _, _, _, _⟩) (v := undef) rfl (by kernel_rfl) (by kernel_rfl) (by kernel_rfl) (fun _ _ _ h => h) (Or.inr ⟨by kernel_rfl, rfl⟩) (by assumption) ?_)
                    try simp only [Act.put, List.setIfInBounds_toArray, List.set_cons_zero, List.set_cons_succ]
                    (refine wpAnyH_take (i := 9) (oi := ⟨some 93, _, _, _, _, _⟩) (v := undef) rfl (by kernel_rfl) (by kernel_rfl) (by kernel_rfl) (fun _ _ _ h => h) (Or.inr ⟨by kernel_rfl, rfl⟩) (by assumption) ?_)
                    try simp only [Act.put, List.setIfInBounds_toArray, List.set_cons_zero, List.set_cons_succ]
                    (refine wpAnyH_take (i := 10) (oi := ⟨some 94, _, _, _, _, _⟩) (v := undef) rfl (by kernel_rfl) (by kernel_rfl) (by kernel_rfl) (fun _ _ _ h => h) (Or.inr ⟨by kernel_rfl, rfl⟩) (by assumption) ?_)
                    try simp only [Act.put, List.setIfInBounds_toArray, List.set_cons_zero, List.set_cons_succ]
                    (refine wpAnyH_take (i := 11) (oi := ⟨some 95, _, _, _, _, _⟩) (v := undef) rfl (by kernel_rfl) (by kernel_rfl) (by kernel_rfl) (fun _ _ _ h => h) (Or.inr ⟨by kernel_rfl, rfl⟩) (by assumption) ?_)
                    try simp only [Act.put, List.setIfInBounds_toArray, List.set_cons_zero, List.set_cons_succ]
                    (refine wpAnyH_take (i := 12) (oi := ⟨some 96, _, _, _, _, _⟩) (v := undef) rfl (by kernel_rfl) (by kernel_rfl) (by kernel_rfl) (fun _ _ _ h => h) (Or.inr ⟨by kernel_rfl, rfl⟩) (by assumption) ?_)
                    try simp only [Act.put, List.setIfInBounds_toArray, List.set_cons_zero, List.set_cons_succ]
                    (refine wpAnyH_take (i := 13) (oi := ⟨some 97, _, _, _, _, _⟩) (v := undef) rfl (by kernel_rfl) (by kernel_rfl) (by kernel_rfl) (fun _ _ _ h => h) (Or.inr ⟨by kernel_rfl, rfl⟩) (by assumption) ?_)
                    try simp only [Act.put, List.setIfInBounds_toArray, List.set_cons_zero, List.set_cons_succ]
                    (refine wpAnyH_take (i := 14) (oi := ⟨some 98, _, _, _, _, _⟩) (v := ?_) rfl (by kernel_rfl) (by kernel_rfl) (by kernel_rfl) (fun _ _ _ h => h) (Or.inl ⟨by kernel_rfl, ?_⟩) (by assumption) ?_; rotate_left 1; (· intro w hSw; (try dsimp only at hSw); go_simp; (try with_reducible rfl)))
                    try simp only [Act.put, List.setIfInBounds_toArray, List.set_cons_zero, List.set_cons_succ]
                    (refine wpAnyH_take (i := 15) (oi := ⟨some 99, _, _, _, _, _⟩) (v := ?_) rfl (by kernel_rfl) (by kernel_rfl) (by kernel_rfl) (fun _ _ _ h => h) (Or.inl ⟨by kernel_rfl, ?_⟩) (by assumption) ?_; rotate_left 1; (· intro w hSw; (try dsimp only at hSw); go_simp; (try with_reducible rfl)))
                    try simp only [Act.put, List.setIfInBounds_toArray, List.set_cons_zero, List.set_cons_succ]
                    (refine wpAnyH_take (i := 16) (oi := ⟨some 100, _, _, _, _, _⟩) (v := undef) rfl (by kernel_rfl) (by kernel_rfl) (by kernel_rfl) (fun _ _ _ h => h) (Or.inr ⟨by kernel_rfl, rfl⟩) (by assumption) ?_)
                    try simp only [Act.put, List.setIfInBounds_toArray, List.set_cons_zero, List.set_cons_succ]
                    (refine wpAnyH_take (i := 17) (oi := ⟨some 101, _, _, _, _, _⟩) (v := undef) rfl (by kernel_rfl) (by kernel_rfl) (by kernel_rfl) (fun _ _ _ h => h) (Or.inr ⟨by kernel_rfl, rfl⟩) (by assumption) ?_)
                    try simp only [Act.put, List.setIfInBounds_toArray, List.set_cons_zero, List.set_cons_succ]
                    (refine wpAnyH_take (i := 18) (oi := ⟨some 102, _, _, _, _, _⟩) (v := undef) rfl (by kernel_rfl) (by kernel_rfl) (by kernel_rfl) (fun _ _ _ h => h) (Or.inr ⟨by kernel_rfl, rfl⟩) (by assumption) ?_)
                    try simp only [Act.put, List.setIfInBounds_toArray, List.set_cons_zero, List.set_cons_succ]
                    (refine wpAnyH_take (i := 19) (oi := ⟨some 103, _, _, _, _, _⟩) (v := undef) rfl (by kernel_rfl) (by kernel_rfl) (by kernel_rfl) (fun _ _ _ h => h) (Or.inr ⟨by kernel_rfl, rfl⟩) (by assumption) ?_)
                    try simp only [Act.put, List.setIfInBounds_toArray, List.set_cons_zero, List.set_cons_succ]
                    (refine wpAnyH_take (i := 20) (oi := ⟨some 104, _, _, _, _, _⟩) (v := undef) rfl (by kernel_rfl) (by kernel_rfl) (by kernel_rfl) (fun _ _ _ h => h) (Or.inr ⟨by kernel_rfl, rfl⟩) (by assumption) ?_)
                    try simp only [Act.put, List.setIfInBounds_toArray, List.set_cons_zero, List.set_cons_succ]
                    (refine wpAnyH_take (i := 21) (oi := ⟨some 105, _, _, _, _, _⟩) (v := undef) rfl (by kernel_rfl) (by kernel_rfl) (by kernel_rfl) (fun _ _ _ h => h) (Or.inr ⟨by kernel_rfl, rfl⟩) (by assumption) ?_)
                    try simp only [Act.put, List.setIfInBounds_toArray, List.set_cons_zero, List.set_cons_succ]
                    (refine wpAnyH_take (i := 22) (oi := ⟨some 106, _, _, _, _, _⟩) (v := ?_) rfl (by kernel_rfl) (by kernel_rfl) (by kernel_rfl) (fun _ _ _ h => h) (Or.inl ⟨by kernel_rfl, ?_⟩) (by assumption) ?_; rotate_left 1; (· intro w hSw; (try dsimp only at hSw); go_simp; (try with_reducible rfl)))
                    try simp only [Act.put, List.setIfInBounds_toArray, List.set_cons_zero, List.set_cons_succ]
                    (refine wpAnyH_take (i := 23) (oi := ⟨some 107, _, _, _, _, _⟩) (v := ?_) rfl (by kernel_rfl) (by kernel_rfl) (by kernel_rfl) (fun _ _ _ h => h) (Or.inl ⟨by kernel_rfl, ?_⟩) (by assumption) ?_; rotate_left 1; (· intro w hSw; (try dsimp only at hSw); go_simp; (try with_reducible rfl)))
                    try simp only [Act.put, List.setIfInBounds_toArray, List.set_cons_zero, List.set_cons_succ]
                    refine wpAnyH_done (by kernel_rfl) ?_ _
                    refine NoPanic.normal ?_
                    go_wp2_with fail
                    go_meet
                    exact ⟨rfl, hc2⟩
                  | true =>
                    cases d with
                    | false =>
                      refine wp_region_noPanic ?_
                      refine wp_region_held_drew (S := fun wx => wx.cell? ⟨g, 0, none⟩ = some (.int .u8 25) ∧ wx.cell? ⟨g, 1, none⟩ = some (.int .u64 0) ∧ wx.cell? ⟨g, 2, none⟩ = some (.string ⟨#[]⟩) ∧ wx.cell? ⟨g, 3, none⟩ = some (.slice A11 l11 c11) ∧ wx.cell? ⟨b, o + j * 4, none⟩ = some (.int .u8 (k' : Int)) ∧ wx.cell? ⟨b, o + j * 4 + 1, none⟩ = some (.int .u64 (n' : Int)) ∧ wx.cell? ⟨b, o + j * 4 + 2, none⟩ = some (.string t') ∧ wx.cell? ⟨b, o + j * 4 + 3, none⟩ = some (.slice A' l' c') ∧ Below wc.heap.size wc wx) (by kernel_rfl) (by exact held2 hBX hE hH0) (fun hHeld => ?_)
                      (refine wpAnyH_take (i := 0) (oi := ⟨some 84, _, _, _, _, _⟩) (v := ?_) rfl (by kernel_rfl) (by kernel_rfl) (by kernel_rfl) (fun _ _ _ h => h) (Or.inl ⟨by kernel_rfl, ?_⟩) (by assumption) ?_; rotate_left 1; (· intro w hSw; (try dsimp only at hSw); go_simp; (try with_reducible rfl)))
                      try simp only [Act.put, List.setIfInBounds_toArray, List.set_cons_zero, List.set_cons_succ]
                      (refine wpAnyH_take (i := 2) (oi := ⟨some 86, _, _, _, _, _⟩) (v := ?_) rfl (by kernel_rfl) (by kernel_rfl) (by kernel_rfl) (fun _ _ _ h => h) (Or.inl ⟨by kernel_rfl, ?_⟩) (by assumption) ?_; rotate_left 1; (· intro w hSw; (try dsimp only at hSw); go_simp; (try with_reducible rfl)))
                      try simp only [Act.put, List.setIfInBounds_toArray, List.set_cons_zero, List.set_cons_succ]
                      (refine wpAnyH_take (i := 3) (oi := ⟨some 87, _, _, _, _, _⟩) (v := ?_) rfl (by kernel_rfl) (by kernel_rfl) (by kernel_rfl) (fun _ _ _ h => h) (Or.inl ⟨by kernel_rfl, ?_⟩) (by assumption) ?_; rotate_left 1; (· intro w hSw; (try dsimp only at hSw); go_simp; (try with_reducible rfl)))
                      try simp only [Act.put, List.setIfInBounds_toArray, List.set_cons_zero, List.set_cons_succ]
                      (refine wpAnyH_take (i := 4) (oi := ⟨some 88, _, _, _, _, _⟩) (v := ?_) rfl (by kernel_rfl) (by kernel_rfl) (by kernel_rfl) (fun _ _ _ h => h) (Or.inl ⟨by kernel_rfl, ?_⟩) (by assumption) ?_; rotate_left 1; (· intro w hSw; (try dsimp only at hSw); go_simp; (try with_reducible rfl)))
                      try simp only [Act.put, List.setIfInBounds_toArray, List.set_cons_zero, List.set_cons_succ]
                      (refine wpAnyH_take (i := 5) (oi := ⟨some 89, _, _, _, _, _⟩) (v := ?_) rfl (by kernel_rfl) (by kernel_rfl) (by kernel_rfl) (fun _ _ _ h => h) (Or.inl ⟨by kernel_rfl, ?_⟩) (by assumption) ?_; rotate_left 1; (· intro w hSw; (try dsimp only at hSw); go_simp; (try with_reducible rfl)))
                      try simp only [Act.put, List.setIfInBounds_toArray, List.set_cons_zero, List.set_cons_succ]
                      (refine wpAnyH_ready (rs := [1]) (by kernel_rfl) (by simp) ?_; refine AllReadyH.cons (o := ⟨some 85, _, _, _, _, _⟩) rfl (fun K hK => ?_) AllReadyH.nil; go_simp; (go_at_call 13; (with_reducible refine (called_right (m := name) HX HB20.out (hKX.call hH0) (tab_call hS.tab hH0)).mono ?_); rw [HD.out, HM.out]; rintro e w1 ⟨rfl, hb1⟩; have hc1 := below_next hH0 hb1); go_wp2_with fail; refine hK.out _ _ ?_ (fun hHeld => ?_); (· exact held2 hBX hE hc1); clear hK K)
                      try simp only [Act.put, List.setIfInBounds_toArray, List.set_cons_zero, List.set_cons_succ]
                      (refine wpAnyH_ready (rs := [6]) (by kernel_rfl) (by simp) ?_; refine AllReadyH.cons (o := ⟨some 90, _, _, _, _, _⟩) rfl (fun K hK => ?_) AllReadyH.nil; go_simp; (go_at_call 13; (with_reducible refine (HX.right (hE.kd.call hc1) (tab_call hS.tab hc1)).mono ?_); rintro e w2 ⟨rfl, hb2⟩; have hc2 := below_next hc1 hb2); go_wp2_with fail; refine hK.out _ _ ?_ (fun hHeld => ?_); (· exact held2 hBX hE hc2); clear hK K)
                      try simp only [Act.put, List.setIfInBounds_toArray, List.set_cons_zero, List.set_cons_succ]
                      (refine wpAnyH_take (i := 7) (oi := ⟨some 91, _, _, _, _, _⟩) (v := ?_) rfl (by kernel_rfl) (by kernel_rfl) (by kernel_rfl) (fun _ _ _ h => h) (Or.inl ⟨by kernel_rfl, ?_⟩) (by assumption) ?_; rotate_left 1; (· intro w hSw; (try dsimp only at hSw); go_simp; (try with_reducible rfl)))
                      try simp only [Act.put, List.setIfInBounds_toArray, List.set_cons_zero, List.set_cons_succ]
                      (refine wpAnyH_take (i := 8) (oi := ⟨some 92, _, _, _, _, _⟩) (v := ?_) rfl (by kernel_rfl) (by kernel_rfl) (by kernel_rfl) (fun _ _ _ h => h) (Or.inl ⟨by kernel_rfl, ?_⟩) (by assumption) ?_; rotate_left 1; (· intro w hSw; (try dsimp only at hSw); go_simp; (try with_reducible rfl)))
                      try simp only [Act.put, List.setIfInBounds_toArray, List.set_cons_zero, List.set_cons_succ]
                      (refine wpAnyH_take (i := 9) (oi := ⟨some 93, _, _, _, _, _⟩) (v := ?_) rfl (by kernel_rfl) (by kernel_rfl) (by kernel_rfl) (fun _ _ _ h => h) (Or.inl ⟨by kernel_rfl, ?_⟩) (by assumption) ?_; rotate_left 1; (· intro w hSw; (try dsimp only at hSw); go_simp; (try with_reducible rfl)))
                      try simp only [Act.put, List.setIfInBounds_toArray, List.set_cons_zero, List.set_cons_succ]
                      (refine wpAnyH_take (i := 10) (oi := ⟨some 94, _, _, _, _, _⟩) (v := ?_) rfl (by kernel_rfl) (by kernel_rfl) (by kernel_rfl) (fun _ _ _ h => h) (Or.inl ⟨by kernel_rfl, ?_⟩) (by assumption) ?_; rotate_left 1; (· intro w hSw; (try dsimp only at hSw); go_simp; (try with_reducible rfl)))
                      try simp only [Act.put, List.setIfInBounds_toArray, List.set_cons_zero, List.set_cons_succ]
                      (refine wpAnyH_take (i := 11) (oi := ⟨some 95, _, _, _, _, _⟩) (v := ?_) rfl (by kernel_rfl) (by kernel_rfl) (by kernel_rfl) (fun _ _ _ h => h) (Or.inl ⟨by kernel_rfl, ?_⟩) (by assumption) ?_; rotate_left 1; (· intro w hSw; (try dsimp only at hSw); go_simp; (try with_reducible rfl)))
                      try simp only [Act.put, List.setIfInBounds_toArray, List.set_cons_zero, List.set_cons_succ]
                      (refine wpAnyH_ready (rs := [12]) (by kernel_rfl) (by simp) ?_; refine AllReadyH.cons (o := ⟨some 96, _, _, _, _, _⟩) rfl (fun K hK => ?_) AllReadyH.nil; go_simp; (go_at_call 28; (with_reducible refine (HX.depth (hE.kd.call hc2)).mono ?_); rintro e w3 ⟨rfl, hb3⟩; have hc3 := below_next hc2 hb3); go_wp2_with fail; refine hK.out _ _ ?_ (fun hHeld => ?_); (· exact held2 hBX hE hc3); clear hK K)
                      try simp only [Act.put, List.setIfInBounds_toArray, List.set_cons_zero, List.set_cons_succ]
                      (refine wpAnyH_take (i := 13) (oi := ⟨some 97, _, _, _, _, _⟩) (v := ?_) rfl (by kernel_rfl) (by kernel_rfl) (by kernel_rfl) (fun _ _ _ h => h) (Or.inl ⟨by kernel_rfl, ?_⟩) (by assumption) ?_; rotate_left 1; (· intro w hSw; (try dsimp only at hSw); go_simp; (try with_reducible rfl)))
                      try simp only [Act.put, List.setIfInBounds_toArray, List.set_cons_zero, List.set_cons_succ]
                      (refine wpAnyH_take (i := 14) (oi := ⟨some 98, _, _, _, _, _⟩) (v := ?_) rfl (by kernel_rfl) (by kernel_rfl) (by kernel_rfl) (fun _ _ _ h => h) (Or.inl ⟨by kernel_rfl, ?_⟩) (by assumption) ?_; rotate_left 1; (· intro w hSw; (try dsimp only at hSw); go_simp; (try with_reducible rfl)))
                      try simp only [Act.put, List.setIfInBounds_toArray, List.set_cons_zero, List.set_cons_succ]
                      (refine wpAnyH_take (i := 15) (oi := ⟨some 99, _, _, _, _, _⟩) (v := ?_) rfl (by kernel_rfl) (by kernel_rfl) (by kernel_rfl) (fun _ _ _ h => h) (Or.inl ⟨by kernel_rfl, ?_⟩) (by assumption) ?_; rotate_left 1; (· intro w hSw; (try dsimp only at hSw); go_simp; (try with_reducible rfl)))
                      try simp only [Act.put, List.setIfInBounds_toArray, List.set_cons_zero, List.set_cons_succ]
                      (refine wpAnyH_take (i := 16) (oi := ⟨some 100, _, _, _, _, _⟩) (v := undef) rfl (by kernel_rfl) (by kernel_rfl) (by kernel_rfl) (fun _ _ _ h => h) (Or.inr ⟨by kernel_rfl, rfl⟩) (by assumption) ?_)
                      try simp only [Act.put, List.setIfInBounds_toArray, List.set_cons_zero, List.set_cons_succ]
                      (refine wpAnyH_take (i := 17) (oi := ⟨some 101, _, _, _, _, _⟩) (v := undef) rfl (by kernel_rfl) (by kernel_rfl) (by kernel_rfl) (fun _ _ _ h => h) (Or.inr ⟨by kernel_rfl, rfl⟩) (by assumption) ?_)
                      try simp only [Act.put, List.setIfInBounds_toArray, List.set_cons_zero, List.set_cons_succ]
                      (refine wpAnyH_take (i := 18) (oi := ⟨some 102, _, _, _, _, _⟩) (v := undef) rfl (by kernel_rfl) (by kernel_rfl) (by kernel_rfl) (fun _ _ _ h => h) (Or.inr ⟨by kernel_rfl, rfl⟩) (by assumption) ?_)
                      try simp only [Act.put, List.setIfInBounds_toArray, List.set_cons_zero, List.set_cons_succ]
                      (refine wpAnyH_take (i := 19) (oi := ⟨some 103, _, _, _, _, _⟩) (v := undef) rfl (by kernel_rfl) (by kernel_rfl) (by kernel_rfl) (fun _ _ _ h => h) (Or.inr ⟨by kernel_rfl, rfl⟩) (by assumption) ?_)
                      try simp only [Act.put, List.setIfInBounds_toArray, List.set_cons_zero, List.set_cons_succ]
                      (refine wpAnyH_take (i := 20) (oi := ⟨some 104, _, _, _, _, _⟩) (v := undef) rfl (by kernel_rfl) (by kernel_rfl) (by kernel_rfl) (fun _ _ _ h => h) (Or.inr ⟨by kernel_rfl, rfl⟩) (by assumption) ?_)
                      try simp only [Act.put, List.setIfInBounds_toArray, List.set_cons_zero, List.set_cons_succ]
                      (refine wpAnyH_take (i := 21) (oi := ⟨some 105, _, _, _, _, _⟩) (v := undef) rfl (by kernel_rfl) (by kernel_rfl) (by kernel_rfl) (fun _ _ _ h => h) (Or.inr ⟨by kernel_rfl, rfl⟩) (by assumption) ?_)
                      try simp only [Act.put, List.setIfInBounds_toArray, List.set_cons_zero, List.set_cons_succ]
                      (refine wpAnyH_take (i := 22) (oi := ⟨some 106, _, _, _, _, _⟩) (v := ?_) rfl (by kernel_rfl) (by kernel_rfl) (by kernel_rfl) (fun _ _ _ h => h) (Or.inl ⟨by kernel_rfl, ?_⟩) (by assumption) ?_; rotate_left 1; (· intro w hSw; (try dsimp only at hSw); go_simp; (try with_reducible rfl)))
                      try simp only [Act.put, List.setIfInBounds_toArray, List.set_cons_zero, List.set_cons_succ]
                      (refine wpAnyH_take (i := 23) (oi := ⟨some 107, _, _, _, _, _⟩) (v := ?_) rfl (by kernel_rfl) (by kernel_rfl) (by kernel_rfl) (fun _ _ _ h => h) (Or.inl ⟨by kernel_rfl, ?_⟩) (by assumption) ?_; rotate_left 1; (· intro w hSw; (try dsimp only at hSw); go_simp; (try with_reducible rfl)))
                      try simp only [Act.put, List.setIfInBounds_toArray, List.set_cons_zero, List.set_cons_succ]
                      refine wpAnyH_done (by kernel_rfl) ?_ _
                      refine NoPanic.normal ?_
                      go_wp2_with fail
                      go_meet
                      exact ⟨rfl, hc3⟩
                    | true =>
                      cases m
                      all_goals
                        go_region_held3 (fun wx => wx.cell? ⟨g, 0, none⟩ = some (.int .u8 25) ∧ wx.cell? ⟨g, 1, none⟩ = some (.int .u64 0) ∧ wx.cell? ⟨g, 2, none⟩ = some (.string ⟨#[]⟩) ∧ wx.cell? ⟨g, 3, none⟩ = some (.slice A11 l11 c11) ∧ wx.cell? ⟨b, o + j * 4, none⟩ = some (.int .u8 (k' : Int)) ∧ wx.cell? ⟨b, o + j * 4 + 1, none⟩ = some (.int .u64 (n' : Int)) ∧ wx.cell? ⟨b, o + j * 4 + 2, none⟩ = some (.string t') ∧ wx.cell? ⟨b, o + j * 4 + 3, none⟩ = some (.slice A' l' c') ∧ Below wc.heap.size wc wx) (with_reducible first | assumption | exact held2 hBX hE hH0 | exact held2 hBX hE hc4 | exact held2 hBX hE hc3 | exact held2 hBX hE hc2 | exact held2 hBX hE hc1 | fail)
                          (first
                          | (go_at_call 13; (with_reducible refine (called_right (m := name) HX HB20.out (hKX.call hH0) (tab_call hS.tab hH0)).mono ?_); rw [HD.out, HM.out]; rintro e w1 ⟨rfl, hb1⟩; have hc1 := below_next hH0 hb1)
                          | (go_at_call 13; (with_reducible refine (HX.right (hE.kd.call hc1) (tab_call hS.tab hc1)).mono ?_); rintro e w2 ⟨rfl, hb2⟩; have hc2 := below_next hc1 hb2)
                          | (go_at_call 28; (with_reducible refine (HX.depth (hE.kd.call hc2)).mono ?_); rintro e w3 ⟨rfl, hb3⟩; have hc3 := below_next hc2 hb3)
                          | (go_at_call 30; (with_reducible refine (HX.items (hE.kd.call hc3)).mono ?_); rintro e w4 ⟨rfl, hb4⟩; have hc4 := below_next hc3 hb4)
                          | fail)
                        go_wp2_with fail
                        go_meet
                        exact ⟨rfl, hc4⟩
                case rest =>
                  obtain ⟨rfl, hq⟩ := hcut
                  have hE := hE.call hq
                  have hS := hS.call hq
                  have hcE := hE.cells
                  obtain ⟨h0, h1, h2, h3⟩ := hcE
                  have hbl := hE.lt
                  clear hq hH0 y0 y1 y2 y3 yf hgl f1 f2
                  have hH0 : Below wc.heap.size wc wc.drew := (Below.refl _ _).drew
                  go_wp2_with fail
                  go_region_held3 (fun wx => wx.cell? ⟨b, o + j * 4, none⟩ = some (.int .u8 (k' : Int)) ∧ wx.cell? ⟨b, o + j * 4 + 1, none⟩ = some (.int .u64 (n' : Int)) ∧ wx.cell? ⟨b, o + j * 4 + 2, none⟩ = some (.string t') ∧ wx.cell? ⟨b, o + j * 4 + 3, none⟩ = some (.slice A' l' c') ∧ Below wc.heap.size wc wx) (with_reducible first | assumption | exact hE.held hH0 | exact hE.held hc3 | exact hE.held hc2 | exact hE.held hc1 | fail)
                    (first
                    | (go_at_call 19; (with_reducible refine (num_any _ _ _).mono ?_); rintro e w1 ⟨rfl, hb1⟩; have hc1 := below_next hH0 hb1)
                    | (go_at_call 24; (with_reducible refine (uint_desc HX HB20.out HK'.out (hE.kd.call hc1)).mono ?_); rintro e w2 ⟨A2, l2, c2, rfl, hN2, hb2⟩; have hc2 := below_next hc1 hb2; have hK2 := hN2.kd)
                    | (go_at_call 13; (with_reducible refine (uint_right HB20.out hK2 (tab_call hS.tab hc2)).mono ?_); rintro e w3 ⟨rfl, hb3⟩; have hc3 := below_next hc2 hb3)
                    | fail)
                  all_goals
                    go_wp2_with fail
                    go_roundw
                    case rel => exact ⟨j + 1, by omega, by go_num, hS.call hc3⟩
                    case measure => simp [intOf]; omega
            · go_wp2_with (go_at_call 11; (with_reducible refine (works_any _ hS.tab).mono ?_); rintro e w3 ⟨rfl, hb3⟩)
              go_ret
              exact ⟨rfl, below_next hS.low hb3⟩
end Go.Proofs.YtdbcdabijolagaaDoor.valueKids
