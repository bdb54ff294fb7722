/-
  Contracts of package table but for All: New, Most, Has, Hold, Take, Free, Count. Memory that was there stays, but for the table's own two blocks. No other condition.
-/
import Derived.Test.YtnbofokdhkoglaaTbo
namespace Go.Proofs.Ytnbofokdhkoglaa.Tb
set_option maxRecDepth 100000
open Go.RowKit Go.Proofs.Ytnbofokdhkoglaa.Utf

theorem new_no (m : Int) (w : World) (h : ¬ (0 ≤ m ∧ m ≤ 65535)) : Calls Try.prog 9 #[.int .i64 m] w fun e w' => e = .returned (.tuple #[.pointer none, .int .i64 1]) ∧ w = w' := by
  by_cases h1 : m < 0
  · have d1 : decide (m < 0) = true := by simpa using h1
    clear h h1
    go_enter Try.func9, Try.ntmps9
    go_wp2
    refine bodyPost_ret (v := .tuple #[.pointer none, .int .i64 1]) (by simp [results, Try.results9, go_sem]) rfl ?_
    exact ⟨rfl, rfl⟩
  · have d1 : decide (m < 0) = false := by simpa using h1
    have d2 : decide (65535 < m) = true := by simp; omega
    clear h h1
    go_enter Try.func9, Try.ntmps9
    go_wp2
    refine bodyPost_ret (v := .tuple #[.pointer none, .int .i64 1]) (by simp [results, Try.results9, go_sem]) rfl ?_
    exact ⟨rfl, rfl⟩
def noneT (m : Nat) : List Bool := List.replicate (m + 1) false
theorem has_none (m : Nat) (x : Int) : hasT (noneT m) x = false := by
  unfold hasT noneT
  rw [List.getD_eq_getElem?_getD, List.getElem?_replicate]
  split <;> simp
theorem all_none (m : Nat) : allT (noneT m) = [] := by
  rw [List.eq_nil_iff_forall_not_mem]
  intro j hj
  rw [mem_all, has_none] at hj
  cases hj
def GivesNew (m : Nat) (w : World) (e : Ending) (w' : World) : Prop := ∃ p b, e = .returned (.tuple #[.pointer (some ⟨p, 0, none⟩), .int .i64 0]) ∧ Tin w' p b (noneT m) ∧ w.heap.size ≤ p ∧ w.heap.size ≤ b ∧ Below w.heap.size w w'
set_option maxHeartbeats 1000000 in
theorem new_yes (m : Nat) (w : World) (hm : m ≤ 65535) : Calls Try.prog 9 #[.int .i64 (m : Int)] w (GivesNew m w) := by
  have d1 : decide ((m : Int) < 0) = false := by simp
  have d2 : decide (65535 < (m : Int)) = false := by simp; omega
  have hmm := @run_makeMap Try.prog
  have HM := Lib.hid hm
  clear hm
  go_enter Try.func9, Try.ntmps9
  go_wp2
  refine bodyPost_ret (v := .tuple #[.pointer (some ⟨w.heap.size + 1, 0, none⟩), .int .i64 0]) (by simp [results, Try.results9, go_sem]) rfl ?_
  have hm := HM.out
  have hl : (noneT m).length = m + 1 := by simp [noneT]
  refine ⟨w.heap.size + 1, w.heap.size, rfl, ⟨⟨0, ?_, Nat.zero_le _⟩, ⟨.map [], ?_, fun x => by rw [has_none]; rfl⟩, by omega, by omega, by omega⟩, by omega, by omega, ba (ba (Below.refl _ _) _) _⟩
  · rw [hl]
    have := heap_alloc_new (w.alloc (.map #[] 0)) (.cells #[.int .i64 (m : Int), .map (some w.heap.size), .int .i64 0] 50)
    simp at this ⊢
    exact this
  · rw [all_none]
    exact (World.ownsMap_made _ _ _ _).alloc _
theorem nil_most (w : World) : Calls Try.prog 19 #[.pointer none] w fun e w' => e = .returned (.int .i64 (-1)) ∧ w = w' := by
  go_enter Try.func19, Try.ntmps19
  go_wp2
  go_ret
  exact ⟨rfl, rfl⟩
theorem most_any {p b : Nat} {L : List Bool} (w : World) (t : Tin w p b L) : Calls Try.prog 19 #[.pointer (some ⟨p, 0, none⟩)] w fun e w' => e = .returned (.int .i64 ((L.length : Int) - 1)) ∧ w = w' := by
  obtain ⟨lo, h, _⟩ := t.obj
  have x0 := cell_of_row _ _ 0 _ _ _ h
  clear t h
  go_enter Try.func19, Try.ntmps19
  go_wp2
  go_ret
  exact ⟨rfl, rfl⟩
theorem nil_has (x : Int) (w : World) : Calls Try.prog 13 #[.pointer none, .int .i64 x] w fun e w' => e = .returned (.bool false) ∧ w = w' := by
  go_enter Try.func13, Try.ntmps13
  go_wp2
  go_ret
  exact ⟨rfl, rfl⟩
set_option maxHeartbeats 1000000 in
theorem has_any {p b : Nat} {L : List Bool} (x : Int) (w : World) (t : Tin w p b L) (hx : (Lit.int .i64 x).wf = true) : Calls Try.prog 13 #[.pointer (some ⟨p, 0, none⟩), .int .i64 x] w fun e w' => e = .returned (.bool (hasT L x)) ∧ Below w.heap.size w w' := by
  obtain ⟨lo, h, _⟩ := t.obj
  obtain ⟨D, hown, hD⟩ := t.own
  have x1 := cell_of_row _ _ 1 _ _ _ h
  have hkey := keyI hx
  have HD := Lib.hid (hD x)
  generalize hn : (allT L).length = n at hown
  clear t h hD hn
  go_enter Try.func13, Try.ntmps13
  go_wp2_with (first
    | (at_lookup; refine wpList_lookup_own_unit _ rfl _ _ 48 rfl 3 53 lawI Try.underlying48 (zeroU _) b n D rfl hown _ _ rfl hkey ?_)
    | go_in)
  go_ret
  exact ⟨congrArg (fun c => Ending.returned (.bool c)) HD.out, ba (Below.refl _ _) _⟩

def GivesRow (p b : Nat) (L : List Bool) (v : Value) (w : World) (e : Ending) (w' : World) : Prop := e = .returned v ∧ Tin w' p b L ∧ Off (Xp p b) w w'
set_option maxHeartbeats 1000000 in
theorem hold_yes {p b i : Nat} {L : List Bool} (w : World) (t : Tin w p b L) (hi : i < L.length) (hh : hasT L (i : Int) = false) : Calls Try.prog 22 #[.pointer (some ⟨p, 0, none⟩), .int .i64 (i : Int)] w (fun e w' => GivesRow p b (L.set i true) (.bool true) w e w' ∧ w'.heap[p]? = w.heap[p]?) := by
  have hx : (Lit.int .i64 (i : Int)).wf = true := by have := t.hi; simp [Lit.wf, IntKind.min, IntKind.max, IntKind.signed, IntKind.bits]; omega
  have hM := most_any w t
  have hH := has_any (i : Int) w t hx
  rw [hh] at hH
  obtain ⟨M, hMe⟩ : ∃ M : Int, (L.length : Int) - 1 = M := ⟨_, rfl⟩
  rw [hMe] at hM
  have d1 : decide ((i : Int) < 0) = false := by simp
  have d2 : decide (M < (i : Int)) = false := by simp; omega
  have hkey := keyI hx
  have HT := Lib.hid t
  have HI := Lib.hid hi
  have HM := Lib.hid hM
  have HH := Lib.hid hH
  clear t hi hh hx hM hH hMe
  go_enter Try.func22, Try.ntmps22
  go_wp2_with (first
    | (go_at_call 19; (with_reducible refine HM.out.mono ?_); rintro e w1 ⟨rfl, rfl⟩)
    | (go_at_call 13; (with_reducible refine HH.out.mono ?_); rintro e w1 ⟨rfl, hb1⟩; obtain ⟨lo, D, n, x0, x1, x2, hown, hn, hf⟩ := (HT.out.call hb1).all)
    | (at_mapUpdate; refine wpList_mapUpdate_in _ rfl _ _ _ 48 rfl 3 53 lawI Try.underlying48 _ b n D rfl hown hn _ _ _ rfl rfl hkey _ [] unitElem_mk ?_; intro w2 hown2 hturn2)
    | go_in)
  go_ret
  exact ⟨⟨rfl, HT.out.put hb1 HI.out hf.out hown.isMap hown2 hturn2⟩, (hturn2.grown.block p (Nat.lt_of_lt_of_le HT.out.plt hb1.size) (fun e => HT.out.ne (by injection e))).trans (hb1.block p HT.out.plt)⟩
set_option maxHeartbeats 1000000 in
theorem hold_no {p b : Nat} {L : List Bool} (x : Int) (w : World) (t : Tin w p b L) (hx : (Lit.int .i64 x).wf = true) (hm : mayT L x = false) : Calls Try.prog 22 #[.pointer (some ⟨p, 0, none⟩), .int .i64 x] w fun e w' => e = .returned (.bool false) ∧ Below w.heap.size w w' := by
  have hM := most_any w t
  have hH := has_any x w t hx
  obtain ⟨M, hMe⟩ : ∃ M : Int, (L.length : Int) - 1 = M := ⟨_, rfl⟩
  rw [hMe] at hM
  by_cases h1 : x < 0
  · have d1 : decide (x < 0) = true := by simpa using h1
    clear t hx hm hM hH hMe h1
    go_enter Try.func22, Try.ntmps22
    go_wp2
    go_ret
    exact ⟨rfl, Below.refl _ _⟩
  · have d1 : decide (x < 0) = false := by simpa using h1
    by_cases h2 : M < x
    · have d2 : decide (M < x) = true := by simpa using h2
      have HM := Lib.hid hM
      clear t hx hm hM hH hMe h1 h2
      go_enter Try.func22, Try.ntmps22
      go_wp2_with (first
        | (go_at_call 19; (with_reducible refine HM.out.mono ?_); rintro e w1 ⟨rfl, rfl⟩)
        | fail)
      go_ret
      exact ⟨rfl, Below.refl _ _⟩
    · have d2 : decide (M < x) = false := by simpa using h2
      have hh : hasT L x = true := by
        cases hc : hasT L x
        · have : mayT L x = true := mayT_iff.2 ⟨by omega, by omega, hc⟩
          rw [hm] at this
          cases this
        · rfl
      rw [hh] at hH
      have HM := Lib.hid hM
      have HH := Lib.hid hH
      clear t hx hm hM hH hMe h1 h2 hh
      go_enter Try.func22, Try.ntmps22
      go_wp2_with (first
        | (go_at_call 19; (with_reducible refine HM.out.mono ?_); rintro e w1 ⟨rfl, rfl⟩)
        | (go_at_call 13; (with_reducible refine HH.out.mono ?_); rintro e w1 ⟨rfl, hb1⟩)
        | fail)
      go_ret
      exact ⟨rfl, hb1⟩
theorem nil_hold (x : Int) (w : World) : Calls Try.prog 22 #[.pointer none, .int .i64 x] w fun e w' => e = .returned (.bool false) ∧ w = w' := by
  by_cases h1 : x < 0
  · have d1 : decide (x < 0) = true := by simpa using h1
    clear h1
    go_enter Try.func22, Try.ntmps22
    go_wp2
    go_ret
    exact ⟨rfl, rfl⟩
  · have d1 : decide (x < 0) = false := by simpa using h1
    have d2 : decide (-1 < x) = true := by simp; omega
    clear h1
    go_enter Try.func22, Try.ntmps22
    go_wp2_with (first
      | (go_at_call 19; (with_reducible refine (nil_most _).mono ?_); rintro e w1 ⟨rfl, rfl⟩)
      | fail)
    go_ret
    exact ⟨rfl, rfl⟩
theorem hold_any {p b : Nat} {L : List Bool} (x : Int) (w : World) (t : Tin w p b L) (hx : (Lit.int .i64 x).wf = true) : Calls Try.prog 22 #[.pointer (some ⟨p, 0, none⟩), .int .i64 x] w (GivesRow p b (rowT L 0 x) (.bool (mayT L x)) w) := by
  cases hm : mayT L x
  · refine (hold_no x w t hx hm).mono fun e w' ⟨he, hb⟩ => ?_
    have hr : rowT L 0 x = L := by simp [rowT, hm]
    rw [hr]
    exact ⟨he, t.call hb, Off.of _ hb⟩
  · obtain ⟨h0, h1, h2⟩ := mayT_iff.1 hm
    obtain ⟨i, rfl⟩ := Int.eq_ofNat_of_zero_le h0
    have hr : rowT L 0 (i : Int) = L.set i true := by simp [rowT, hm]
    rw [hr]
    exact (hold_yes w t (by omega) h2).mono fun _ _ h => h.1
theorem nil_count (w : World) : Calls Try.prog 18 #[.pointer none] w fun e w' => e = .returned (.int .i64 0) ∧ w = w' := by
  go_enter Try.func18, Try.ntmps18
  go_wp2
  go_ret
  exact ⟨rfl, rfl⟩
theorem tcount_any {p b : Nat} {L : List Bool} (w : World) (t : Tin w p b L) : Calls Try.prog 18 #[.pointer (some ⟨p, 0, none⟩)] w fun e w' => e = .returned (.int .i64 ((allT L).length : Int)) ∧ w = w' := by
  obtain ⟨lo, h, _⟩ := t.obj
  obtain ⟨D, hown, hD⟩ := t.own
  have x1 := cell_of_row _ _ 1 _ _ _ h
  have HS := Lib.hid (size_of hown hD)
  generalize hn : (allT L).length = n at hown HS ⊢
  clear t h hD hn
  go_enter Try.func18, Try.ntmps18
  go_wp2_with (first
    | (at_len; refine wpList_len_own _ rfl _ 48 rfl 3 53 Try.underlying48 _ b n D rfl hown ?_)
    | fail)
  go_ret
  exact ⟨congrArg (fun c : Nat => Ending.returned (.int .i64 (c : Int))) HS.out, rfl⟩
theorem nil_free (x : Int) (w : World) : Calls Try.prog 21 #[.pointer none, .int .i64 x] w fun e w' => e = .returned (.bool false) ∧ w = w' := by
  go_enter Try.func21, Try.ntmps21
  go_wp2_with (first
    | (go_at_call 13; (with_reducible refine (nil_has _ _).mono ?_); rintro e w1 ⟨rfl, rfl⟩)
    | fail)
  go_ret
  exact ⟨rfl, rfl⟩
set_option maxHeartbeats 1000000 in
theorem free_yes {p b i : Nat} {L : List Bool} (w : World) (t : Tin w p b L) (hi : i < L.length) (hh : hasT L (i : Int) = true) : Calls Try.prog 21 #[.pointer (some ⟨p, 0, none⟩), .int .i64 (i : Int)] w (GivesRow p b (L.set i false) (.bool true) w) := by
  have hx : (Lit.int .i64 (i : Int)).wf = true := by have := t.hi; simp [Lit.wf, IntKind.min, IntKind.max, IntKind.signed, IntKind.bits]; omega
  have hH := has_any (i : Int) w t hx
  rw [hh] at hH
  have hkey := keyI hx
  have HT := Lib.hid t
  have HI := Lib.hid hi
  have HH := Lib.hid hH
  clear t hi hh hx hH
  go_enter Try.func21, Try.ntmps21
  go_wp2_with (first
    | (go_at_call 13; (with_reducible refine HH.out.mono ?_); rintro e w1 ⟨rfl, hb1⟩; obtain ⟨lo, D, n, x0, x1, x2, hown, hn, hf⟩ := (HT.out.call hb1).all)
    | (at_delete; refine wpList_delete_own _ rfl _ _ 48 3 rfl 53 lawI Try.underlying48 _ b n D rfl hown _ _ rfl hkey ?_; intro w2 hown2 hturn2; have y2 := (turned_cell (HT.out.call hb1) hturn2 2).trans x2; have f2 := turned_frz (HT.out.call hb1) hturn2 2)
    | go_in)
  all_goals
    have H := HT.out.del hb1 HI.out hf.out hown2 hturn2
    first
      | (have e1 : ((min lo i : Nat) : Int) = (i : Int) := by omega
         rw [e1] at H
         go_ret
         exact ⟨rfl, H⟩)
      | (have e1 : ((min lo i : Nat) : Int) = (lo : Int) := by omega
         rw [e1] at H
         go_ret
         exact ⟨rfl, H⟩)
theorem free_no {p b : Nat} {L : List Bool} (x : Int) (w : World) (t : Tin w p b L) (hx : (Lit.int .i64 x).wf = true) (hh : hasT L x = false) : Calls Try.prog 21 #[.pointer (some ⟨p, 0, none⟩), .int .i64 x] w fun e w' => e = .returned (.bool false) ∧ Below w.heap.size w w' := by
  have hH := has_any x w t hx
  rw [hh] at hH
  have HH := Lib.hid hH
  clear t hx hH hh
  go_enter Try.func21, Try.ntmps21
  go_wp2_with (first
    | (go_at_call 13; (with_reducible refine HH.out.mono ?_); rintro e w1 ⟨rfl, hb1⟩)
    | fail)
  go_ret
  exact ⟨rfl, hb1⟩
theorem free_any {p b : Nat} {L : List Bool} (x : Int) (w : World) (t : Tin w p b L) (hx : (Lit.int .i64 x).wf = true) : Calls Try.prog 21 #[.pointer (some ⟨p, 0, none⟩), .int .i64 x] w (GivesRow p b (rowT L 2 x) (.bool (hasT L x)) w) := by
  cases hm : hasT L x
  · refine (free_no x w t hx hm).mono fun e w' ⟨he, hb⟩ => ?_
    have hr : rowT L 2 x = L := by simp [rowT, hm]
    rw [hr]
    exact ⟨he, t.call hb, Off.of _ hb⟩
  · obtain ⟨h0, h1⟩ := hasT_in hm
    obtain ⟨i, rfl⟩ := Int.eq_ofNat_of_zero_le h0
    have hr : rowT L 2 (i : Int) = L.set i false := by simp [rowT, hm]
    rw [hr]
    exact free_yes w t (by omega) hm
theorem nil_take (w : World) : Calls Try.prog 20 #[.pointer none] w fun e w' => e = .returned (.tuple #[.int .i64 0, .bool false]) ∧ w = w' := by
  go_enter Try.func20, Try.ntmps20
  go_wp2
  refine bodyPost_ret (v := .tuple #[.int .i64 0, .bool false]) (by simp [results, Try.results20, go_sem]) rfl ?_
  exact ⟨rfl, rfl⟩
def TakeV (L : List Bool) : Value := .tuple #[.int .i64 (numT L 1 : Int), .bool (isT L 1 0)]
set_option maxHeartbeats 2000000 in
theorem take_any {p b : Nat} {L : List Bool} (w : World) (t : Tin w p b L) : Calls Try.prog 20 #[.pointer (some ⟨p, 0, none⟩)] w (GivesRow p b (rowT L 1 0) (TakeV L) w) := by
  have HW : Hid (∀ k : Nat, k ≤ lowT L → (Lit.int .i64 (k : Int)).wf = true) := Lib.hid fun k hk => by have := t.hi; have := low_le L; simp [Lit.wf, IntKind.min, IntKind.max, IntKind.signed, IntKind.bits]; omega
  have HT := Lib.hid t
  have HL := Lib.hid (Nat.le_trans (low_le L) t.hi)
  clear t
  go_enter Try.func20, Try.ntmps20
  go_wp2
  go_loopw [] (fun wr => Tin wr p b L ∧ Off (Xp p b) w wr) (fun wr => lowT L - loOf p wr)
  case atStart => exact ⟨HT.out, Off.refl _ _⟩
  case round =>
    obtain ⟨t, ho⟩ := hrel
    obtain ⟨lo, D, n, x0, x1, x2, hown, hn, hf⟩ := t.all
    have hle := hf.out.2.1
    have hH := has_any (lo : Int) wr t (HW.out lo hle)
    have HO := Lib.hid ho
    have HTr := Lib.hid t
    have HLo := Lib.hid (loOf_eq x2)
    clear x0 x1 hown hn hf ho
    by_cases hlt : lo < lowT L
    · rw [low_has hlt] at hH
      have HH := Lib.hid hH
      have hi64 : IntKind.i64.wrap ((lo : Int) + 1) = ((lo + 1 : Nat) : Int) := by have := HL.out; rw [show (lo : Int) + 1 = ((lo + 1 : Nat) : Int) by simp]; exact IntWalk.i64_in _ (by omega)
      clear hH t
      go_wp2_with (first
        | (go_at_call 13; (with_reducible refine HH.out.mono ?_); rintro e w1 ⟨rfl, hb1⟩; have y2 := (hb1.cell (p := ⟨p, 2, none⟩) HTr.out.plt).trans x2; have f2 := (HTr.out.call hb1).frz 2)
        | fail)
      go_roundw
      case rel =>
        have HS := ((HTr.out.call hb1).low (k := lo + 1) (by omega))
        exact ⟨HS, (HO.out.next hb1).trans (Off.set _ _ _ (Or.inl rfl))⟩
      case measure =>
        have h1 := (HTr.out.call hb1).lo_set (k := lo + 1)
        have h2 := HLo.out
        show lowT L - loOf p (w1.setCell ⟨p, 2, none⟩ (.int .i64 ((lo + 1 : Nat) : Int))) < lowT L - loOf p wr
        omega
    · obtain rfl : lo = lowT L := by omega
      rw [low_not] at hH
      have HH := Lib.hid hH
      clear hH
      by_cases hlen : lowT L < L.length
      · have hY := fun wx (tx : Tin wx p b L) => hold_yes wx tx hlen low_not
        have HY := Lib.hid hY
        have hr : rowT L 1 0 = L.set (lowT L) true := by simp [rowT, hlen]
        have hv : TakeV L = .tuple #[.int .i64 (lowT L : Int), .bool true] := by simp [TakeV, numT, isT, hlen]
        have HR := Lib.hid hr
        have HV := Lib.hid hv
        clear hY t hr hv
        go_wp2_with (first
          | (go_at_call 13; (with_reducible refine HH.out.mono ?_); rintro e w1 ⟨rfl, hb1⟩; have y2 := (hb1.cell (p := ⟨p, 2, none⟩) HTr.out.plt).trans x2; have HT1 := Lib.hid (HTr.out.call hb1))
          | (go_at_call 22; (with_reducible refine (HY.out _ HT1.out).mono ?_); rintro e w2 ⟨⟨rfl, t2, ho2⟩, hk⟩; have z2 : w2.cell? ⟨p, 2, none⟩ = some (.int .i64 (lowT L : Int)) := by (simp only [World.cell?, hk]; exact y2))
          | fail)
        refine bodyPost_ret (v := .tuple #[.int .i64 (lowT L : Int), .bool true]) (by simp [results, Try.results20, go_sem]) rfl ?_
        exact ⟨by rw [HV.out], by rw [HR.out]; exact t2, (HO.out.next hb1).trans ho2⟩
      · have hY := fun wx (tx : Tin wx p b L) => hold_no (lowT L : Int) wx tx (HW.out _ (Nat.le_refl _)) (by
          cases hm : mayT L (lowT L : Int)
          · rfl
          · have := (mayT_iff.1 hm).2.1; omega)
        have HY := Lib.hid hY
        have hr : rowT L 1 0 = L := by simp [rowT, hlen]
        have hv : TakeV L = .tuple #[.int .i64 0, .bool false] := by simp [TakeV, numT, isT, hlen]
        have HR := Lib.hid hr
        have HV := Lib.hid hv
        clear hY t hr hv
        go_wp2_with (first
          | (go_at_call 13; (with_reducible refine HH.out.mono ?_); rintro e w1 ⟨rfl, hb1⟩; have y2 := (hb1.cell (p := ⟨p, 2, none⟩) HTr.out.plt).trans x2; have HT1 := Lib.hid (HTr.out.call hb1))
          | (go_at_call 22; (with_reducible refine (HY.out _ HT1.out).mono ?_); rintro e w2 ⟨rfl, hb2⟩)
          | fail)
        refine bodyPost_ret (v := .tuple #[.int .i64 0, .bool false]) (by simp [results, Try.results20, go_sem]) rfl ?_
        exact ⟨by rw [HV.out], by rw [HR.out]; exact HT1.out.call hb2, (HO.out.next hb1).next hb2⟩
end Go.Proofs.Ytnbofokdhkoglaa.Tb
