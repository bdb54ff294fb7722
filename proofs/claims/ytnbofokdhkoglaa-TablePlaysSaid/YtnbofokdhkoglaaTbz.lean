/-
  The document's All: those that are held, rising, in new memory; same, which compares numbers. No other condition.
-/
import Derived.Test.YtnbofokdhkoglaaTby
import Derived.Test.YtnbofokdhkoglaaTbl
namespace Go.Proofs.Ytnbofokdhkoglaa.Tb
set_option maxRecDepth 100000
open Go.RowKit Go.Proofs.Ytnbofokdhkoglaa.Utf

theorem infoI : (Try.prog.info? 3).map (fun i => (i.zero, i.size, i.bytes)) = some (some (.int .i64 0), 1, 8) := by kernel_rfl
set_option maxRecDepth 100000 in
/-- append(x, y...): x of the call's own, y any slice that is read, nil or not. -/
theorem wpList_appI {w : World} {ops : Array Oper} {rest : List Oper} {o : Oper} {a : Act} {Q : Exit → Act → World → Prop} (hgd : o.guard = none) (s x : Operand)
    (ho : o.op = .call { callee := .builtin .append, args := #[s, x], argTypes := #[37, 37] })
    {base n c : Nat} {A : Option Addr} {L : List Nat} (hs : a.eval s = .slice A n c) (hown : Own .i64 65536 3 w base A n c L)
    {B m d : Nat} {A' : Option Addr} {l : List Nat} (hx : a.eval x = .slice A' m d) (hr : Rd .i64 65536 w B A' m l) (hsz : n + m ≤ 17592186044416) (hbase : base ≤ w.heap.size)
    (h : ∀ A2 c2 w', Own .i64 65536 3 w' base A2 (n + m) c2 (L ++ l) → w.grownBy w' (Value.slice A n c).ownBlock → wpList Try.prog ops Q rest (a.put o.dst (.slice A2 (n + m) c2)) w') :
    wpList Try.prog ops Q (o :: rest) a w := by
  obtain ⟨i0, hi, hz0, hz1, hz2⟩ := info_parts infoI
  rcases A' with _ | ad
  · have hm : m = 0 := by
      rcases Nat.eq_zero_or_pos m with h0 | h0
      · exact h0
      · obtain ⟨_, _, e, _⟩ := hr.2.2 h0
        cases e
    subst hm
    have hl : l = [] := List.eq_nil_of_length_eq_zero hr.1
    subst hl
    refine wpList_plain hgd fun K hK => ?_
    have hrun : (Builtin.append_ #[37, 37] o.type #[.slice A n c, .slice none 0 d]).run Try.prog w = .ok (.slice A n c) w := by
      rcases hown.2.1.2 with ⟨e, rfl⟩ | ⟨g, cap, cur, e, _, _, hnc, _⟩
      · injection e with e1 _ e3; subst e1; subst e3
        simp [Builtin.append_, run_underlying Try.underlying37, sizeOf, typeInfo, hi, Builtin.lenOf, Builtin.firstCells]
      · injection e with e1 _ e3; subst e1; subst e3
        simp [Builtin.append_, run_underlying Try.underlying37, sizeOf, typeInfo, hi, Builtin.lenOf, Builtin.firstCells, hnc, storeCells]
    unfold Oper.wp execOp
    simp only [ho, resolve, invoke, builtin, Sem.run_bind, Sem.run_pure, Result.andThen_ok, List.map_toArray, List.map_cons, List.map_nil, hs, hx, hrun]
    exact hK _ _ (h A c w (by simpa using hown) (World.grownBy.refl w _))
  · refine wpList_own (P := Try.prog) hgd s x 37 ho i0 8 Try.underlying37 hi hz0 (by omega) hz1 hz2 hs hown ad m d l hx hr.1 hr.2.1 ?_ (by unfold maxLen; omega) (by omega) hbase h
    · intro j u hu
      have hj : j < l.length := by
        have := (List.getElem?_eq_some_iff.1 hu).1
        rwa [vs_length] at this
      obtain ⟨b, o', e, _, hc⟩ := hr.2.2 (by rw [← hr.1]; omega)
      injection e with e
      subst e
      rw [vs_at _ l j hj] at hu
      injection hu with hu
      subst hu
      have := hc j hj
      rw [← this]
      unfold Addr.add
      split
      · rename_i h0; subst h0; rfl
      · rfl

/-- A block of new numbers, as a slice that is read. -/
theorem rd_litI (w : World) (l : List Nat) (n : Nat) (hn : l.length = n) (hl : ∀ x ∈ l, x < 65536) : Rd .i64 65536 (w.alloc (.cells (vs .i64 l).toArray 3)) (w.heap.size + 1) (some ⟨w.heap.size, 0, none⟩) n l := by
  refine ⟨hn, hl, fun _ => ⟨w.heap.size, 0, rfl, by omega, fun k hk => ?_⟩⟩
  rw [World.cell?_alloc_at _ _ _ _ rfl]
  simp [vs, List.getElem?_eq_getElem hk]

/-- Those of the first so many that are held. -/
def mT (L : List Bool) (j : Nat) : List Nat := (List.range j).filter fun i => L.getD i false
theorem mT_all (L : List Bool) : mT L L.length = allT L := rfl
theorem mT_succ (L : List Bool) (j : Nat) : mT L (j + 1) = if hasT L (j : Int) then mT L j ++ [j] else mT L j := by
  unfold mT
  rw [List.range_succ, List.filter_append, hasT_nat]
  cases h : L.getD j false
  · rw [List.filter_cons_of_neg (p := fun i => L.getD i false) (by rw [h]; simp)]
    simp
  · rw [List.filter_cons_of_pos (p := fun i => L.getD i false) h]
    simp
theorem mT_len (L : List Bool) (j : Nat) : (mT L j).length ≤ j := by
  unfold mT
  refine Nat.le_trans (List.length_filter_le _ _) ?_
  simp
def GivesXAll (L : List Bool) (w : World) (e : Ending) (w' : World) : Prop := ∃ A c, e = .returned (.slice A (allT L).length c) ∧ Own .i64 65536 3 w' w.heap.size A (allT L).length c (allT L) ∧ Below w.heap.size w w'
set_option maxHeartbeats 2000000 in
theorem xall_any {gx h : Nat} {L : List Bool} (w : World) (t : Xin w gx h L) : Calls Try.prog 15 #[.pointer (some ⟨gx, 0, none⟩)] w (GivesXAll L w) := by
  have HT := Lib.hid t
  have HL := Lib.hid t.hi
  clear t
  go_enter Try.func15, Try.ntmps15
  go_wp2
  go_loopw [3, 4] (fun v s wr => ∃ (j N : Nat) (A : Option Addr) (c : Nat), j ≤ L.length ∧ N ≤ j ∧ v = .slice A N c ∧ s = .int .i64 (j : Int) ∧ Own .i64 65536 3 wr w.heap.size A N c (mT L j) ∧ Below w.heap.size w wr) (fun _ s _ => L.length - (Go.RowKit.intOf s).toNat)
  case atStart => exact ⟨0, 0, none, 0, by omega, by omega, rfl, rfl, Own.nil _ _ _ _ _, Below.refl _ _⟩
  case round =>
    obtain ⟨j, N, A, c, hj, hN, rfl, rfl, ho, hb⟩ := hrel
    have hbs := hb.size
    have t := HT.out.call hb
    have x0 := t.cell
    have HO := Lib.hid ho
    have HB := Lib.hid hb
    by_cases hlt : j < L.length
    · have d1 : decide ((j : Int) < (L.length : Int)) = true := by simpa using hlt
      have z := t.row.cell hlt
      have f0 : (0 : Int) ≤ (j : Int) := by omega
      have f1 : (j : Int) < (L.length : Int) := by omega
      have hs := mT_succ L j
      have hjl : j < 65536 := by have := HL.out; omega
      cases hh : hasT L (j : Int)
      · rw [hh] at z hs
        have HS := Lib.hid (show mT L (j + 1) = mT L j by simpa using hs)
        clear t ho hb hs hh
        go_wp2
        go_roundw
        case rel => exact ⟨j + 1, N, A, c, by omega, by omega, rfl, by go_num, by rw [HS.out]; exact HO.out, HB.out⟩
        case measure => simp [Go.RowKit.intOf]; omega
      · rw [hh] at z hs
        have HS := Lib.hid (show mT L (j + 1) = mT L j ++ [j] by simpa using hs)
        clear t ho hb hs hh
        go_wp2_with (first
          | (at_builtin; refine wpList_appI (l := [j]) (B := wr.heap.size + 1) rfl _ _ rfl rfl (HO.out.alloc _) rfl (rd_litI wr [j] 1 rfl (fun y hy => by simp at hy; omega)) (by omega) (by simp; omega) ?_; intro A3 c3 w3 hown3 hgrow3; have hb4 : Below w.heap.size w w3 := (HB.out.alloc hbs _).trans (below_grown (HO.out.alloc _) hgrow3 (by simp; omega)))
          | go_in)
        go_roundw
        case rel => exact ⟨j + 1, N + 1, A3, c3, by omega, by omega, rfl, by go_num, by rw [HS.out]; exact hown3, hb4⟩
        case measure => simp [Go.RowKit.intOf]; omega
    · obtain rfl : j = L.length := by omega
      have d1 : decide ((L.length : Int) < (L.length : Int)) = false := by simp
      clear t ho hb
      go_wp2
      go_ret
      have ho := HO.out
      have hl := ho.len
      rw [mT_all] at ho hl
      subst hl
      exact ⟨A, c, rfl, ho, HB.out⟩
set_option maxHeartbeats 1000000 in
theorem same13_yes {B B' : Nat} (A A' : Option Addr) (n c c' : Nat) (l : List Nat) (w : World) (hr : Rd .i64 65536 w B A n l) (hr' : Rd .i64 65536 w B' A' n l) (hn : n ≤ 65536) :
    Calls Try.prog 16 #[.slice A n c, .slice A' n c'] w fun e w' => e = .returned (.bool true) ∧ Below w.heap.size w w' := by
  have HR := Lib.hid hr
  have HR' := Lib.hid hr'
  clear hr hr'
  have d0 : ((n : Int) == (n : Int)) = true := by simp
  go_enter Try.func16, Try.ntmps16
  go_wp2
  go_loopw [5] (fun s wr => ∃ j : Nat, j ≤ n ∧ s = .int .i64 (j : Int) ∧ Below w.heap.size w wr ∧ Rd .i64 65536 wr B A n l ∧ Rd .i64 65536 wr B' A' n l) (fun s _ => n - (Go.RowKit.intOf s).toNat)
  case atStart => exact ⟨0, by omega, rfl, Below.refl _ _, HR.out, HR'.out⟩
  case round =>
    obtain ⟨j, hj, rfl, hb, h1, h2⟩ := hrel
    have H1 := Lib.hid h1
    have H2 := Lib.hid h2
    by_cases hlt : j < n
    · have d1 : decide ((j : Int) < (n : Int)) = true := by simpa using hlt
      obtain ⟨b1, o1, x, rfl, _, e1, hx, z1⟩ := h1.at_ hlt
      obtain ⟨b2, o2, y, rfl, _, e2, hy, z2⟩ := h2.at_ hlt
      obtain rfl : x = y := by rw [e1] at e2; injection e2
      have f0 : (0 : Int) ≤ (j : Int) := by omega
      have f1 : (j : Int) < (n : Int) := by omega
      clear h1 h2 e1 e2
      go_upto_region 6 with fail
      go_region
      go_wp2
      go_roundw
      case rel => exact ⟨j + 1, by omega, by go_num, hb.drew, H1.out, H2.out⟩
      case measure => simp [Go.RowKit.intOf]; omega
    · obtain rfl : j = n := by omega
      have d1 : decide ((j : Int) < (j : Int)) = false := by simp
      clear h1 h2
      go_wp2
      go_ret
      exact ⟨rfl, hb⟩
end Go.Proofs.Ytnbofokdhkoglaa.Tb
