/-
  Arguments api.Value and []api.Value, opened: values that can be read, of no more bulk than their data. No condition.
-/
import Derived.Test.YtohmnbefokhjpaaDoorTree
import Derived.Test.YtohmnbefokhjpaaDoorRow
import Derived.Deep.Slices
namespace Go.Proofs.YtohmnbefokhjpaaDoor.Val
set_option maxRecDepth 100000
open Go.ChangeShapes Go.WideShapes Go.ChangeAt Go.RowKit Go.Proofs.YtohmnbefokhjpaaDoor.Utf V

theorem cells27 : Tryd.prog.cellsOf 27 = 4 := by kernel_rfl
variable {H : Type} {enc : TypeId × Value → H}

theorem upto_append (l r : List (DataW H)) : Rows.uptoBulkAll (l ++ r) = Rows.uptoBulkAll l + Rows.uptoBulkAll r := by
  induction l with
  | nil => simp [Rows.uptoBulkAll]
  | cons x l ih => simp only [List.cons_append, Rows.uptoBulkAll, ih]; omega

/-- One value a place: a list of them. -/
theorem list_of {α : Type} {n : Nat} {Q : Nat → α → Prop} (h : ∀ i, i < n → ∃ v, Q i v) : ∃ l : List α, l.length = n ∧ ∀ (i : Nat) (v : α), l[i]? = some v → Q i v := by
  induction n with
  | zero => exact ⟨[], rfl, fun i v h => by simp at h⟩
  | succ n ih =>
    obtain ⟨l, hl, hq⟩ := ih fun i hi => h i (by omega)
    obtain ⟨v, hv⟩ := h n (by omega)
    refine ⟨l ++ [v], by simp [hl], fun i u hu => ?_⟩
    by_cases hi : i < n
    · rw [List.getElem?_append_left (by omega)] at hu
      exact hq i u hu
    · rw [List.getElem?_append_right (by omega)] at hu
      obtain rfl : i = n := by
        have := (List.getElem?_eq_some_iff.1 hu).1
        simp at this
        omega
      simp [hl] at hu
      subst hu
      exact hv
theorem bulk_pairs {ks : List V} {es : List (DataW H)} (hl : ks.length = es.length) (h : ∀ (i : Nat) (v : V), ks[i]? = some v → ∃ d, es[i]? = some d ∧ bulk v ≤ Rows.uptoBulk d) : bulkL ks ≤ Rows.uptoBulkAll es := by
  induction ks generalizing es with
  | nil => simp [bulkL]
  | cons v ks ih =>
    cases es with
    | nil => simp at hl
    | cons e es =>
      obtain ⟨d, hd, hb⟩ := h 0 v rfl
      simp at hd
      subst hd
      have := ih (es := es) (by simpa using hl) fun i u hu => by
        have := h (i + 1) u (by simpa using hu)
        simpa using this
      simp only [bulkL, Rows.uptoBulkAll]
      omega

/-- What a reading of a value's four cells says. -/
def FitsV (W : World) (cs : List Value) (v : V) : Prop := ∃ A l c, cs = [.int .u8 v.kind, .int .u64 v.num, .string v.text, .slice A l c] ∧ v.kind < 256 ∧ v.num < 18446744073709551616 ∧ c ≤ maxLen ∧ Kd W v.kids A l c

theorem open_kids_of {W : World} {fuel : Nat} {cs : List Value} {x : DataW H × List MemPlace} (hV : ∀ n, n < fuel → ∀ cs x, DataW.trod enc Tryd.prog W 0 (fun _ => true) true n 27 cs = some x → ∃ v, FitsV W cs v ∧ bulk v ≤ Rows.uptoBulk x.1)
    (h : DataW.trod enc Tryd.prog W 0 (fun _ => true) true fuel 25 cs = some x) : ∃ A l c ks, cs = [.slice A l c] ∧ c ≤ maxLen ∧ Kd W ks A l c ∧ bulkL ks ≤ Rows.uptoBulk x.1 := by
  rcases DataW.trod_slice Tryd.underlying25 h with ⟨rfl, rfl⟩ | ⟨a, len, cap, elems, rest, n, rfl, rfl, rfl, _, hl, hm, hlen, hel, _, _⟩
  · exact ⟨none, 0, 0, [], rfl, by unfold maxLen; omega, Kd.none_ _ _ _, by simp [bulkL]⟩
  have hat : ∀ i, i < len → ∃ v, ∃ e cs', elems[i]? = some e ∧ W.cells? 0 (a.add (i * 4)) 4 = some cs' ∧ FitsV W cs' v ∧ bulk v ≤ Rows.uptoBulk e.1 := by
    intro i hi
    have he : elems[i]? = some elems[i] := List.getElem?_eq_getElem (by omega)
    have hb := hel i hi
    rw [cells27, he] at hb
    obtain ⟨cs', h1, h2⟩ := Option.bind_eq_some_iff.1 hb
    obtain ⟨v, hv, hbv⟩ := hV n (by omega) cs' elems[i] h2
    exact ⟨v, elems[i], cs', he, h1, hv, hbv⟩
  obtain ⟨ks, hkl, hk⟩ := list_of hat
  refine ⟨some a, len, cap, ks, rfl, hm, ⟨hkl.symm, hl, fun hl0 => ?_⟩, ?_⟩
  · obtain ⟨v0, hv0⟩ : ∃ v, ks[0]? = some v := ⟨ks[0]'(by omega), List.getElem?_eq_getElem (by omega)⟩
    obtain ⟨e0, cs0, _, hc0, _, _⟩ := hk 0 v0 hv0
    have hblk := World.cells?_block hc0 (by omega)
    obtain ⟨_, hcl, hcc⟩ := World.cells?_some hc0
    obtain ⟨b, o, spot⟩ := a
    have hspot : spot = none := by
      have h00 := hcc 0 (by omega)
      obtain ⟨c0, hc00⟩ : ∃ c, cs0[0]? = some c := ⟨cs0[0]'(by omega), List.getElem?_eq_getElem (by omega)⟩
      rw [hc00] at h00
      simpa [Addr.add] using World.cell?_spot h00
    subst hspot
    refine ⟨b, o, rfl, by simpa [Addr.add] using hblk, fun h => (by cases h), rowL_mk fun i v hi => ?_⟩
    obtain ⟨e, cs', _, hc, ⟨A, l, c, hcs, h1, h2, _, h3⟩, _⟩ := hk i v hi
    obtain ⟨_, _, hcc⟩ := World.cells?_some hc
    subst hcs
    have q0 := hcc 0 (by omega)
    have q1 := hcc 1 (by omega)
    have q2 := hcc 2 (by omega)
    have q3 := hcc 3 (by omega)
    simp only [add_plain, List.getElem?_cons_zero, List.getElem?_cons_succ, Nat.add_zero] at q0 q1 q2 q3
    rw [V.eta v]
    exact repV_iff.2 ⟨A, l, c, q0, q1, q2, q3, h1, h2, h3⟩
  · have := bulk_pairs (ks := ks) (es := elems.map (·.1)) (by simp [hkl, hlen]) fun i v hi => by
      obtain ⟨e, cs', he, _, _, hb⟩ := hk i v hi
      exact ⟨e.1, by simp [he], hb⟩
    simp only [Rows.uptoBulk]
    omega

theorem open_val (N : Nat) : ∀ n, n < N → ∀ (W : World) cs (x : DataW H × List MemPlace), DataW.trod enc Tryd.prog W 0 (fun _ => true) true n 27 cs = some x → ∃ v, FitsV W cs v ∧ bulk v ≤ Rows.uptoBulk x.1 := by
  induction N with
  | zero => intro n hn; omega
  | succ N ih =>
    intro n hn W cs x h
    obtain ⟨xs, m, rfl, rfl, hl, hlen, hf⟩ := DataW.trod_struct Tryd.underlying27 h
    match xs, hlen with
    | [y0, y1, y2, y3], _ =>
      have h0 := hf 0 _ rfl
      have h1 := hf 1 _ rfl
      have h2 := hf 2 _ rfl
      have h3 := hf 3 _ rfl
      rw [cells27] at hl
      match cs, hl with
      | [c0, c1, c2, c3], _ =>
        have e0 : ((List.drop 0 [c0, c1, c2, c3]).take (Tryd.prog.cellsOf 5)) = [c0] := by rw [show Tryd.prog.cellsOf 5 = 1 by kernel_rfl]; rfl
        have e1 : ((List.drop 1 [c0, c1, c2, c3]).take (Tryd.prog.cellsOf 22)) = [c1] := by rw [show Tryd.prog.cellsOf 22 = 1 by kernel_rfl]; rfl
        have e2 : ((List.drop 2 [c0, c1, c2, c3]).take (Tryd.prog.cellsOf 9)) = [c2] := by rw [show Tryd.prog.cellsOf 9 = 1 by kernel_rfl]; rfl
        have e3 : ((List.drop 3 [c0, c1, c2, c3]).take (Tryd.prog.cellsOf 25)) = [c3] := by rw [show Tryd.prog.cellsOf 25 = 1 by kernel_rfl]; rfl
        have g0 : DataW.trod enc Tryd.prog W 0 (fun _ => true) true m 5 [c0] = some y0 := by rw [← e0]; exact h0
        have g1 : DataW.trod enc Tryd.prog W 0 (fun _ => true) true m 22 [c1] = some y1 := by rw [← e1]; exact h1
        have g2 : DataW.trod enc Tryd.prog W 0 (fun _ => true) true m 9 [c2] = some y2 := by rw [← e2]; exact h2
        have g3 : DataW.trod enc Tryd.prog W 0 (fun _ => true) true m 25 [c3] = some y3 := by rw [← e3]; exact h3
        obtain ⟨k, hk, rfl, wk⟩ := DataW.trod_int Tryd.underlying5 g0
        obtain ⟨u, hu, rfl, wu⟩ := DataW.trod_int Tryd.underlying22 g1
        obtain ⟨t, ht, rfl, _⟩ := DataW.trod_string under9 g2
        obtain ⟨A, l, c, ks, hs, hcm, hK, hb⟩ := open_kids_of (fun n' hn' => ih n' (by omega) W) g3
        have bk : 0 ≤ k ∧ k < 256 := by simp [Lit.wf, IntKind.min, IntKind.max, IntKind.signed, IntKind.bits] at wk; omega
        have bu : 0 ≤ u ∧ u < 18446744073709551616 := by simp [Lit.wf, IntKind.min, IntKind.max, IntKind.signed, IntKind.bits] at wu; omega
        obtain ⟨k', rfl⟩ := Int.eq_ofNat_of_zero_le bk.1
        obtain ⟨u', rfl⟩ := Int.eq_ofNat_of_zero_le bu.1
        simp only [List.cons.injEq, and_true] at hk hu ht hs
        subst hk hu ht hs
        refine ⟨.mk k' u' t ks, ⟨A, l, c, rfl, by simp only [kind]; omega, by simp only [num]; omega, hcm, hK⟩, ?_⟩
        simp only [bulk, List.map_cons, List.map_nil, Rows.uptoBulk, Rows.uptoBulkAll] at hb ⊢
        simp
        omega

/-- An argument []api.Value. -/
theorem open_kids {W : World} {r : Reach} {b0 : Nat} {v : Value} {d : DataW H} {p : List MemPlace} (hval : Value.okWide Tryd.prog W r b0 25 v) (h : DataW.Trod enc Tryd.prog W 0 (fun _ => true) true 25 v d p) :
    ∃ A l c ks, v = .slice A l c ∧ c ≤ maxLen ∧ Kd W ks A l c ∧ bulkL ks ≤ Rows.uptoBulk d := by
  obtain ⟨a0, len, cap, rfl⟩ := okWide_slice Tryd.underlying25 hval
  obtain ⟨fuel, hf⟩ := h
  obtain ⟨A, l, c, ks, hcs, hm, hK, hb⟩ := open_kids_of (fun n _ => open_val (n + 1) n (by omega) W) hf
  simp only [Value.cells, List.cons.injEq, Value.slice.injEq, and_true] at hcs
  obtain ⟨rfl, rfl, rfl⟩ := hcs
  exact ⟨_, _, _, ks, rfl, hm, hK, hb⟩
/-- An argument api.Value. -/
theorem open_value {W : World} {r : Reach} {b0 : Nat} {v : Value} {d : DataW H} {p : List MemPlace} (hval : Value.okWide Tryd.prog W r b0 27 v) (h : DataW.Trod enc Tryd.prog W 0 (fun _ => true) true 27 v d p) :
    ∃ (k n : Nat) (t : ByteArray) (ks : List V) (A : Option Addr) (l c : Nat), v = .agg #[.int .u8 k, .int .u64 n, .string t, .slice A l c] ∧ k < 256 ∧ n < 18446744073709551616 ∧ c ≤ maxLen ∧ Kd W ks A l c ∧ bulk (.mk k n t ks) ≤ Rows.uptoBulk d := by
  obtain ⟨cs, rfl, hsz⟩ := okWide_struct Tryd.underlying27 hval
  obtain ⟨fuel, hf⟩ := h
  obtain ⟨⟨k, n, t, ks⟩, ⟨A, l, c, hcs, hk, hn, hm, hK⟩, hb⟩ := open_val (fuel + 1) fuel (by omega) W _ _ hf
  simp only [Value.cells, kind, num, text] at hcs
  refine ⟨k, n, t, ks, A, l, c, ?_, hk, hn, hm, hK, hb⟩
  congr 1
  cases cs
  simp at hcs
  simp [hcs]
end Go.Proofs.YtohmnbefokhjpaaDoor.Val
