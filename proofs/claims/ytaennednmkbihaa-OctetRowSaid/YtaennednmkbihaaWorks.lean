/-
  Contract of the anchor 'works': it answers true, and changes nothing that was there. No condition.
-/
import Derived.Test.YtaennednmkbihaaPiece
import Derived.Test.YtaennednmkbihaaSgn
import Derived.ArgAppend
import Derived.Lib.SlBytesConst
namespace Go.Proofs.Ytaennednmkbihaa.Oct
open Go.RowKit

/-- append(x[k:], z): x of the call's own, whatever room it has. -/
theorem wpList_push {w : World} {ops : Array Oper} {rest : List Oper} {o : Oper} {a : Act} {Q : Exit → Act → World → Prop} (hgd : o.guard = none) (s x : Operand)
    (ho : o.op = .call { callee := .builtin .append, args := #[s, x], argTypes := #[22, 22] })
    {base n c k g g' d : Nat} {L : List UInt8} {z : UInt8} (hown : Own w base (some ⟨g, 0, none⟩) n c L) (hk : k < n) (hs : a.eval s = .slice (some ⟨g, k, none⟩) (n - k) (c - k))
    (hx : a.eval x = .slice (some ⟨g', 0, none⟩) 1 d) (hz : w.cell? ⟨g', 0, none⟩ = some (.int .u8 (z.toNat : Int))) (hsz : n ≤ 1099511627776) (hbase : base ≤ w.heap.size)
    (h : ∀ A2 c2 w', Rd w' w'.heap.size A2 (n - k + 1) (L.drop k ++ [z]) → n - k + 1 ≤ c2 → Below base w w' → wpList Try.prog ops Q rest (a.put o.dst (.slice A2 (n - k + 1) c2)) w') :
    wpList Try.prog ops Q (o :: rest) a w := by
  obtain ⟨i0, hi, hz0, hz1, hz2⟩ := info_parts info5
  have hrd := hown.rd
  have hlen := hown.len
  obtain ⟨hnc, hcm⟩ := hown.cap
  obtain ⟨cur, hcur, hcs⟩ : ∃ cur, w.heap[g]? = some (.cells cur 5 (0, 0)) ∧ cur.size = c := by
    rcases hown.2 with ⟨e, _⟩ | ⟨g1, cap, cur, e, _, hh, _, _, hs, _⟩
    · cases e
    · injection e with e1 _ e3
      injection e1 with e1
      injection e1 with e1
      subst e1
      subst e3
      exact ⟨cur, hh, by omega⟩
  obtain ⟨hb1, hb2⟩ := hown.blk g rfl
  have hcell : ∀ j, w.cell? ⟨g, j, none⟩ = cur[j]? := fun j => by simp [World.cell?, hcur]
  refine wpList_append_arg w hgd s x 22 ho 5 i0 (.int .u8 0) 1 1 Try.underlying22 hi hz0 hz1 hz2 rfl (by decide) g k (n - k) (c - k) (bs (L.drop k)) hs (by rw [bs_length, List.length_drop]; omega) ?_ ⟨g', 0, none⟩ 1 d [.int .u8 (z.toNat : Int)] hx rfl ?_ (bs_one [z]) ?_ (by unfold maxLen; omega) (by omega) ?_ ?_
  · intro j u hu
    have hj : j < (L.drop k).length := by
      have := (List.getElem?_eq_some_iff.1 hu).1
      rwa [bs_length] at this
    rw [bs_at _ j hj] at hu
    injection hu with hu
    subst hu
    rw [List.length_drop] at hj
    obtain ⟨b, o', e, _, hc⟩ := hrd.2 (by omega)
    injection e with e
    injection e with e1 e2
    subst e1
    subst e2
    have := hc (k + j) (by omega)
    rw [Nat.zero_add] at this
    rw [this]
    simp
  · intro j u hu
    match j, hu with
    | 0, hu =>
      simp at hu
      subst hu
      simpa [Addr.add] using hz
  · intro hr j hj
    have hj0 : j = 0 := by simpa using hj
    subst hj0
    refine ⟨?_, by simp [World.frozen?, hcur]⟩
    rw [hcell, Array.getElem?_eq_getElem (by omega)]
    rfl
  · intro hroom
    refine h (some ⟨g, k, none⟩) (c - k) _ ⟨by rw [List.length_append, List.length_drop]; simp; omega, fun _ => ⟨g, k, rfl, by simp [World.setCells, World.setCell]; omega, fun j hj => ?_⟩⟩ hroom ((Below.refl _ _).setCell hb1 _)
    rw [List.length_append, List.length_drop, List.length_singleton] at hj
    show (w.setCell ⟨g, k + (n - k) * 1, none⟩ (.int .u8 (z.toNat : Int))).cell? _ = _
    by_cases hjl : j < (L.drop k).length
    · have hjl' := hjl
      rw [List.length_drop] at hjl'
      rw [World.cell?_setCell_other _ _ _ _ (by intro e; injection e with _ e; omega), List.getElem_append_left hjl]
      obtain ⟨b, o', e, _, hc⟩ := hrd.2 (by omega)
      injection e with e
      injection e with e1 e2
      subst e1
      subst e2
      have := hc (k + j) (by omega)
      rw [Nat.zero_add] at this
      rw [this]
      simp
    · have hjl' := hjl
      rw [List.length_drop] at hjl'
      obtain rfl : j = n - k := by omega
      rw [Nat.mul_one, List.getElem_append_right (by rw [List.length_drop]; omega), World.cell?_setCell_same' _ _ _ (by rw [hcell, Array.getElem?_eq_getElem (by omega)]; rfl)]
      simp
  · intro hgr v' w' hown' hg'
    rw [show bs (L.drop k) ++ [Value.int .u8 (z.toNat : Int)] = bs (L.drop k ++ [z]) from by rw [bs_append]; rfl] at hown'
    obtain ⟨A2, c2, rfl, ho2⟩ := own_of_row hown'
    exact h A2 c2 w' ho2.rd ho2.cap.1 ((Below.refl _ _).grown hg' hbase fun _ h => by cases h)
theorem n_of {w : World} {base n c : Nat} {A : Option Addr} {l : List UInt8} (h : Own w base A n c l) (m : Nat) (hm : l.length = m) : n = m := by rw [← h.len]; exact hm

theorem rd_marked (w : World) (l : List UInt8) (n : Nat) (f : Nat × Nat) (hn : l.length = n) : Rd (w.alloc (.cells (bs l).toArray 5 f)) (w.heap.size + 1) (some ⟨w.heap.size, 0, none⟩) n l := by
  refine ⟨hn, fun _ => ⟨w.heap.size, 0, rfl, by omega, fun k hk => ?_⟩⟩
  have h := heap_alloc_new w (.cells (bs l).toArray 5 f)
  unfold World.cell?
  dsimp only
  rw [h]
  simp [bs, List.getElem?_eq_getElem hk]

theorem p_pc : ppc [0, 0, 0, 2, 97, 98, 9] 4 = [97, 98] := by decide
theorem p_rs : prs [0, 0, 0, 2, 97, 98, 9] 4 = [9] := by decide
theorem p_er : perr [0, 0, 0, 2, 97, 98, 9] 4 = 0 := by decide
theorem s_255 : sg 255 1 = 18446744073709551615 := by rw [sg_val 255 1 (by omega) (by omega)]; decide

theorem sgn_255 (w : World) : Calls Try.prog 16 #[.int .u64 255, .int .i64 1] w fun e w' => e = .returned (.int .u64 18446744073709551615) ∧ w = w' :=
  (sgn_any 255 1 w).mono fun e w' ⟨he, hw⟩ => ⟨he.trans (ret_int (by rw [show Int.toNat 1 = 1 from rfl, s_255]; rfl)), hw⟩

theorem works_any (w : World) : Calls Try.prog 9 #[] w fun e w' => e = .returned (.bool true) ∧ Below w.heap.size w w' := by
  have cv := fun (w : World) (C : Array Value) (n c : Nat) => Lib.run_convert_bytes_const (P := Try.prog) w 22 5 C n c Try.underlying22 under5
  go_enter Try.func9, Try.ntmps9
  go_wp2_with fail
  refine (lay_any none 0 0 [] 258 2 _ (Rd.zero _ _ _) (by omega)).mono ?_
  rintro e w1 ⟨A1, n1, c1, rfl, ho1, hb1⟩
  have hr1 := ho1.rd
  obtain rfl := n_of ho1 2 rfl
  have hz1 := hb1.size
  go_wp2_with fail
  have hr1' : Rd (w1.alloc (.cells #[.int .u8 97, .int .u8 98] 5 (2, 3))) (w1.heap.size + 1) A1 2 ([] ++ be 258 (wd 2)) := (hr1.alloc (Nat.le_refl _) _).mono (by omega)
  have hr2 : Rd (w1.alloc (.cells #[.int .u8 97, .int .u8 98] 5 (2, 3))) (w1.heap.size + 1) (some ⟨w1.heap.size, 0, none⟩) 2 [97, 98] := rd_marked w1 [97, 98] 2 (2, 3) rfl
  refine (layp_yes A1 (some ⟨w1.heap.size, 0, none⟩) 2 c1 2 2 ([] ++ be 258 (wd 2)) [97, 98] 4 _ (.inr ⟨rfl, by omega⟩) (by simpa using hr1') (by simpa using hr2) (by omega) (by omega)).mono ?_
  rintro e w2 ⟨A2, n2, c2, rfl, ho2, hb2⟩
  obtain rfl := n_of ho2 8 rfl
  have hb2' : Below w.heap.size w w2 := (hb1.alloc hz1 _).trans (hb2.mono (by simp; omega))
  have e8 : (([] ++ be 258 (wd 2)) ++ be 2 (Int.toNat 4)) ++ [97, 98] = [1, 2, 0, 0, 0, 2, 97, 98] := by decide
  rw [e8] at ho2
  have hc2 : 8 ≤ c2 := ho2.cap.1
  obtain ⟨g, c2', hv, hg1, hg2⟩ := World.ownsRow.form ho2 (by omega)
  injection hv with hv _ hv'
  subst hv
  subst hv'
  have ho2' := ho2.mono (base' := w.heap.size) (by simp; omega)
  have ht2 : Rd w2 w2.heap.size (some ⟨g, 0, none⟩) 2 [1, 2] := ho2.rd.take (k := 2) (by omega)
  have et : told [1, 2] = .tuple #[.int .u64 258, .bool true] := by rfl
  have hs2 := hb2'.size
  clear hr1 hr1' hr2 hb1 hb2 hz1 ho1 ho2 e8
  go_wp2_with fail
  refine (tell_any w2.heap.size _ 2 c2 [1, 2] _ ht2).mono ?_
  rw [et]
  clear et ht2
  rintro e w2' ⟨rfl, rfl⟩
  go_wp2_with (first
    | (at_builtin; refine wpList_push (z := 9) (k := 2) rfl _ _ rfl (ho2'.alloc _) (by omega) rfl rfl (by simp) (by omega) (by simp; omega) ?_; intro A3 c3 w3 hr3 hc3 hb3; have hb3' : Below w.heap.size w w3 := (hb2'.alloc hs2 _).trans hb3; clear hb3)
    | (go_at_call 20; refine (piece_any A3 7 c3 [0, 0, 0, 2, 97, 98, 9] 4 _ hr3 hc3 (by omega)).mono ?_; rw [p_pc, p_rs, p_er]; rintro e w4 ⟨P, np, cp, R, nr, cr, rfl, hoP, hoR, hb4⟩; obtain rfl := n_of hoP 2 rfl; obtain rfl := n_of hoR 1 rfl; have hcp := run_str cp hoP.rd; obtain ⟨b, o, c', rfl, _, hx, hcR⟩ := hoR.rd.at_ (k := 0) (by omega); obtain rfl : c' = 9 := (by simpa using hx.symm); have hcR' : w4.cell? ⟨b, o, none⟩ = some (.int .u8 9) := hcR; clear hcR hx)
    | (go_at_call 16; refine (sgn_255 _).mono ?_; rintro e w' ⟨rfl, rfl⟩))
  go_ret
  exact ⟨rfl, hb3'.trans (hb4.mono hb3'.size)⟩
end Go.Proofs.Ytaennednmkbihaa.Oct
