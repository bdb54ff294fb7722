/-
  Contract of the document's Get: what a map has by a key, in new memory. Memory that was there stays. Condition: values of bulk at most 2^30.
-/
import Derived.Test.YtdbcdabijolagaaDoorVget
namespace Go.Proofs.YtdbcdabijolagaaDoor.Val
open Go.RowKit Go.Proofs.YtdbcdabijolagaaDoor.Utf V

theorem pairs_split : ∀ (i : Nat) (ks : List V), i % 2 = 0 → pairsL ks = pairsL (ks.take i) ++ pairsL (ks.drop i)
  | 0, ks, _ => by simp [pairsL]
  | 1, _, h => by simp at h
  | i + 2, [], _ => by simp [pairsL]
  | i + 2, [_], _ => by simp [pairsL]
  | i + 2, x :: y :: r, h => by
    have := pairs_split i r (by omega)
    simp only [List.take_succ_cons, List.drop_succ_cons, pairsL, List.cons_append, ← this]
theorem pairs_take : ∀ (i : Nat) (ks : List V) {a b : V}, i % 2 = 0 → ks[i]? = some a → ks[i + 1]? = some b → pairsL (ks.take (i + 2)) = pairsL (ks.take i) ++ [(a, b)]
  | 0, x :: y :: r, a, b, _, ha, hb => by simp at ha hb; subst ha; subst hb; simp [pairsL]
  | 0, [_], _, _, _, _, hb => by simp at hb
  | 0, [], _, _, _, ha, _ => by simp at ha
  | 1, _, _, _, h, _, _ => by simp at h
  | i + 2, [], _, _, _, ha, _ => by simp at ha
  | i + 2, [_], _, _, _, ha, _ => by simp at ha
  | i + 2, x :: y :: r, a, b, h, ha, hb => by
    have := pairs_take i r (a := a) (b := b) (by omega) (by simpa using ha) (by simpa using hb)
    simp only [List.take_succ_cons, pairsL, List.cons_append, this]
theorem pairs_drop {i : Nat} {ks : List V} {a b : V} (ha : ks[i]? = some a) (hb : ks[i + 1]? = some b) : pairsL (ks.drop i) = (a, b) :: pairsL (ks.drop (i + 2)) := by
  have e1 := drop_at ha
  have e2 := drop_at hb
  rw [e1, e2, pairsL]
theorem pairs_short : ∀ {l : List V}, l.length ≤ 1 → pairsL l = []
  | [], _ => rfl
  | [_], _ => rfl
  | _ :: _ :: _, h => absurd h (by simp)

set_option maxRecDepth 100000 in
set_option maxHeartbeats 800000 in
theorem xget_any (k n : Nat) (t : ByteArray) (ks : List V) (A : Option Addr) (l c : Nat) (k' n' : Nat) (t' : ByteArray) (ks' : List V) (A' : Option Addr) (l' c' : Nat) (w : World) (hN : bulkL ks ≤ 1073741824) (hk : k < 256) (hk' : k' < 256) (hn' : n' < 18446744073709551616) (hK : Kd w ks A l c) (hK' : Kd w ks' A' l' c') :
    Calls Tryd.prog 33 #[.agg #[.int .u8 k, .int .u64 n, .string t, .slice A l c], .agg #[.int .u8 k', .int .u64 n', .string t', .slice A' l' c']] w (GivesG (getV (.mk k n t ks) (.mk k' n' t' ks')) w) := by
  have b1 := (Box.new2 w (.cells #[.int .u8 k, .int .u64 n, .string t, .slice A l c] 25) (.int .u8 k') (.int .u64 n') (.string t') (.slice A' l' c')).alloc (.cells #[.int .u8 0, .int .u64 0, .string ⟨#[]⟩, .slice none 0 0] 25)
  have b2 := (Box.new ((w.alloc (.cells #[.int .u8 k, .int .u64 n, .string t, .slice A l c] 25)).alloc (.cells #[.int .u8 k', .int .u64 n', .string t', .slice A' l' c'] 25)) (.int .u8 0) (.int .u64 0) (.string ⟨#[]⟩) (.slice none 0 0))
  have b0 := ((Box.new w (.int .u8 k) (.int .u64 n) (.string t) (.slice A l c)).alloc (.cells #[.int .u8 k', .int .u64 n', .string t', .slice A' l' c'] 25)).alloc (.cells #[.int .u8 0, .int .u64 0, .string ⟨#[]⟩, .slice none 0 0] 25)
  have bb : Below w.heap.size w (((w.alloc (.cells #[.int .u8 k, .int .u64 n, .string t, .slice A l c] 25)).alloc (.cells #[.int .u8 k', .int .u64 n', .string t', .slice A' l' c'] 25)).alloc (.cells #[.int .u8 0, .int .u64 0, .string ⟨#[]⟩, .slice none 0 0] 25)) :=
    (two_boxes w _ _).alloc (by simp; omega) _
  simp only [World.size_alloc] at b2
  have hl1 : l ≤ ks.length := Nat.le_of_eq hK.len
  have hl2 : ks.length ≤ l := Nat.le_of_eq hK.len.symm
  have hlb := length_bulk ks
  go_enter Tryd.func33, Tryd.ntmps33
  by_cases hk23 : k = 23
  · subst hk23
    go_wp2_with fail
    simp only [Int.cast_ofNat_Int]
    go_loopw [6] (fun i wr => ∃ j : Nat, (j ≤ l + 1 ∧ j % 2 = 0) ∧ i = .int .i64 j ∧ getL (pairsL (ks.take j)) (.mk k' n' t' ks') = none ∧ Box wr w.heap.size (.int .u8 (23 : Nat)) (.int .u64 n) (.string t) (.slice A l c) ∧ Box wr (w.heap.size + 1) (.int .u8 k') (.int .u64 n') (.string t') (.slice A' l' c') ∧ Box wr (w.heap.size + 1 + 1) (.int .u8 0) (.int .u64 0) (.string ⟨#[]⟩) (.slice none 0 0) ∧ Below w.heap.size w wr) (fun i _ => l + 1 - (intOf i).toNat)
    case atStart => exact ⟨0, ⟨by omega, rfl⟩, rfl, rfl, b0, b1, b2, bb⟩
    case round =>
      obtain ⟨j, ⟨hj, hj2⟩, rfl, hg, B0, B1, B2, hb⟩ := hrel
      have HG := Lib.hid hg
      have HJ2 := Lib.hid hj2
      clear hg hj2
      obtain ⟨p0, p1, p2, p3, pf⟩ := B0.all
      obtain ⟨q0, q1, q2, q3, qf⟩ := B1.all
      obtain ⟨r0, r1, r2, r3, rf⟩ := B2.all
      by_cases hlt : j + 1 < l
      · obtain ⟨b, o, k1, n1, t1, ks1, A1, l1, c1, rfl, hb1, hx, h0, h1, h2, h3, hk1, hn1, hK1⟩ := (hK.call hb).at_ (i := j) (by omega)
        obtain ⟨b', o', k2, n2, t2, ks2, A2, l2, c2, hAe, hb2, hy, v0, v1, v2, v3, hk2, hn2, hK2⟩ := (hK.call hb).at_ hlt
        simp only [Option.some.injEq, Addr.mk.injEq, and_true] at hAe
        obtain ⟨rfl, rfl⟩ := hAe
        have hbk := at_bulk hx
        have hbk2 := at_bulk hy
        simp only [bulk] at hbk hbk2
        have HX := Lib.hid hx
        have HY := Lib.hid hy
        clear hx hy
        have hjI : (j : Int) + 1 < (l : Int) := by omega
        have hjI0 : (j : Int) < (l : Int) := by omega
        have HKK := Lib.hid (hK'.call hb)
        go_wp2_with fail
        go_still_tail 6, (by kernel_rfl)
        go_wp2_with fail
        refine (xsame_any _ k1 n1 t1 ks1 A1 l1 c1 k' n' t' ks' A' l' c' wr.drew (Nat.le_refl _) (by omega) hk1 hk' hn1 hn' hK1.drew HKK.out.drew).mono ?_
        rintro e w2 ⟨rfl, hb4⟩
        have hs2 : wr.heap.size ≤ w2.heap.size := hb4.size
        have hbd : Below wr.heap.size wr w2 := ((Below.refl _ wr).drew).trans hb4
        have hb3 := below_next hb hbd
        replace B0 := B0.call hbd
        replace B1 := B1.call hbd
        replace B2 := B2.call hbd
        obtain ⟨p0', p1', p2', p3', pf'⟩ := B0.all
        obtain ⟨r0', r1', r2', r3', rf'⟩ := B2.all
        have u0 := (hbd.cell (p := ⟨b, o + (j + 1) * 4, none⟩) hb1).trans v0
        have u1 := (hbd.cell (p := ⟨b, o + (j + 1) * 4 + 1, none⟩) hb1).trans v1
        have u2 := (hbd.cell (p := ⟨b, o + (j + 1) * 4 + 2, none⟩) hb1).trans v2
        have u3 := (hbd.cell (p := ⟨b, o + (j + 1) * 4 + 3, none⟩) hb1).trans v3
        cases hq : same (.mk k1 n1 t1 ks1) (.mk k' n' t' ks') with
        | true =>
          have HQ := Lib.hid hq
          clear hq
          go_wp2_with fail
          refine (xcopy_any k2 n2 t2 ks2 A2 l2 c2 w2 (by omega) (hK2.call hbd)).mono ?_
          rintro e w3 ⟨A3, l3, c3, rfl, hN3, hb5⟩
          have hb6 := below_next hb3 hb5
          have hs3 := hb5.size
          have hs4 := hb3.size
          have hlt2 := B2.lt
          replace B2 := B2.call hb5
          obtain ⟨d0, d1, d2, d3, df⟩ := B2.all
          have HN3 := Lib.hid hN3
          clear hN3
          go_wp2_with fail
          obtain ⟨f0, f1, f2, f3, ff⟩ := (B2.set4 (.int .u8 k2) (.int .u64 n2) (.string t2) (.slice A3 l3 c3)).all
          have hso : getV (.mk 23 n t ks) (.mk k' n' t' ks') = some (.mk k2 n2 t2 ks2) := by
            simp only [getV, kind, kids, if_true]
            rw [pairs_split j ks HJ2.out, getL_none HG.out, pairs_drop HX.out HY.out]
            simp only [getL, HQ.out, if_true]
          refine bodyPost_ret (v := .tuple #[.agg #[.int .u8 k2, .int .u64 n2, .string t2, .slice A3 l3 c3], .bool true]) (by simp [results, Tryd.results33, go_sem, f0, f1, f2, f3]) rfl ?_
          exact ⟨k2, n2, t2, ks2, A3, l3, c3, by rw [hso]; rfl, hk2, hn2, by rw [hso]; rfl, (HN3.out.far4 (g := w.heap.size + 1 + 1) hlt2 _ _ _ _).less (by omega), below_set4 hb6 (by omega) _ _ _ _⟩
        | false =>
          have HQ := Lib.hid hq
          clear hq
          go_wp2_with fail
          go_roundw
          case rel => exact ⟨j + 2, ⟨by omega, by have := HJ2.out; omega⟩, by go_num, by rw [pairs_take j ks HJ2.out HX.out HY.out]; exact getL_not HG.out HQ.out, B0, B1, B2, hb3⟩
          case measure => simp [intOf]; omega
      · have hz : getV (.mk 23 n t ks) (.mk k' n' t' ks') = none := by
          simp only [getV, kind, kids, if_true]
          rw [pairs_split j ks HJ2.out, pairs_short (l := ks.drop j) (by simp; omega), List.append_nil]
          exact HG.out
        have HZ := Lib.hid hz
        clear hz
        have hjI : ¬ (j : Int) + 1 < (l : Int) := by omega
        go_wp2_with fail
        obtain ⟨d0, d1, d2, d3, df⟩ := (B2.set4 (.int .u8 0) (.int .u64 0) (.string ⟨#[]⟩) (.slice none 0 0)).all
        refine bodyPost_ret (v := .tuple #[.agg #[.int .u8 0, .int .u64 0, .string ⟨#[]⟩, .slice none 0 0], .bool false]) (by simp [results, Tryd.results33, go_sem, d0, d1, d2, d3]) rfl ?_
        exact ⟨0, 0, ⟨#[]⟩, [], none, 0, 0, by rw [HZ.out]; rfl, by omega, by omega, by rw [HZ.out]; rfl, Kids.none_ _ _ _ _ _, below_set4 hb (by omega) _ _ _ _⟩
  · go_wp2_with fail
    obtain ⟨d0, d1, d2, d3, df⟩ := b2.all
    refine bodyPost_ret (v := .tuple #[.agg #[.int .u8 0, .int .u64 0, .string ⟨#[]⟩, .slice none 0 0], .bool false]) (by simp [results, Tryd.results33, go_sem]) rfl ?_
    exact ⟨0, 0, ⟨#[]⟩, [], none, 0, 0, by simp [getV, kind, hk23, empty], by omega, by omega, by simp [getV, kind, hk23], Kids.none_ _ _ _ _ _, bb⟩
end Go.Proofs.YtdbcdabijolagaaDoor.Val
