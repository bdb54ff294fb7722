/-
  Contract of the program's symbols: the texts of one symbol, or of an array of nothing else. Memory that was there stays. Condition: values of bulk at most 2^30.
-/
import Derived.Test.YtobnbgbijdhjjaaDoorFun
import Derived.Deep.AppendLies
namespace Go.Proofs.YtobnbgbijdhjjaaDoor.Fl
set_option maxRecDepth 100000
open Go.RowKit Go.Proofs.YtobnbgbijdhjjaaDoor.Utf Go.Proofs.YtobnbgbijdhjjaaDoor.Val V

/-- A call's own row of texts. -/
def Strs (B : Nat) (w : World) (A : Option Addr) (n c : Nat) (ts : List ByteArray) : Prop := w.ownsRow B 9 1 (.slice A n c) n (ts.map .string)
section
variable {B B' : Nat} {w w1 : World} {A : Option Addr} {n c : Nat} {ts : List ByteArray}
theorem Strs.nil (B : Nat) (w : World) : Strs B w none 0 0 [] := World.ownsRow_nil _ _ _ _
theorem Strs.len (h : Strs B w A n c ts) : n = ts.length := by
  have h1 : (ts.map Value.string).length = n * 1 := h.1
  rw [List.length_map] at h1
  omega
theorem Strs.call (h : Strs B w A n c ts) (hb : Below w.heap.size w w1) : Strs B w1 A n c ts := World.ownsRow.kept h (grown_of_below hb) (by cases hv : (Value.slice A n c).ownBlock <;> simp)
theorem Strs.mono (h : Strs B w A n c ts) (hb : B' ≤ B) : Strs B' w A n c ts := by
  refine ⟨h.1, ?_⟩
  rcases h.2 with h | ⟨g, cap, cur, h1, h2, h3⟩
  · exact .inl h
  · exact .inr ⟨g, cap, cur, h1, by omega, h3⟩
theorem Strs.keep (h : Strs B w A n c ts) (hk : ∀ g, (Value.slice A n c).ownBlock = some g → w1.heap[g]? = w.heap[g]?) : Strs B w1 A n c ts := by
  refine ⟨h.1, ?_⟩
  rcases h.2 with h | ⟨g, cap, cur, h1, h2, h3⟩
  · exact .inl h
  · injection h1 with e1 e2 e3
    subst e1
    exact .inr ⟨g, cap, cur, by rw [e2, e3], h2, (hk g (by cases n <;> cases c <;> simp_all [Value.ownBlock])).trans h3.1, h3.2⟩
end
theorem infoS : (Tryd.prog.info? 9).map (fun i => (i.zero, i.size, i.bytes)) = some (some (.string ⟨#[]⟩), 1, 16) := by kernel_rfl
theorem news1 (w : World) (x : Value) (e : TypeId) (H : Nat) (hH : w.heap.size = H) : ∀ j v, [x][j]? = some v → (w.alloc (.cells #[x] e)).cell? ((⟨H, 0, none⟩ : Addr).add j) = some v := by
  subst hH
  intro j v hv
  have hj : j < 1 := (List.getElem?_eq_some_iff.1 hv).1
  obtain rfl : j = 0 := by omega
  rw [← hv]; simp [Addr.add]
/-- One value beside nothing. -/
theorem kid1 {w : World} {k n : Nat} {t : ByteArray} {ks : List V} {A : Option Addr} {l c : Nat} (hk : k < 256) (hn : n < 18446744073709551616) (hK : Kd w ks A l c) : Kd (w.alloc (.cells #[.int .u8 k, .int .u64 n, .string t, .slice A l c] 25)) [.mk k n t ks] (some ⟨w.heap.size, 0, none⟩) 1 1 := by
  refine ⟨rfl, Nat.le_refl _, fun _ => ⟨w.heap.size, 0, rfl, by simp, fun h => (by cases h), ?_⟩⟩
  exact ⟨repV_iff.2 ⟨A, l, c, by simp, by simp, by simp, by simp, hk, hn, hK.alloc _⟩, trivial⟩

/-- What symbols looks at; whether all are symbols; their texts. -/
def symOf (v : V) : List V := if v.kind = 24 then v.kids else [v]
def allSym (us : List V) : Bool := us.all fun u => decide (u.kind = 21)
def texts (us : List V) : List ByteArray := us.map V.text
theorem allSym_snoc {us : List V} {j : Nat} {v : V} (h : us[j]? = some v) : allSym (us.take (j + 1)) = (allSym (us.take j) && decide (v.kind = 21)) := by
  unfold allSym
  rw [List.take_add_one, h]
  simp
theorem texts_snoc {us : List V} {j : Nat} {v : V} (h : us[j]? = some v) : texts (us.take (j + 1)) = texts (us.take j) ++ [v.text] := by
  unfold texts
  rw [List.take_add_one, h]
  simp
theorem allSym_no {us : List V} {j : Nat} {v : V} (h : us[j]? = some v) (hk : v.kind ≠ 21) : allSym us = false := by
  cases hb : allSym us with
  | false => rfl
  | true => exact absurd (of_decide_eq_true (List.all_eq_true.1 hb v (List.mem_of_getElem? h))) hk
/-- Texts that are answered. -/
def QL (B : Nat) (ts : List ByteArray) (r : Value) (w' : World) : Prop := ∃ A n c, r = .slice A n c ∧ Strs B w' A n c ts

set_option maxHeartbeats 1000000 in
theorem syms_any (k n : Nat) (t : ByteArray) (ks : List V) (A : Option Addr) (l c : Nat) (w : World) (hN : bulk (.mk k n t ks) ≤ 1073741824) (hk : k < 256) (hn : n < 18446744073709551616) (hK : Kd w ks A l c) (b : Bool) (hd : allSym (symOf (.mk k n t ks)) = b) :
    Calls Tryd.prog 70 #[.agg #[.int .u8 (k : Int), .int .u64 (n : Int), .string t, .slice A l c]] w (GivesP (fun r w' => b = true → QL w.heap.size (texts (symOf (.mk k n t ks))) r w') b w) := by
  have hB1 : Below w.heap.size w (w.alloc (.cells #[.int .u8 (k : Int), .int .u64 (n : Int), .string t, .slice A l c] 25)) := (Below.refl _ _).alloc (Nat.le_refl _) _
  have hB2 : Below w.heap.size w ((w.alloc (.cells #[.int .u8 (k : Int), .int .u64 (n : Int), .string t, .slice A l c] 25)).alloc (.cells #[.int .u8 (k : Int), .int .u64 (n : Int), .string t, .slice A l c] 25)) := two_boxes w _ _
  have hK1 := kid1 (t := t) hk hn (hK.call hB1)
  have hK2 := hK.call hB2
  obtain ⟨i0, hi, hz0, hz1, hz2⟩ := info_parts infoS
  simp only [bulk] at hN
  have hlb := length_bulk ks
  obtain ⟨us, hus⟩ : ∃ us, symOf (.mk k n t ks) = us := ⟨_, rfl⟩
  rw [hus] at hd ⊢
  by_cases h24 : k = 24
  · subst h24
    obtain rfl : ks = us := hus
    have HK := Lib.hid hK2
    have HB := Lib.hid hB2
    have HD := Lib.hid hd
    have HLU := Lib.hid (hK2).len
    have HL := Lib.hid (show l ≤ 1073741824 by have := HLU.out; omega)
    clear hB1 hB2 hK1 hK2 hK hd hN hlb
    simp only [Int.cast_ofNat_Int]
    go_enter Tryd.func70, Tryd.ntmps70
    go_wp2
    obtain ⟨W, hW⟩ : ∃ W, (w.alloc (.cells #[.int .u8 24, .int .u64 (n : Int), .string t, .slice A l c] 25)).alloc (.cells #[.int .u8 24, .int .u64 (n : Int), .string t, .slice A l c] 25) = W := ⟨_, rfl⟩
    have HWK : Hid (Kd W ks A l c) := Lib.hid (hW ▸ HK.out)
    have HWB : Hid (Below w.heap.size w W) := Lib.hid (hW ▸ HB.out)
    clear HK HB
    rw [hW]
    clear hW
    go_loopw [5, 17] (fun s i wr => ∃ (j : Nat) (A1 : Option Addr) (c1 : Nat), j ≤ l ∧ i = .int .i64 j ∧ s = .slice A1 j c1 ∧ Strs W.heap.size wr A1 j c1 (texts (ks.take j)) ∧ allSym (ks.take j) = true ∧ Below W.heap.size W wr) (fun _ i _ => l - (intOf i).toNat)
    case atStart => exact ⟨0, none, 0, Nat.zero_le _, rfl, rfl, Strs.nil _ _, rfl, Below.refl _ _⟩
    case round =>
      obtain ⟨j, A1, c1, hj, rfl, rfl, hS, hall, hb⟩ := hrel
      have HS := Lib.hid hS
      have HA := Lib.hid hall
      have HBW := Lib.hid hb
      have HL2 := HL.out
      by_cases hlt : j < l
      · obtain ⟨bb, oo, k', n', t', ks', A', l', c', hAA, hb', hx, h0, h1, h2, h3, hk', hn', hK'⟩ := (HWK.out.call hb).at_ hlt
        subst hAA
        have HX := Lib.hid hx
        obtain ⟨z0, z1, z2, z3, _⟩ := (Box.new wr (.int .u8 (k' : Int)) (.int .u64 (n' : Int)) (.string t') (.slice A' l' c')).all
        have hbn : Below W.heap.size W (wr.alloc (.cells #[.int .u8 (k' : Int), .int .u64 (n' : Int), .string t', .slice A' l' c'] 25)) := hb.alloc hb.size _
        have HBN := Lib.hid hbn
        have HSN := Lib.hid (World.ownsRow.alloc hS (.cells #[.int .u8 (k' : Int), .int .u64 (n' : Int), .string t', .slice A' l' c'] 25))
        by_cases h21 : k' = 21
        · subst h21
          have hs := hb.size
          have hlt9 := World.ownsRow.lt hS
          have HOB := Lib.hid hlt9
          clear hx hS hall hb hbn hlt9 hK'
          go_wp2_with (at_builtin; refine wpList_append_lies _ rfl _ _ 38 rfl W.heap.size 9 i0 _ 1 16 Tryd.underlying38 hi hz0 hz1 hz2 rfl (by omega) _ _ _ rfl (World.ownsRow.alloc HSN.out _) ⟨wr.heap.size + 1, 0, none⟩ 1 1 [.string t'] rfl rfl (news1 _ _ _ _ (by simp)) (fun u hu => (by simp at hu; rcases hu with rfl; rfl)) (by omega) (by unfold maxLen; omega) (by omega) (by simp; omega) _ rfl ?_; intro g9 cap9 w9 hown9 hgrow9 hat9 _)
          go_roundw
          case rel =>
            refine ⟨j + 1, some ⟨g9, 0, none⟩, cap9, by omega, by go_num, rfl, ?_, ?_, (HBN.out.alloc (by simp; omega) _).grown hgrow9 (by simp; omega) fun k hk => (HOB.out k hk).1⟩
            · rw [texts_snoc HX.out]
              unfold Strs
              rw [List.map_append]
              exact hown9
            · rw [allSym_snoc HX.out, HA.out]
              rfl
          case measure => simp [intOf]; omega
        · have hne21 : ((k' : Int) == 21) = false := by simp; omega
          have HN21 := Lib.hid h21
          clear h21 hx hS hall hb hbn
          go_wp2
          refine bodyPost_ret (v := .tuple #[.slice none 0 0, .bool false]) (by simp [results, Tryd.results70, go_sem]) rfl ?_
          obtain rfl : b = false := by rw [← HD.out]; exact allSym_no HX.out HN21.out
          exact ⟨_, rfl, (fun h => by cases h), HWB.out.trans (HBN.out.mono HWB.out.size)⟩
      · have hjl : j = l := by omega
        have HE : Hid (ks.take j = ks) := Lib.hid (List.take_of_length_le (by have := HLU.out; omega))
        clear hS hall hb
        go_wp2
        refine bodyPost_ret (v := .tuple #[.slice A1 j c1, .bool true]) (by simp [results, Tryd.results70, go_sem]) rfl ?_
        obtain rfl : b = true := by rw [← HD.out, ← HA.out, HE.out]
        exact ⟨_, rfl, fun _ => ⟨A1, j, c1, rfl, by have := HS.out; rw [HE.out] at this; exact this.mono HWB.out.size⟩, HWB.out.trans (HBW.out.mono HWB.out.size)⟩
  · have hne : ((k : Int) == 24) = false := by simp; omega
    obtain rfl : [V.mk k n t ks] = us := by rw [← hus]; exact (if_neg (show ¬ (V.mk k n t ks).kind = 24 from h24)).symm
    simp only [World.size_alloc] at hK1
    have HK := Lib.hid hK1
    have HB := Lib.hid hB2
    have HD := Lib.hid hd
    have HLU := Lib.hid (hK1).len
    have HL := Lib.hid (show 1 ≤ 1073741824 by have := HLU.out; omega)
    clear hB1 hB2 hK1 hK2 hK hd h24 hus hN hlb
    go_enter Tryd.func70, Tryd.ntmps70
    go_wp2
    obtain ⟨W, hW⟩ : ∃ W, (w.alloc (.cells #[.int .u8 (k : Int), .int .u64 (n : Int), .string t, .slice A l c] 25)).alloc (.cells #[.int .u8 (k : Int), .int .u64 (n : Int), .string t, .slice A l c] 25) = W := ⟨_, rfl⟩
    have HWK : Hid (Kd W [V.mk k n t ks] (some ⟨w.heap.size + 1, 0, none⟩) 1 1) := Lib.hid (hW ▸ HK.out)
    have HWB : Hid (Below w.heap.size w W) := Lib.hid (hW ▸ HB.out)
    clear HK HB
    rw [hW]
    clear hW
    go_loopw [5, 17] (fun s i wr => ∃ (j : Nat) (A1 : Option Addr) (c1 : Nat), j ≤ 1 ∧ i = .int .i64 j ∧ s = .slice A1 j c1 ∧ Strs W.heap.size wr A1 j c1 (texts ([V.mk k n t ks].take j)) ∧ allSym ([V.mk k n t ks].take j) = true ∧ Below W.heap.size W wr) (fun _ i _ => 1 - (intOf i).toNat)
    case atStart => exact ⟨0, none, 0, Nat.zero_le _, rfl, rfl, Strs.nil _ _, rfl, Below.refl _ _⟩
    case round =>
      obtain ⟨j, A1, c1, hj, rfl, rfl, hS, hall, hb⟩ := hrel
      have HS := Lib.hid hS
      have HA := Lib.hid hall
      have HBW := Lib.hid hb
      have HL2 := HL.out
      by_cases hlt : j < 1
      · obtain ⟨bb, oo, k', n', t', ks', A', l', c', hAA, hb', hx, h0, h1, h2, h3, hk', hn', hK'⟩ := (HWK.out.call hb).at_ hlt
        obtain ⟨rfl, rfl⟩ : bb = w.heap.size + 1 ∧ oo = 0 := by
          injection hAA with e; injection e with e1 e2; exact ⟨e1.symm, e2.symm⟩
        simp only [Nat.zero_add] at h0 h1 h2 h3
        clear hAA
        have HX := Lib.hid hx
        obtain ⟨z0, z1, z2, z3, _⟩ := (Box.new wr (.int .u8 (k' : Int)) (.int .u64 (n' : Int)) (.string t') (.slice A' l' c')).all
        have hbn : Below W.heap.size W (wr.alloc (.cells #[.int .u8 (k' : Int), .int .u64 (n' : Int), .string t', .slice A' l' c'] 25)) := hb.alloc hb.size _
        have HBN := Lib.hid hbn
        have HSN := Lib.hid (World.ownsRow.alloc hS (.cells #[.int .u8 (k' : Int), .int .u64 (n' : Int), .string t', .slice A' l' c'] 25))
        by_cases h21 : k' = 21
        · subst h21
          have hs := hb.size
          have hlt9 := World.ownsRow.lt hS
          have HOB := Lib.hid hlt9
          clear hx hS hall hb hbn hlt9 hK'
          go_wp2_with (at_builtin; refine wpList_append_lies _ rfl _ _ 38 rfl W.heap.size 9 i0 _ 1 16 Tryd.underlying38 hi hz0 hz1 hz2 rfl (by omega) _ _ _ rfl (World.ownsRow.alloc HSN.out _) ⟨wr.heap.size + 1, 0, none⟩ 1 1 [.string t'] rfl rfl (news1 _ _ _ _ (by simp)) (fun u hu => (by simp at hu; rcases hu with rfl; rfl)) (by omega) (by unfold maxLen; omega) (by omega) (by simp; omega) _ rfl ?_; intro g9 cap9 w9 hown9 hgrow9 hat9 _)
          go_roundw
          case rel =>
            refine ⟨j + 1, some ⟨g9, 0, none⟩, cap9, by omega, by go_num, rfl, ?_, ?_, (HBN.out.alloc (by simp; omega) _).grown hgrow9 (by simp; omega) fun k hk => (HOB.out k hk).1⟩
            · rw [texts_snoc HX.out]
              unfold Strs
              rw [List.map_append]
              exact hown9
            · rw [allSym_snoc HX.out, HA.out]
              rfl
          case measure => simp [intOf]; omega
        · have hne21 : ((k' : Int) == 21) = false := by simp; omega
          have HN21 := Lib.hid h21
          clear h21 hx hS hall hb hbn
          go_wp2
          refine bodyPost_ret (v := .tuple #[.slice none 0 0, .bool false]) (by simp [results, Tryd.results70, go_sem]) rfl ?_
          obtain rfl : b = false := by rw [← HD.out]; exact allSym_no HX.out HN21.out
          exact ⟨_, rfl, (fun h => by cases h), HWB.out.trans (HBN.out.mono HWB.out.size)⟩
      · have hjl : j = 1 := by omega
        have HE : Hid ([V.mk k n t ks].take j = [V.mk k n t ks]) := Lib.hid (List.take_of_length_le (by have := HLU.out; omega))
        clear hS hall hb
        go_wp2
        refine bodyPost_ret (v := .tuple #[.slice A1 j c1, .bool true]) (by simp [results, Tryd.results70, go_sem]) rfl ?_
        obtain rfl : b = true := by rw [← HD.out, ← HA.out, HE.out]
        exact ⟨_, rfl, fun _ => ⟨A1, j, c1, rfl, by have := HS.out; rw [HE.out] at this; exact this.mono HWB.out.size⟩, HWB.out.trans (HBW.out.mono HWB.out.size)⟩
end Go.Proofs.YtobnbgbijdhjjaaDoor.Fl
