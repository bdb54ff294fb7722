/-
  Contracts of the document's CopyAll, Copy, Many, Desc: values in new memory. Memory that was there stays. Condition: values of bulk at most 2^30.
-/
import Derived.Test.YtobnbgbijdhjjaaGreatDoorCells
import Derived.Test.YtobnbgbijdhjjaaGreatDoorStack
import Derived.Deep.RegionWith
namespace Go.Proofs.YtobnbgbijdhjjaaGreatDoor.Val
open Go.RowKit Go.Proofs.YtobnbgbijdhjjaaGreatDoor.Utf V

/-- A slice of values in new memory is answered. -/
def GivesL (ks : List V) (w : World) (e : Ending) (w' : World) : Prop := ∃ A l c, e = .returned (.slice A l c) ∧ Nw w.heap.size w' ks A l c ∧ Below w.heap.size w w'
/-- A value with its kids in new memory is answered. -/
def GivesN (k n : Nat) (t : ByteArray) (ks : List V) (w : World) (e : Ending) (w' : World) : Prop := ∃ A l c, e = .returned (.agg #[.int .u8 k, .int .u64 n, .string t, .slice A l c]) ∧ Nw w.heap.size w' ks A l c ∧ Below w.heap.size w w'

theorem Nw.far {B : Nat} {w : World} {ks : List V} {A : Option Addr} {l c : Nat} (h : Nw B w ks A l c) {p : Addr} (hp : p.block < B) (u : Value) : Nw B (w.setCell p u) ks A l c :=
  (h.keep fun i hi => Below.heap_setCell w p u i (by have := hi.1; omega)).mono fun i hi => ⟨hi.1, by have := hi.2; simpa using this⟩
theorem Nw.far4 {B : Nat} {w : World} {ks : List V} {A : Option Addr} {l c : Nat} (h : Nw B w ks A l c) {g : Nat} (hp : g < B) (x0 x1 x2 x3 : Value) : Nw B ((((w.setCell ⟨g, 0, none⟩ x0).setCell ⟨g, 1, none⟩ x1).setCell ⟨g, 2, none⟩ x2).setCell ⟨g, 3, none⟩ x3) ks A l c :=
  (((h.far (p := ⟨g, 0, none⟩) hp _).far (p := ⟨g, 1, none⟩) hp _).far (p := ⟨g, 2, none⟩) hp _).far (p := ⟨g, 3, none⟩) hp _

theorem xcopy_of (ks : List V) (hall : ∀ (A : Option Addr) (l c : Nat) (w : World), Kd w ks A l c → Calls Tryz.prog 49 #[.slice A l c] w (GivesL ks w)) (k n : Nat) (t : ByteArray) (A : Option Addr) (l c : Nat) (w : World) (hK : Kd w ks A l c) :
    Calls Tryz.prog 51 #[.agg #[.int .u8 k, .int .u64 n, .string t, .slice A l c]] w (GivesN k n t ks w) := by
  have hb0 := (Box.new w (.int .u8 k) (.int .u64 n) (.string t) (.slice A l c)).alloc (.cells #[.int .u8 0, .int .u64 0, .string ⟨#[]⟩, .slice none 0 0] 25)
  have hb1 := Box.new2 w (.cells #[.int .u8 k, .int .u64 n, .string t, .slice A l c] 25) (.int .u8 0) (.int .u64 0) (.string ⟨#[]⟩) (.slice none 0 0)
  have hB := two_boxes w (.cells #[.int .u8 k, .int .u64 n, .string t, .slice A l c] 25) (.cells #[.int .u8 0, .int .u64 0, .string ⟨#[]⟩, .slice none 0 0] 25)
  have HALL := Lib.hid hall
  clear hall
  go_enter Tryz.func51, Tryz.ntmps51
  go_wp2_with fail
  refine (HALL.out A l c _ ((hK.alloc _).alloc _)).mono ?_
  rintro e w1 ⟨A1, l1, c1, rfl, hN, hb⟩
  obtain ⟨a0, a1, a2, a3, af⟩ := (hb0.call hb).all
  obtain ⟨d0, d1, d2, d3, df⟩ := (hb1.call hb).all
  have hB2 := below_next hB hb
  have hsz := hB.size
  simp only [World.size_alloc] at hN
  have hne : w.heap.size ≠ w.heap.size + 1 := by omega
  go_wp2
  refine bodyPost_ret (v := .agg #[.int .u8 k, .int .u64 n, .string t, .slice A1 l1 c1]) (by simp [results, Tryz.results51, go_sem, d0, d1, d2, d3]) rfl ?_
  exact ⟨A1, l1, c1, rfl, ((hN.far (p := ⟨w.heap.size, 3, none⟩) (by simp only; omega) _).far4 (g := w.heap.size + 1) (by omega) _ _ _ _).less (by omega), below_set4 (hB2.setCell (p := ⟨w.heap.size, 3, none⟩) (Nat.le_refl _) _) (by omega) _ _ _ _⟩

theorem news4 (w : World) (x y z u : Value) (e : TypeId) (H : Nat) (hH : w.heap.size = H) : ∀ j v, [x, y, z, u][j]? = some v → (w.alloc (.cells #[x, y, z, u] e)).cell? ((⟨H, 0, none⟩ : Addr).add j) = some v := by
  subst hH
  intro j v hv
  have hj : j < 4 := (List.getElem?_eq_some_iff.1 hv).1
  obtain rfl | rfl | rfl | rfl : j = 0 ∨ j = 1 ∨ j = 2 ∨ j = 3 := by omega
  all_goals rw [← hv]; simp [Addr.add]

set_option maxHeartbeats 800000 in
theorem xcopyAll_any (N : Nat) : ∀ (ks : List V) (A : Option Addr) (l c : Nat) (w : World), bulkL ks ≤ N → N ≤ 1073741824 → Kd w ks A l c → Calls Tryz.prog 49 #[.slice A l c] w (GivesL ks w) := by
  induction N using Nat.strongRecOn with
  | ind N ih =>
  intro ks A l c w hN hN2 hK
  have hl1 : l ≤ ks.length := Nat.le_of_eq hK.len
  have hl2 : ks.length ≤ l := Nat.le_of_eq hK.len.symm
  have hlb := length_bulk ks
  have IH := Lib.hid ih
  clear ih
  obtain ⟨i0, hi, hz0, hz1, hz2⟩ := info_parts infoV
  go_enter Tryz.func49, Tryz.ntmps49
  go_wp2
  go_loopw [3, 4] (fun s i wr => ∃ (j : Nat) (A1 : Option Addr) (c1 : Nat) (xs : List Value), j ≤ l ∧ i = .int .i64 j ∧ s = .slice A1 j c1 ∧ CS w.heap.size wr A1 j c1 (ks.take j) xs ∧ Below w.heap.size w wr) (fun _ i _ => l - (intOf i).toNat)
  case atStart => exact ⟨0, none, 0, [], Nat.zero_le _, rfl, rfl, CS.nil _ _, Below.refl _ _⟩
  case round =>
    obtain ⟨j, A1, c1, xs, hj, rfl, rfl, hC, hb⟩ := hrel
    by_cases hlt : j < l
    · obtain ⟨b, o, k', n', t', ks', A', l', c', rfl, hb', hx, h0, h1, h2, h3, hk', hn', hK'⟩ := (hK.call hb).at_ hlt
      have hbk := at_bulk hx
      simp only [bulk] at hbk
      have HT := Lib.hid (take_snoc hx)
      have hs := hb.size
      clear hx
      go_wp2_with fail
      refine (xcopy_of ks' (fun A l c w hK => IH.out (bulkL ks') (by omega) ks' A l c w (Nat.le_refl _) (by omega) hK) k' n' t' A' l' c' wr hK').mono ?_
      rintro e w2 ⟨A2, l2, c2, rfl, hN2, hb2⟩
      have hC2 := hC.call hb2
      have hown2 := hC2.own
      have hs2 := hb2.size
      have hb3 := below_next hb hb2
      have hlt2 := hC.own.lt
      have HOB := Lib.hid hlt2
      have HC := Lib.hid hC2
      clear hC hC2 hlt2
      go_wp2_with (at_builtin; refine wpList_append_lies _ rfl _ _ 23 rfl w.heap.size 25 i0 _ 4 56 Tryz.underlying23 hi hz0 hz1 hz2 rfl (by omega) _ _ _ rfl (hown2.alloc _) ⟨w2.heap.size, 0, none⟩ 1 1 [.int .u8 k', .int .u64 n', .string t', .slice A2 l2 c2] rfl rfl (news4 w2 _ _ _ _ _ _ rfl) (fun u hu => (by simp at hu; rcases hu with rfl | rfl | rfl | rfl <;> rfl)) (by omega) (by unfold maxLen; omega) (by omega) (by simp; omega) _ rfl ?_; intro g9 cap9 w9 hown9 hgrow9 hat9 _)
      go_roundw
      case rel =>
        refine ⟨j + 1, some ⟨g9, 0, none⟩, cap9, _, by omega, by go_num, rfl, ((HC.out.push hk' hn' (hN2.mono fun i hi => ⟨by have := hi.1; omega, hi.2, fun e => ?_⟩) _ rfl hown9 hgrow9 ?_).cast HT.out.symm), (hb3.alloc (by omega) _).grown hgrow9 (by simp; omega) fun k hk => (HOB.out k hk).1⟩
        · have := (HOB.out i e).2
          have := hi.1
          omega
        · rcases hat9 with h | h
          · exact .inl h
          · right; simp at h; omega
      case measure => simp [intOf]; omega
    · have HE : Hid (ks.take j = ks) := Lib.hid (List.take_of_length_le (by omega))
      have hjl : j = l := by omega
      have HC := Lib.hid hC
      clear hC
      go_wp2
      go_ret
      exact ⟨A1, j, c1, rfl, (HC.out.cast HE.out).nw, hb⟩
theorem xcopy_any (k n : Nat) (t : ByteArray) (ks : List V) (A : Option Addr) (l c : Nat) (w : World) (hN : bulkL ks ≤ 1073741824) (hK : Kd w ks A l c) :
    Calls Tryz.prog 51 #[.agg #[.int .u8 k, .int .u64 n, .string t, .slice A l c]] w (GivesN k n t ks w) :=
  xcopy_of ks (fun A l c w hK => xcopyAll_any _ ks A l c w (Nat.le_refl _) hN hK) k n t A l c w hK
end Go.Proofs.YtobnbgbijdhjjaaGreatDoor.Val
