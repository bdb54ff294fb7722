/-
  Contract of Large: have values more parts and text than so? Memory that was there stays. Condition: values of bulk at most 2^40.
  Contract of the laws' anchor 'works' of stage 5: it answers true, and memory that was there stays. Condition: the table of package utf.
  Contract of the laws' begins; what two values' boxes hold while the laws run. No condition.
-/
import Derived.Test.YtikjnbognjicdaaDoorStack
import Derived.Test.YtikjnbognjicdaaDoorEvl
import Derived.Test.YtikjnbognjicdaaDoorEq
import Derived.Deep.RegionWith
namespace Go.Proofs.YtikjnbognjicdaaDoor.Val
open Go.RowKit Go.Proofs.YtikjnbognjicdaaDoor.Utf V

def big : V → Nat
  | .mk _ _ t ks => itemsL ks + 1 + t.size / 8
def bigL : List V → Nat
  | [] => 0
  | v :: r => big v + bigL r
theorem big_le (v : V) : big v ≤ bulk v := by
  cases v with
  | mk k n t ks =>
    have := itemsL_le ks
    simp only [big, bulk]
    omega
theorem bigL_le : ∀ l : List V, bigL l ≤ bulkL l
  | [] => by simp [bigL, bulkL]
  | v :: r => by have := big_le v; have := bigL_le r; simp only [bigL, bulkL]; omega
theorem bigL_append (a b : List V) : bigL (a ++ b) = bigL a + bigL b := by
  induction a with
  | nil => simp [bigL]
  | cons x a ih => simp only [List.cons_append, bigL, ih]; omega
theorem bigL_take {l : List V} {i : Nat} {v : V} (h : l[i]? = some v) : bigL (l.take (i + 1)) = bigL (l.take i) + big v := by
  rw [take_snoc h, bigL_append]; simp [bigL]
theorem bigL_take_le (l : List V) (i : Nat) : bigL (l.take i) ≤ bigL l := by
  have h := bigL_append (l.take i) (l.drop i)
  rw [List.take_append_drop] at h
  omega

set_option maxRecDepth 100000 in
set_option maxHeartbeats 800000 in
theorem large_any (ks : List V) (A : Option Addr) (l c : Nat) (w : World) (hN : bulkL ks ≤ 1099511627776) (hK : Kd w ks A l c) :
    Calls Tryd.prog 9 #[.slice A l c] w (GivesB (decide (8192 < bigL ks)) w) := by
  have hl1 : l ≤ ks.length := Nat.le_of_eq hK.len
  have hl2 : ks.length ≤ l := Nat.le_of_eq hK.len.symm
  have hlb := length_bulk ks
  have hbb := bigL_le ks
  go_enter Tryd.func9, Tryd.ntmps9
  go_wp2
  go_loopw [3, 4] (fun m i wr => ∃ j : Nat, j ≤ l ∧ i = .int .i64 j ∧ m = .int .i64 ((bigL (ks.take j) : Nat) : Int) ∧ Below w.heap.size w wr) (fun _ i _ => l - (intOf i).toNat)
  case atStart => exact ⟨0, Nat.zero_le _, rfl, rfl, Below.refl _ _⟩
  case round =>
    obtain ⟨j, hj, rfl, rfl, hb⟩ := hrel
    by_cases hlt : j < l
    · have hK2 := hK.call hb
      obtain ⟨b, o, k', n', t', ks', A', l', c', rfl, hb', hx, h0, h1, h2, h3, _, _, hK'⟩ := hK2.at_ hlt
      have hbk := at_bulk hx
      simp only [bulk] at hbk
      have HT := Lib.hid (bigL_take hx)
      have htl := bigL_take_le ks (j + 1)
      have htl2 : bigL (ks.take j) + (itemsL ks' + 1 + t'.size / 8) ≤ bigL ks := by have := HT.out; simp only [big] at this; omega
      have HBK : Hid (bulkL ks' ≤ 1099511627776) := Lib.hid (by omega)
      have HKD : Hid (Kd wr.drew ks' A' l' c') := Lib.hid (hK'.drew)
      have HB := Lib.hid hb
      clear hx hK2 hK' hb
      go_wp2_with fail
      go_region_with ((go_at_call 24; refine (xitems_any (bulkL ks') k' n' t' ks' A' l' c' wr.drew (Nat.le_refl _) (by exact HBK.out) (by exact HKD.out)).mono ?_; rintro e w2 ⟨rfl, hb2⟩; have h2' := (hb2.cell (p := ⟨b, o + j * 4 + 2, none⟩) hb').trans h2; have HB2 := Lib.hid hb2; clear hb2))
      all_goals (go_wp2; go_roundw; (case rel => exact ⟨j + 1, by omega, by go_num, by rw [HT.out]; simp only [big]; go_num, below_next HB.out ((Below.refl _ wr).drew.trans HB2.out)⟩); (case measure => (simp [intOf]; omega)))
    · have HE : Hid (ks.take j = ks) := Lib.hid (List.take_of_length_le (by omega))
      go_wp2
      go_ret
      refine ⟨?_, hb⟩
      rw [HE.out]
      go_num
end Go.Proofs.YtikjnbognjicdaaDoor.Val

namespace Go.Proofs.YtikjnbognjicdaaDoor.Enc
set_option maxRecDepth 100000
open Go.RowKit Go.Proofs.YtikjnbognjicdaaDoor.Utf Go.Proofs.YtikjnbognjicdaaDoor.Val V

def vyes : V := .mk 2 1 ⟨#[]⟩ []
def vsev : V := .mk 3 7 ⟨#[]⟩ []
def vlist : V := .mk 22 0 ⟨#[]⟩ [vyes, vsev]
def vneg : V := .mk 9 18446744073709551615 ⟨#[]⟩ []
theorem ok_list : okB vlist = true := by
  simp [okB, vlist, vyes, vsev, items, itemsL, depth, depthL, mayB, mayL, aloneOk, emp0, kidsOk, numB]
theorem ok_neg : okB vneg = true := by
  simp [okB, vneg, items, itemsL, depth, depthL, mayB, mayL, aloneOk, emp0, kidsOk, numB, sgB]
theorem ok_zero : okB (.mk 0 0 ⟨#[]⟩ []) = false := by
  simp [okB, items, itemsL, depth, depthL, mayB, mayL, aloneOk, kidsOk]
theorem lay_list : lay (plan vlist) = [192, 4, 2, 65, 80, 7] := by decide +kernel
theorem lay_neg : lay (plan vneg) = [84, 255] := by decide +kernel
theorem bool_1 (w : World) : Calls Tryd.prog 25 #[.bool true] w (Val.GivesV 2 1 ⟨#[]⟩ w) := bool_any true w
theorem num_7 (w : World) : Calls Tryd.prog 26 #[.int .u8 3, .int .u64 7] w (fun e w' => e = .returned (.agg #[.int .u8 3, .int .u64 7, .string ⟨#[]⟩, .slice none 0 0]) ∧ Below w.heap.size w w') := number_any 3 7 w
theorem num_neg (w : World) : Calls Tryd.prog 26 #[.int .u8 9, .int .u64 18446744073709551615] w (fun e w' => e = .returned (.agg #[.int .u8 9, .int .u64 18446744073709551615, .string ⟨#[]⟩, .slice none 0 0]) ∧ Below w.heap.size w w') := number_any 9 18446744073709551615 w
theorem two_kd (w : World) : Kd (w.alloc (.cells #[.int .u8 2, .int .u64 1, .string ⟨#[]⟩, .slice none 0 0, .int .u8 3, .int .u64 7, .string ⟨#[]⟩, .slice none 0 0] 25)) [vyes, vsev] (some ⟨w.heap.size, 0, none⟩) 2 2 :=
  kids_two (k := 2) (n := 1) (k' := 3) (n' := 7) (by omega) (by omega) (by omega) (by omega) (Kd.none_ _ _ _) (Kd.none_ _ _ _)
theorem many_l (A : Option Addr) (w : World) (hK : Kd w [vyes, vsev] A 2 2) : Calls Tryd.prog 21 #[.int .u8 22, .slice A 2 2] w (GivesN 22 0 ⟨#[]⟩ [vyes, vsev] w) := vmany_any 22 [vyes, vsev] A 2 2 w (by decide) (by omega) hK
theorem enc_l (A : Option Addr) (l c : Nat) (w : World) (hK : Kd w [vyes, vsev] A l c) (ht : Tab w) : Calls Tryd.prog 12 #[.agg #[.int .u8 22, .int .u64 0, .string ⟨#[]⟩, .slice A l c]] w (GivesV vlist w) := encv_yes 22 0 ⟨#[]⟩ [vyes, vsev] A l c w ok_list (by decide) (by omega) (by omega) hK ht
theorem enc_n (w : World) (ht : Tab w) : Calls Tryd.prog 12 #[.agg #[.int .u8 9, .int .u64 18446744073709551615, .string ⟨#[]⟩, .slice none 0 0]] w (GivesV vneg w) := encv_yes 9 18446744073709551615 ⟨#[]⟩ [] none 0 0 w ok_neg (by decide) (by omega) (by omega) (Kd.none_ _ _ _) ht
theorem enc_z (w : World) (ht : Tab w) : Calls Tryd.prog 12 #[.agg #[.int .u8 0, .int .u64 0, .string ⟨#[]⟩, .slice none 0 0]] w (GivesNone w) := encv_no 0 0 ⟨#[]⟩ [] none 0 0 w ok_zero (by decide) (by omega) (Kd.none_ _ _ _) ht
theorem rd_six (w : World) : Rd .u8 256 (w.alloc (.cells #[.int .u8 192, .int .u8 4, .int .u8 2, .int .u8 65, .int .u8 80, .int .u8 7] 5)) (w.heap.size + 1) (some ⟨w.heap.size, 0, none⟩) 6 [192, 4, 2, 65, 80, 7] := rd_lit8 w [192, 4, 2, 65, 80, 7] 6 rfl (by decide)
theorem eq_six (A : Option Addr) (c : Nat) (w : World) (hr : Rd .u8 256 w w.heap.size A 6 [192, 4, 2, 65, 80, 7]) : Calls Tryd.prog 14 #[.slice A 6 c, .slice (some ⟨w.heap.size, 0, none⟩) 6 6] (w.alloc (.cells #[.int .u8 192, .int .u8 4, .int .u8 2, .int .u8 65, .int .u8 80, .int .u8 7] 5)) fun e w' => e = .returned (.bool true) ∧ (w.alloc (.cells #[.int .u8 192, .int .u8 4, .int .u8 2, .int .u8 65, .int .u8 80, .int .u8 7] 5)) = w' :=
  eqbytes_same _ _ _ _ 6 c 6 _ _ (hr.alloc (Nat.le_refl _) _) (rd_six w)
theorem rd_two (w : World) : Rd .u8 256 (w.alloc (.cells #[.int .u8 84, .int .u8 255] 5)) (w.heap.size + 1) (some ⟨w.heap.size, 0, none⟩) 2 [84, 255] := rd_lit8 w [84, 255] 2 rfl (by decide)

theorem eq_two (A : Option Addr) (c : Nat) (w : World) (g : Nat) (hg : w.heap.size = g) (hr : Rd .u8 256 w w.heap.size A 2 [84, 255]) : Calls Tryd.prog 14 #[.slice A 2 c, .slice (some ⟨g, 0, none⟩) 2 2] (w.alloc (.cells #[.int .u8 84, .int .u8 255] 5)) fun e w' => e = .returned (.bool true) ∧ (w.alloc (.cells #[.int .u8 84, .int .u8 255] 5)) = w' :=
  hg ▸ eqbytes_same _ _ _ _ 2 c 2 _ _ (hr.alloc (Nat.le_refl _) _) (rd_two w)
set_option maxHeartbeats 1000000 in
theorem works_any (w : World) (ht : Tab w) : Calls Tryd.prog 10 #[] w (Val.GivesB true w) := by
  go_enter Tryd.func10, Tryd.ntmps10
  go_wp2_with fail
  refine (bool_1 w).mono ?_
  rintro e w1 ⟨rfl, hb1⟩
  go_wp2_with fail
  refine (num_7 w1).mono ?_
  rintro e w2 ⟨rfl, hb2⟩
  have hB2 := below_next hb1 hb2
  go_wp2_with fail
  refine (many_l _ _ (two_kd w2)).mono ?_
  rintro e w3 ⟨A3, l3, c3, rfl, hN3, hb3⟩
  have hB3 := below_next (hB2.alloc hB2.size (.cells #[.int .u8 2, .int .u64 1, .string ⟨#[]⟩, .slice none 0 0, .int .u8 3, .int .u64 7, .string ⟨#[]⟩, .slice none 0 0] 25)) hb3
  go_wp2_with fail
  refine (enc_l A3 l3 c3 w3 hN3.kd (ht.call hB3)).mono ?_
  rintro e w4 ⟨A4, m4, c4, rfl, ho4, hb4⟩
  rw [lay_list] at ho4
  have hB4 := below_next hB3 hb4
  obtain rfl : m4 = 6 := ho4.len.symm
  go_wp2_with fail
  refine (num_neg w4).mono ?_
  rintro e w5 ⟨rfl, hb5⟩
  have hB5 := below_next hB4 hb5
  go_wp2_with fail
  refine (enc_n w5 (ht.call hB5)).mono ?_
  rintro e w6 ⟨A6, m6, c6, rfl, ho6, hb6⟩
  rw [lay_neg] at ho6
  have hB6 := below_next hB5 hb6
  obtain rfl : m6 = 2 := ho6.len.symm
  go_wp2_with fail
  refine (enc_z w6 (ht.call hB6)).mono ?_
  rintro e w7 ⟨rfl, hb7⟩
  have hB7 := below_next hB6 hb7
  have hr4 := (((ho4.below hb5).below hb6).below hb7).rd
  have hr6 := (ho6.below hb7).rd
  go_wp2_with fail
  with_reducible refine (eq_six A4 c4 w7 hr4).mono ?_
  rintro e w8 ⟨rfl, rfl⟩
  have hB8 := hB7.alloc hB7.size (.cells #[.int .u8 192, .int .u8 4, .int .u8 2, .int .u8 65, .int .u8 80, .int .u8 7] 5)
  have hr6' := hr6.call ((Below.refl _ _).alloc (Nat.le_refl _) (.cells #[.int .u8 192, .int .u8 4, .int .u8 2, .int .u8 65, .int .u8 80, .int .u8 7] 5))
  go_wp2_with fail
  with_reducible refine (eq_two A6 c6 (w7.alloc (.cells #[.int .u8 192, .int .u8 4, .int .u8 2, .int .u8 65, .int .u8 80, .int .u8 7] 5)) (w7.heap.size + 1) (World.size_alloc _ _) hr6').mono ?_
  rintro e w9 ⟨rfl, rfl⟩
  have hB9 := hB8.alloc hB8.size (.cells #[.int .u8 84, .int .u8 255] 5)
  clear hr6' hr6 hr4 ho4 ho6 hB7 hB6 hB5 hB4 hB3 hB2 hN3 hb1 hb2 hb3 hb4 hb5 hb6 hb7 hB8
  go_wp2
  go_ret
  exact ⟨rfl, hB9⟩
end Go.Proofs.YtikjnbognjicdaaDoor.Enc

namespace Go.Proofs.YtikjnbognjicdaaDoor.Enc
set_option maxRecDepth 100000
open Go.RowKit Go.Proofs.YtikjnbognjicdaaDoor.Utf Go.Proofs.YtikjnbognjicdaaDoor.Val V

theorem lay_pos (v : V) (h : mayB v = true) : 0 < (lay (plan v)).length := by
  obtain ⟨k, n, t, ks⟩ := v
  by_cases hk : k = 25
  · subst hk
    obtain ⟨x, y, rfl, _, _, hy⟩ := may_desc h
    rw [lay_desc _ _ x y hy]
    simp
  · rw [lay_core hk]
    simp
/-- Any answer of encode.Value. -/
theorem encv_some (k n : Nat) (t : ByteArray) (ks : List V) (A : Option Addr) (l c : Nat) (w : World) (hb : bulk (.mk k n t ks) ≤ 33554432) (hk : k < 256) (hn : n < 18446744073709551616) (hK : Kd w ks A l c) (hTab : Tab w) :
    Calls Tryd.prog 12 #[.agg #[.int .u8 (k : Int), .int .u64 (n : Int), .string t, .slice A l c]] w fun e w' => ∃ A' m c' x, e = .returned (.tuple #[.slice A' m c', .int .i64 x]) ∧ Below w.heap.size w w' := by
  cases h : okB (.mk k n t ks) with
  | false => exact (encv_no k n t ks A l c w h hb hn hK hTab).mono fun e w' ⟨he, hb⟩ => ⟨_, _, _, _, he, hb⟩
  | true => exact (encv_yes k n t ks A l c w h hb hk hn hK hTab).mono fun e w' ⟨_, _, _, he, _, hb⟩ => ⟨_, _, _, _, he, hb⟩

/-- A value that a law reads, and the box that it lies in. -/
structure St1 (w0 w1 : World) (g k n : Nat) (t : ByteArray) (ks : List V) (A : Option Addr) (l c : Nat) : Prop where
  box : Box w1 g (.int .u8 (k : Int)) (.int .u64 (n : Int)) (.string t) (.slice A l c)
  kd : Kd w1 ks A l c
  tab : Tab w1
  low : Below w0.heap.size w0 w1
section
variable {w0 w1 w2 : World} {g k n : Nat} {t : ByteArray} {ks : List V} {A : Option Addr} {l c : Nat}
theorem St1.call (h : St1 w0 w1 g k n t ks A l c) (hb : Below w1.heap.size w1 w2) : St1 w0 w2 g k n t ks A l c := ⟨h.box.call hb, h.kd.call hb, h.tab.call hb, below_next h.low hb⟩
theorem St1.alloc (h : St1 w0 w1 g k n t ks A l c) (o : Obj) : St1 w0 (w1.alloc o) g k n t ks A l c := h.call ((Below.refl _ _).alloc (Nat.le_refl _) o)
end
/-- Two. -/
structure St2 (w0 w1 : World) (g k n : Nat) (t : ByteArray) (ks : List V) (A : Option Addr) (l c : Nat) (g' k' n' : Nat) (t' : ByteArray) (ks' : List V) (A' : Option Addr) (l' c' : Nat) : Prop where
  one : St1 w0 w1 g k n t ks A l c
  two : St1 w0 w1 g' k' n' t' ks' A' l' c'
section
variable {w0 w1 w2 : World} {g k n : Nat} {t : ByteArray} {ks : List V} {A : Option Addr} {l c : Nat} {g' k' n' : Nat} {t' : ByteArray} {ks' : List V} {A' : Option Addr} {l' c' : Nat}
theorem St2.call (h : St2 w0 w1 g k n t ks A l c g' k' n' t' ks' A' l' c') (hb : Below w1.heap.size w1 w2) : St2 w0 w2 g k n t ks A l c g' k' n' t' ks' A' l' c' := ⟨h.one.call hb, h.two.call hb⟩
theorem St2.all (h : St2 w0 w1 g k n t ks A l c g' k' n' t' ks' A' l' c') : w1.cell? ⟨g, 0, none⟩ = some (.int .u8 (k : Int)) ∧ w1.cell? ⟨g, 1, none⟩ = some (.int .u64 (n : Int)) ∧ w1.cell? ⟨g, 2, none⟩ = some (.string t) ∧ w1.cell? ⟨g, 3, none⟩ = some (.slice A l c) ∧
    w1.cell? ⟨g', 0, none⟩ = some (.int .u8 (k' : Int)) ∧ w1.cell? ⟨g', 1, none⟩ = some (.int .u64 (n' : Int)) ∧ w1.cell? ⟨g', 2, none⟩ = some (.string t') ∧ w1.cell? ⟨g', 3, none⟩ = some (.slice A' l' c') := by
  obtain ⟨a0, a1, a2, a3, _⟩ := h.one.box.all
  obtain ⟨b0, b1, b2, b3, _⟩ := h.two.box.all
  exact ⟨a0, a1, a2, a3, b0, b1, b2, b3⟩
end
end Go.Proofs.YtikjnbognjicdaaDoor.Enc
