/-
  The walk of the statement FieldsPuts: Put answers the list of any values, in new memory. Conditions: the table utf.shapes lies as the program's text lays it; values of bulk at most 2^20.
-/
import Derived.Test.YtnojhgpaplecgaaDoorFxp
import Derived.Test.YtnojhgpaplecgaaDoorFsa
import Derived.Test.YtnojhgpaplecgaaDoorLrg
import Derived.Test.YtnojhgpaplecgaaDoorTurnp
namespace Go.Proofs.YtnojhgpaplecgaaDoor.fieldsPuts
set_option maxRecDepth 100000
open Go.RowKit Go.Proofs.YtnojhgpaplecgaaDoor.Utf Go.Proofs.YtnojhgpaplecgaaDoor.Val Go.Proofs.YtnojhgpaplecgaaDoor.Fl Go.Proofs.YtnojhgpaplecgaaDoor.Tn V

theorem same_25 {ks : List V} {A A' : Option Addr} {l l' c c' : Nat} {w : World} (hN : bulkL ks ≤ 1073741824) (h : Kd w ks A l c) (h' : Kd w ks A' l' c') :
    Calls Tryd.prog 18 #[.agg #[.int .u8 25, .int .u64 0, .string ⟨#[]⟩, .slice A l c], .agg #[.int .u8 25, .int .u64 0, .string ⟨#[]⟩, .slice A' l' c']] w (GivesB true w) := xsame_eq (k := 25) (n := 0) hN (by omega) (by omega) h h'
theorem same_22 {ks : List V} {A A' : Option Addr} {l l' c c' : Nat} {w : World} (hN : bulkL ks ≤ 1073741824) (h : Kd w ks A l c) (h' : Kd w ks A' l' c') :
    Calls Tryd.prog 18 #[.agg #[.int .u8 22, .int .u64 0, .string ⟨#[]⟩, .slice A l c], .agg #[.int .u8 22, .int .u64 0, .string ⟨#[]⟩, .slice A' l' c']] w (GivesB true w) := xsame_eq (k := 22) (n := 0) hN (by omega) (by omega) h h'
/-- What is kept while the copy's numbers are changed. -/
structure SQ (w wi : World) (B E : Nat) (ks : List V) (g6 g7 : Nat) (A4 : Option Addr) (l4 c4 : Nat) (A5 : Option Addr) (l5 c5 N : Nat) (A3 : Option Addr) (l3 c3 : Nat) : Prop where
  low : Below w.heap.size w wi
  hB : w.heap.size ≤ B
  b6 : Box wi g6 (.int .u8 25) (.int .u64 0) (.string ⟨#[]⟩) (.slice A4 l4 c4)
  b7 : Box wi g7 (.int .u8 25) (.int .u64 0) (.string ⟨#[]⟩) (.slice A5 l5 c5)
  n6 : E ≤ g6
  n7 : E ≤ g7
  k4 : Go.Proofs.YtnojhgpaplecgaaDoor.Val.Kids false wi (fun i => E ≤ i ∧ i < wi.heap.size) ks A4 l4 c4
  k5 : Go.Proofs.YtnojhgpaplecgaaDoor.Val.Kids false wi (fun i => E ≤ i ∧ i < wi.heap.size) ks A5 l5 c5
  sh : ShR N wi (fun i => B ≤ i ∧ i < E) A3 l3 c3
section
variable {w wi w' : World} {B E : Nat} {ks : List V} {g6 g7 : Nat} {A4 : Option Addr} {l4 c4 : Nat} {A5 : Option Addr} {l5 c5 N : Nat} {A3 : Option Addr} {l3 c3 : Nat}
theorem SQ.num (h : SQ w wi B E ks g6 g7 A4 l4 c4 A5 l5 c5 N A3 l3 c3) (hy : Numy (fun i => B ≤ i ∧ i < E) wi w') : SQ w w' B E ks g6 g7 A4 l4 c4 A5 l5 c5 N A3 l3 c3 := by
  have hB := h.hB
  have hk := hy.1.2.2.2.2
  have hs := hy.1.2.2.2.1
  have h6 := h.n6
  have h7 := h.n7
  exact ⟨h.low.trans (hy.1.below fun i hi hp => by omega), hB, (hk g6 (by omega)).trans h.b6, (hk g7 (by omega)).trans h.b7, h6, h7,
    (h.k4.keep fun i hi => hk i (by omega)).mono fun i hi => ⟨hi.1, Nat.lt_of_lt_of_le hi.2 hs⟩, (h.k5.keep fun i hi => hk i (by omega)).mono fun i hi => ⟨hi.1, Nat.lt_of_lt_of_le hi.2 hs⟩, h.sh.num hy⟩
theorem SQ.drewN (h : SQ w wi B E ks g6 g7 A4 l4 c4 A5 l5 c5 N A3 l3 c3) (n : Nat) : SQ w (wi.drewN n) B E ks g6 g7 A4 l4 c4 A5 l5 c5 N A3 l3 c3 := ⟨below_drewN h.low n, h.hB, h.b6, h.b7, h.n6, h.n7, h.k4.keep fun _ _ => rfl, h.k5.keep fun _ _ => rfl, h.sh.num ⟨⟨rfl, rfl, rfl, Nat.le_refl _, fun _ _ => rfl⟩, fun _ _ _ h _ => h, fun _ _ n h hn => ⟨n, hn, h⟩, fun _ C h => ⟨C, h⟩⟩⟩
theorem SQ.kd4 (h : SQ w wi B E ks g6 g7 A4 l4 c4 A5 l5 c5 N A3 l3 c3) : Kd wi ks A4 l4 c4 := h.k4.mono fun _ hi => hi.2
theorem SQ.kd5 (h : SQ w wi B E ks g6 g7 A4 l4 c4 A5 l5 c5 N A3 l3 c3) : Kd wi ks A5 l5 c5 := h.k5.mono fun _ hi => hi.2
end
theorem numy_drew (P : Nat → Prop) (w : World) : Numy P w w.drew := ⟨⟨rfl, rfl, rfl, Nat.le_refl _, fun _ _ => rfl⟩, fun _ _ _ h _ => h, fun _ _ n h hn => ⟨n, hn, h⟩, fun _ C h => ⟨C, h⟩⟩
theorem wrap_succ (n : Nat) : ∃ m : Nat, IntKind.u64.wrap ((n : Int) + 1) = m ∧ m < 18446744073709551616 := by
  refine ⟨(n + 1) % 18446744073709551616, ?_, by omega⟩
  simp only [IntKind.wrap, IntKind.bits, IntKind.signed, Bool.false_and]
  simp

set_option maxHeartbeats 4000000 in
theorem walk (code : Nat) (ls : List V) (A : Option Addr) (l c : Nat) (w : World) (ht : Tab w) (hcode : code < 18446744073709551616) (hN : bulkL ls ≤ 1048576) (hK : Kd w ls A l c) :
    Calls Tryd.prog 4 #[.int .u64 (code : Int), .slice A l c] w (GivesB true w) := by
  obtain ⟨p, hp⟩ : ∃ p, decide (8192 < bigL ls) = p := ⟨_, rfl⟩
  have hLL := large_any ls A l c w (by omega) hK
  rw [hp] at hLL
  have HLL := Lib.hid hLL
  have HT := Lib.hid ht
  have HN := Lib.hid hN
  have HC := Lib.hid hcode
  have HK := Lib.hid hK
  clear hLL ht hN hcode hK hp
  go_enter Tryd.func4, Tryd.ntmps4
  go_wp2_with fail
  refine HLL.out.mono ?_
  rintro e w1 ⟨rfl, hb1⟩
  have HB1 := Lib.hid hb1
  clear hb1 HLL
  cases p with
  | true =>
    go_wp2_with fail
    refine (works7_any _ (HT.out.call HB1.out)).mono ?_
    rintro e w3 ⟨rfl, hb3⟩
    go_wp2_with fail
    go_ret
    exact ⟨rfl, below_next HB1.out hb3⟩
  | false =>
  go_wp2_with fail
  refine (xcopyAll_any _ ls A l c w1 (Nat.le_refl _) (by have := HN.out; omega) (HK.out.call HB1.out)).mono ?_
  rintro e w2 ⟨A3, l3, c3, rfl, hN3, hb2⟩
  have HB2 := Lib.hid (below_next HB1.out hb2)
  have HSZ := Lib.hid hb2.size
  have HN3 := Lib.hid hN3
  clear hb2 hN3
  go_wp2_with fail
  refine (put_any code ls A3 l3 c3 w2 (by have := HN.out; omega) HC.out HN3.out.kd).mono ?_
  rintro e w3 ⟨A4, l4, c4, rfl, hN4, hb3⟩
  have hbx := Box.new w3 (.int .u8 25) (.int .u64 0) (.string ⟨#[]⟩) (.slice A4 l4 c4)
  have hba : Below w3.heap.size w3 (w3.alloc (.cells #[.int .u8 25, .int .u64 0, .string ⟨#[]⟩, .slice A4 l4 c4] 25)) := (Below.refl _ _).alloc (Nat.le_refl _) _
  have HBX := Lib.hid hbx
  have HN4 := Lib.hid (hN4.call hba)
  have HB3 := Lib.hid (below_next hb3 hba)
  have HG6 := Lib.hid hb3.size
  clear hb3 hba hbx hN4
  go_wp2_with fail
  refine (xput_any code ls A l c _ (by have := HN.out; omega) HC.out (HK.out.call (below_next HB2.out HB3.out))).mono ?_
  rintro e w5 ⟨A5, l5, c5, rfl, hN5, hb5⟩
  have hbx := Box.new w5 (.int .u8 25) (.int .u64 0) (.string ⟨#[]⟩) (.slice A5 l5 c5)
  have hba : Below w5.heap.size w5 (w5.alloc (.cells #[.int .u8 25, .int .u64 0, .string ⟨#[]⟩, .slice A5 l5 c5] 25)) := (Below.refl _ _).alloc (Nat.le_refl _) _
  have HBX7 := Lib.hid hbx
  have HB5 := Lib.hid (below_next (below_next HB3.out hb5) hba)
  have HBX6 := Lib.hid ((HBX.out.call hb5).call hba)
  have HN45 := Lib.hid ((HN4.out.call hb5).call hba)
  have HN5 := Lib.hid ((hN5.less (B' := w2.heap.size) HB3.out.size).call hba)
  have HG7 := Lib.hid (Nat.le_trans HB3.out.size hb5.size)
  have HBP := Lib.hid (show bulkL (putL code (trim ls)) ≤ 1073741824 by have := bulk_put code ls; have := HN.out; omega)
  obtain ⟨x0, x1, x2, x3, _⟩ := HBX6.out.all
  obtain ⟨y0, y1, y2, y3, _⟩ := HBX7.out.all
  clear hb5 hba hbx hN5 HBX HN4
  go_wp2_with fail
  refine (same_25 HBP.out HN45.out.kd HN5.out.kd).mono ?_
  rintro e w6 ⟨rfl, hb6⟩
  have HB6 := Lib.hid (below_next HB5.out hb6)
  have HBX66 := Lib.hid (HBX6.out.call hb6)
  have HBX76 := Lib.hid (HBX7.out.call hb6)
  have HN46 := Lib.hid (HN45.out.call hb6)
  have HN56 := Lib.hid (HN5.out.call hb6)
  clear hb6 x0 x1 x2 x3 y0 y1 y2 y3 HB5 HBX6 HBX7 HN45 HN5
  go_wp2_with fail
  refine (xmany22 ls A3 l3 c3 w6 (by have := HN.out; omega) (HN3.out.kd.call HB6.out)).mono ?_
  rintro e w7 ⟨A7, l7, c7, rfl, hN7, hb7⟩
  have HN7 := Lib.hid hN7
  have HB7 := Lib.hid hb7
  clear hN7 hb7
  go_wp2_with fail
  refine (xmany22 ls A l c w7 (by have := HN.out; omega) (HK.out.call (below_next HB2.out (below_next HB6.out HB7.out)))).mono ?_
  rintro e w8 ⟨A8, l8, c8, rfl, hN8, hb8⟩
  have HN8 := Lib.hid hN8
  have HN78 := Lib.hid (HN7.out.call hb8)
  have HB8 := Lib.hid (below_next HB7.out hb8)
  clear hN8 hb8
  go_wp2_with fail
  refine (same_22 (by have := HN.out; omega) HN78.out.kd HN8.out.kd).mono ?_
  rintro e w9 ⟨rfl, hb9⟩
  have HB9 := Lib.hid (below_next HB8.out hb9)
  have HS9 : Hid (SQ w w9 w1.heap.size w2.heap.size (putL code (trim ls)) w3.heap.size w5.heap.size A4 l4 c4 A5 l5 c5 (depthL ls) A3 l3 c3) := Lib.hid
    ⟨below_next HB2.out (below_next HB6.out HB9.out), HB1.out.size, HBX66.out.call HB9.out, HBX76.out.call HB9.out, HG6.out, HG7.out, ((HN46.out.call HB9.out).weak.mono fun i hi => hi), ((HN56.out.call HB9.out).weak.mono fun i hi => hi),
      shr_kids ((Kids.keep HN3.out fun i hi => (below_next HB6.out HB9.out).block i hi.2)) (by have := HN.out; omega)⟩
  have HL3 := Lib.hid HS9.out.sh.1
  clear hb9
  go_wp2
  go_loopw [8] (fun i wr => ∃ j : Nat, j ≤ l3 ∧ i = .int .i64 j ∧ SQ w wr w1.heap.size w2.heap.size (putL code (trim ls)) w3.heap.size w5.heap.size A4 l4 c4 A5 l5 c5 (depthL ls) A3 l3 c3) (fun i _ => l3 - (intOf i).toNat)
  case atStart => exact ⟨0, Nat.zero_le _, rfl, HS9.out⟩
  case round =>
    obtain ⟨j, hj, rfl, hS⟩ := hrel
    have HS := Lib.hid hS
    have hL3 := HL3.out
    by_cases hlt : j < l3
    · obtain ⟨b', o', hA3, hb', ⟨C, hC⟩, hk⟩ := hS.sh.2.2 (by omega)
      obtain ⟨N, hdN⟩ : ∃ N, depthL ls = N := ⟨_, rfl⟩
      rw [hdN] at hk
      cases N with
      | zero => exact (hk j hlt).elim
      | succ N =>
        obtain ⟨k, n, t, A', l', c', h0, h1, h2, h3, hn, hl', hc', hr⟩ := hk j hlt
        obtain ⟨m, hm, hm2⟩ := wrap_succ n
        subst hA3
        have hfz : ∀ q, wr.frozen? ⟨b', q, none⟩ = false := fun q => by simp [World.frozen?, hC]
        have hy1 := Numy.set (P := fun i => w1.heap.size ≤ i ∧ i < w2.heap.size) (n' := m) hb' h1 hm2
        have HS1 := Lib.hid (HS.out.num hy1)
        have HR1 : Hid (ShR N (wr.setCell ⟨b', o' + j * 4 + 1, none⟩ (.int .u64 m)) (fun i => w1.heap.size ≤ i ∧ i < w2.heap.size) A' l' c') := Lib.hid (ShR.num ⟨hl', hc', hr⟩ hy1)
        have H3 := Lib.hid (hy1.2.1 _ _ _ h3 (fun q e => by cases e))
        have HL' := Lib.hid hl'
        clear hS hk hr hdN hy1 hn hm2 hl'
        go_wp2_with fail
        obtain ⟨w1o, hwo⟩ : ∃ x, wr.setCell ⟨b', o' + j * 4 + 1, none⟩ (.int .u64 (m : Int)) = x := ⟨_, rfl⟩
        have HS1 : Hid (SQ w w1o w1.heap.size w2.heap.size (putL code (trim ls)) w3.heap.size w5.heap.size A4 l4 c4 A5 l5 c5 (depthL ls) (some ⟨b', o', none⟩) l3 c3) := Lib.hid (hwo ▸ HS1.out)
        have HR1 : Hid (ShR N w1o (fun i => w1.heap.size ≤ i ∧ i < w2.heap.size) A' l' c') := Lib.hid (hwo ▸ HR1.out)
        have H3 : Hid (w1o.cell? ⟨b', o' + j * 4 + 3, none⟩ = some (.slice A' l' c')) := Lib.hid (hwo ▸ H3.out)
        rw [hwo]
        clear h0 h1 h2 h3 hfz hwo hC
        have hL' := HL'.out
        go_loopw [9] (fun i wx => ∃ q : Nat, q ≤ l' ∧ i = .int .i64 q ∧ SQ w wx w1.heap.size w2.heap.size (putL code (trim ls)) w3.heap.size w5.heap.size A4 l4 c4 A5 l5 c5 (depthL ls) (some ⟨b', o', none⟩) l3 c3 ∧ wx.cell? ⟨b', o' + j * 4 + 3, none⟩ = some (.slice A' l' c') ∧ ShR N wx (fun i => w1.heap.size ≤ i ∧ i < w2.heap.size) A' l' c') (fun i _ => l' - (intOf i).toNat)
        case atStart => exact ⟨0, Nat.zero_le _, rfl, HS1.out, H3.out, HR1.out⟩
        case round =>
          obtain ⟨q, hq, rfl, hSx, h3x, hRx⟩ := hrel
          have HSX := Lib.hid hSx
          have H3X := Lib.hid h3x
          have HRX := Lib.hid hRx
          by_cases hlq : q < l'
          · obtain ⟨b2, o2, hA2, hb2, ⟨C2, hC2⟩, hk2⟩ := hRx.2.2 (by omega)
            cases N with
            | zero => exact (hk2 q hlq).elim
            | succ N =>
              obtain ⟨kk, nn, tt, AA, ll, cc, g0, g1, g2, g3, hnn, _, _, _⟩ := hk2 q hlq
              obtain ⟨mm, hmm, hmm2⟩ := wrap_succ nn
              subst hA2
              have hfz : ∀ z, wr.frozen? ⟨b2, z, none⟩ = false := fun z => by simp [World.frozen?, hC2]
              have hy2 := Numy.set (P := fun i => w1.heap.size ≤ i ∧ i < w2.heap.size) (n' := mm) hb2 g1 hmm2
              have HY2 := Lib.hid hy2
              clear hSx hRx hk2 hy2 hnn hmm2
              go_wp2_with fail
              go_region
              go_wp2_with fail
              have hy3 := HY2.out.trans (numy_drew _ _)
              exact ⟨⟨q + 1, by omega, by go_num, HSX.out.num hy3, hy3.2.1 _ _ _ H3X.out (fun z e => by cases e), HRX.out.num hy3⟩, by simp [intOf]; omega⟩
          · clear hSx hRx
            go_wp2
            exact ⟨⟨j + 1, by omega, by go_num, HSX.out⟩, by simp [intOf]; omega⟩
    · clear hS
      obtain ⟨x0, x1, x2, x3, _⟩ := HS.out.b6.all
      obtain ⟨y0, y1, y2, y3, _⟩ := HS.out.b7.all
      go_wp2_with fail
      refine (same_25 HBP.out HS.out.kd4 HS.out.kd5).mono ?_
      rintro e wa ⟨rfl, hba⟩
      have HBA := Lib.hid (below_next HS.out.low hba)
      clear hba x0 x1 x2 x3 y0 y1 y2 y3
      go_wp2_with fail
      refine (works7_any _ (HT.out.call HBA.out)).mono ?_
      rintro e wb ⟨rfl, hbb⟩
      go_wp2_with fail
      go_ret
      exact ⟨rfl, below_next HBA.out hbb⟩
end Go.Proofs.YtnojhgpaplecgaaDoor.fieldsPuts
