/-
  Contracts of functions and plain mathematics, text by text, each with its conditions ahead of it:
  Messages, plain: the bytes of sections in any order, made one by one (MessageOrder). No Go in it.
  What the walk of MessageOrder asks of values made, their bytes, boxes and rows. Memory that was there stays. Condition: the table utf.shapes lies as the program's text lays it.
  The statement MessageOrder, walked: it answers true. Memory that was there stays. Condition: the table utf.shapes lies as the program's text lays it.
  The statement MessageOrder: sections stand in their order, each once, but data; with one that says nothing here, or of another kind, there is no message. Condition, as the card has it: the table utf.shapes lies as the program's text lays it.
-/
import Derived.Test.YtneanfjcncdfdaaGreatDoorY24
import Derived.Test.YtneanfjcncdfdaaGreatDoorY25
import Derived.StillTailTactics
import Derived.Deep.CutRange
import Derived.Deep.CutBlock
import Derived.Deep.RegionHeld3

section
namespace Go.Proofs.YtneanfjcncdfdaaGreatDoor.Me
set_option maxRecDepth 100000
open Go.RowKit Utf Val Fl Oc Dec V
open Enc hiding nullV
def kO (Z : List Nat) (j : Nat) : Nat := Z.getD j 0 % 10
def ksO (Z : List Nat) (j : Nat) : List Nat := (List.range j).map (kO Z)
/-- Is the section one that says nothing? -/
def BadO (Z : List Nat) (q : Bool) (l i : Nat) : Prop := q = true ∧ i + 1 = l ∧ kO Z i ≠ 5
instance (Z : List Nat) (q : Bool) (l i : Nat) : Decidable (BadO Z q l i) := by unfold BadO; infer_instance
def xO (Z B : List Nat) (q : Bool) (l i : Nat) : V := if BadO Z q l i then .mk 5 0 ⟨#[]⟩ [] else inV B (kO Z i)
def vsO (Z B : List Nat) (q : Bool) (l j : Nat) : List V := (List.range j).map fun i => secV (kO Z i) (xO Z B q l i)
def bsO (Z B : List Nat) (q : Bool) (l j : Nat) : List Nat := layL (vsO Z B q l j)
def whO (Z B : List Nat) (j : Nat) : List Nat := wholeB B (ksO Z j)
theorem kO_lt (Z : List Nat) (j : Nat) : kO Z j < 10 := Nat.mod_lt _ (by omega)
theorem ksO_succ (Z : List Nat) (j : Nat) : ksO Z (j + 1) = ksO Z j ++ [kO Z j] := by simp [ksO, List.range_succ]
theorem vsO_succ (Z B : List Nat) (q : Bool) (l j : Nat) : vsO Z B q l (j + 1) = vsO Z B q l j ++ [secV (kO Z j) (xO Z B q l j)] := by simp [vsO, List.range_succ]
theorem bsO_succ (Z B : List Nat) (q : Bool) (l j : Nat) : bsO Z B q l (j + 1) = bsO Z B q l j ++ lay (plan (secV (kO Z j) (xO Z B q l j))) := by
  unfold bsO
  rw [vsO_succ, layL_append]
  show _ ++ (lay (plan (secV (kO Z j) (xO Z B q l j))) ++ []) = _
  rw [List.append_nil]
theorem whO_succ (Z B : List Nat) (j : Nat) : whO Z B (j + 1) = whO Z B j ++ (if kO Z j = 5 then B else []) := by
  unfold whO
  rw [ksO_succ, wholeB_snoc]
theorem ordO_succ (Z : List Nat) (j : Nat) : ordB 0 (ksO Z (j + 1)) = (ordB 0 (ksO Z j) && condB (kO Z j) (lastB 0 (ksO Z j))) := by rw [ksO_succ, ordB_snoc]
theorem lastO_succ (Z : List Nat) (j : Nat) : lastB 0 (ksO Z (j + 1)) = kO Z j + 1 := by rw [ksO_succ, lastB_snoc]
theorem anyO_succ (Z : List Nat) (j : Nat) : any5 (ksO Z (j + 1)) = (any5 (ksO Z j) || kO Z j == 5) := by simp [ksO_succ, any5]
theorem condO (k la : Nat) : condB k la = true ↔ (k ≠ 6 ∧ k ≠ 7 ∧ k ≠ 9 ∧ (la < k + 1 ∨ (k = 5 ∧ la = 6))) := by
  simp only [condB, Bool.and_eq_true, Bool.or_eq_true, Bool.not_eq_true', beq_eq_false_iff_ne, beq_iff_eq, decide_eq_true_eq, ne_eq]
theorem whO_len (Z B : List Nat) (j : Nat) (hj : j ≤ 12) (hB : B.length ≤ 100) : (whO Z B j).length ≤ 1200 := by
  have h := whole_len B (ksO Z j)
  have e : (ksO Z j).length = j := by simp [ksO]
  rw [e] at h
  have h2 : j * B.length ≤ 12 * 100 := Nat.mul_le_mul hj hB
  exact Nat.le_trans h (by omega)
theorem xO_ok (Z B : List Nat) (q : Bool) (l i : Nat) (hB : B.length ≤ 100) : mayB (xO Z B q l i) = true ∧ items (xO Z B q l i) ≤ 1 ∧ depth (xO Z B q l i) ≤ 1 ∧ Enc.n64 (xO Z B q l i) ∧ bulk (xO Z B q l i) ≤ 101 := by
  unfold xO
  by_cases h : BadO Z q l i
  · rw [if_pos h]
    exact ⟨may_u32 (by omega), by simp [items, itemsL], by simp [depth, depthL], ⟨by omega, trivial⟩, by simp only [bulk, bulkL, sz0]; omega⟩
  · rw [if_neg h]
    obtain ⟨h1, h2, h3, h4, h5⟩ := may_in B (kO Z i)
    exact ⟨h1, by omega, by omega, h4, by omega⟩
theorem secO_ok (Z B : List Nat) (q : Bool) (l i : Nat) (hB : B.length ≤ 100) : Enc.Good (secV (kO Z i) (xO Z B q l i)) ∧ okB (secV (kO Z i) (xO Z B q l i)) = true := by
  obtain ⟨h1, h2, h3, h4, h5⟩ := xO_ok Z B q l i hB
  have := kO_lt Z i
  exact ⟨sec_gd (by omega) h1 h4 (by omega), sec_ok _ h1 (by omega) (by omega)⟩
theorem in_mass (B : List Nat) (k : Nat) : mass (plan (inV B k)) ≤ 33 + B.length := by
  unfold inV
  have h1 := mass_core (k := 22) (n := 0) (t := ⟨#[]⟩) (ks := []) (by omega) (by omega)
  have h2 := mass_core (k := 19) (n := 0) (t := sb B) (ks := []) (by omega) (by omega)
  have h3 := mass_core (k := 23) (n := 0) (t := ⟨#[]⟩) (ks := []) (by omega) (by omega)
  simp only [planL, massL, sb_size, sz0] at h1 h2 h3
  split
  · omega
  · split <;> omega
theorem secO_len (Z B : List Nat) (q : Bool) (l i : Nat) (hB : B.length ≤ 100) : (lay (plan (secV (kO Z i) (xO Z B q l i)))).length ≤ 200 := by
  refine Nat.le_trans (lay_mass _) ?_
  unfold secV
  rw [mass_desc]
  have h1 := ulong_mass (112 + kO Z i)
  have h2 : mass (plan (xO Z B q l i)) ≤ 133 := by
    unfold xO
    split
    · have h3 := mass_core (k := 5) (n := 0) (t := ⟨#[]⟩) (ks := []) (by omega) (by omega)
      simp only [planL, massL, sz0] at h3
      omega
    · have := in_mass B (kO Z i); omega
  omega
theorem bsO_len (Z B : List Nat) (q : Bool) (l : Nat) (hB : B.length ≤ 100) : ∀ j, (bsO Z B q l j).length ≤ 200 * j
  | 0 => by simp [bsO, vsO, layL]
  | j + 1 => by
    have h1 := bsO_len Z B q l hB j
    have h2 := secO_len Z B q l j hB
    rw [bsO_succ, List.length_append]
    omega
/-- What Get reads of sections in any order. -/
theorem get_ord {Z B : List Nat} {q : Bool} {l : Nat} (hB : B.length ≤ 100) (hb : ∀ x ∈ B, x < 256) (hl : l ≤ 12) :
    getM (bsO Z B q l l) = if (ordB 0 (ksO Z l) = true ∧ ∀ i, i < l → ¬ BadO Z q l i) ∧ any5 (ksO Z l) = true then some ⟨4, 0, 0, ⟨#[]⟩, whO Z B l⟩ else none := by
  unfold bsO
  rw [getM_lay fun v hv => by
    obtain ⟨i, _, rfl⟩ := List.mem_map.1 hv
    exact secO_ok Z B q l i hB]
  by_cases hbad : ∃ i, i < l ∧ BadO Z q l i
  · obtain ⟨i, hi, hbd⟩ := hbad
    rw [if_neg fun h => h.1.2 i hi hbd]
    have hil : i + 1 = l := hbd.2.1
    have e : vsO Z B q l l = vsO Z B q l i ++ [secV (kO Z i) (.mk 5 0 ⟨#[]⟩ [])] := by
      have e1 := vsO_succ Z B q l i
      rw [show xO Z B q l i = .mk 5 0 ⟨#[]⟩ [] from if_pos hbd] at e1
      have e2 : vsO Z B q l l = vsO Z B q l (i + 1) := by rw [hil]
      rw [e2, e1]
    rw [e, fold_append]
    cases hf : foldM s0 (vsO Z B q l i) with
    | none => rfl
    | some s =>
      simp only
      have h1 : foldM s [secV (kO Z i) (.mk 5 0 ⟨#[]⟩ [])] = none := by
        show (match stepM s (secV (kO Z i) (.mk 5 0 ⟨#[]⟩ [])) with
          | none => none
          | some s' => foldM s' []) = _
        rw [step_bad (kO_lt Z i) hbd.2.2]
      rw [h1]
  · have hno : ∀ i, i < l → ¬ BadO Z q l i := fun i hi h => hbad ⟨i, hi, h⟩
    have e : vsO Z B q l l = (ksO Z l).map fun k => secV k (inV B k) := by
      unfold vsO ksO
      rw [List.map_map]
      refine List.map_congr_left fun i hi => ?_
      rw [show xO Z B q l i = inV B (kO Z i) from if_neg (hno i (List.mem_range.1 hi))]
      rfl
    rw [e, fold_ord hb _ s0 0 [] (fun k hk => by obtain ⟨i, _, rfl⟩ := List.mem_map.1 hk; exact kO_lt Z i) (by omega) rfl rfl]
    by_cases ho : ordB 0 (ksO Z l) = true
    · rw [if_pos ho]
      have hw := whO_len Z B l hl hB
      show finM ⟨⟨4, 0, 0, ⟨#[]⟩, [] ++ wholeB B (ksO Z l)⟩, codeOf (lastB 0 (ksO Z l)), s0.body || any5 (ksO Z l)⟩ = _
      have e0 : (s0.body || any5 (ksO Z l)) = any5 (ksO Z l) := rfl
      rw [e0, List.nil_append]
      unfold finM
      simp only
      by_cases ha : any5 (ksO Z l) = true
      · rw [if_pos ⟨ha, by have : (wholeB B (ksO Z l)).length ≤ 1200 := hw; omega⟩, if_pos ⟨⟨ho, hno⟩, ha⟩]
        rfl
      · rw [if_neg fun h => ha h.1, if_neg fun h => ha h.2]
    · rw [if_neg ho, if_neg fun h => ho h.1.1]
end Go.Proofs.YtneanfjcncdfdaaGreatDoor.Me
end
section
namespace Go.Proofs.YtneanfjcncdfdaaGreatDoor.Me
set_option maxRecDepth 100000
open Go.RowKit Utf Val Fl V
open Enc (lay plan encv_yes)
/-- The box of a choice of sections. -/
def BxS (w : World) (g : Nat) (x0 x1 x2 : Value) : Prop := w.heap[g]? = some (.cells #[x0, x1, x2] 42 (0, 0))
section
variable {w w' : World} {g : Nat} {x0 x1 x2 : Value}
theorem BxS.lt (h : BxS w g x0 x1 x2) : g < w.heap.size := (Array.getElem?_eq_some_iff.1 h).1
theorem BxS.new (w : World) (x0 x1 x2 : Value) : BxS (w.alloc (.cells #[x0, x1, x2] 42)) w.heap.size x0 x1 x2 := heap_alloc_new w _
theorem BxS.call (h : BxS w g x0 x1 x2) (hb : Below w.heap.size w w') : BxS w' g x0 x1 x2 := (hb.block g h.lt).trans h
theorem BxS.all (h : BxS w g x0 x1 x2) : w.cell? ⟨g, 0, none⟩ = some x0 ∧ w.cell? ⟨g, 1, none⟩ = some x1 ∧ w.cell? ⟨g, 2, none⟩ = some x2 := ⟨cell_of_row w g 0 _ _ _ h, cell_of_row w g 1 _ _ _ h, cell_of_row w g 2 _ _ _ h⟩
end
def GivesO (k : Nat) (w : World) (e : Ending) (w' : World) : Prop := ∃ A c, e = .returned (.agg #[.int .u8 (k : Int), .int .u64 0, .string ⟨#[]⟩, .slice A 0 c]) ∧ Below w.heap.size w w'
theorem many_map (w : World) : Calls Tryz.prog 22 #[.int .u8 23, .slice none 0 0] w (GivesO 23 w) :=
  (vmany_any 23 [] none 0 0 w (by decide) (by omega) (Kd.none_ _ _ _)).mono fun e w' ⟨A, l, c, h1, h2, h3⟩ => by
    obtain rfl : l = 0 := (Nw.kd h2).len
    exact ⟨A, c, h1, h3⟩
theorem many_list (w : World) : Calls Tryz.prog 22 #[.int .u8 22, .slice none 0 0] w (GivesO 22 w) :=
  (vmany_any 22 [] none 0 0 w (by decide) (by omega) (Kd.none_ _ _ _)).mono fun e w' ⟨A, l, c, h1, h2, h3⟩ => by
    obtain rfl : l = 0 := (Nw.kd h2).len
    exact ⟨A, c, h1, h3⟩
theorem num_zero (w : World) : Calls Tryz.prog 24 #[.int .u8 5, .int .u64 0] w (fun e w' => e = .returned (.agg #[.int .u8 5, .int .u64 0, .string ⟨#[]⟩, .slice none 0 0]) ∧ Below w.heap.size w w') := Val.number_any 5 0 w
theorem num_code (n : Nat) (w : World) : Calls Tryz.prog 24 #[.int .u8 6, .int .u64 (n : Int)] w (fun e w' => e = .returned (.agg #[.int .u8 6, .int .u64 (n : Int), .string ⟨#[]⟩, .slice none 0 0]) ∧ Below w.heap.size w w') := Val.number_any 6 n w
theorem desc_sec (K kx nx : Nat) (tx : ByteArray) (Ax : Option Addr) (lx cx : Nat) (w : World) (hK : K < 18446744073709551616) (hk : kx < 256) (hn : nx < 18446744073709551616) (ht : tx.size ≤ 100) (hKd : Kd w [] Ax lx cx) : Calls Tryz.prog 26 #[.agg #[.int .u8 6, .int .u64 (K : Int), .string ⟨#[]⟩, .slice none 0 0], .agg #[.int .u8 (kx : Int), .int .u64 (nx : Int), .string tx, .slice Ax lx cx]] w
    (fun e w' => ∃ A1 l1 c1, e = .returned (.agg #[.int .u8 25, .int .u64 0, .string ⟨#[]⟩, .slice A1 l1 c1]) ∧ Nw w.heap.size w' [.mk 6 K ⟨#[]⟩ [], .mk kx nx tx []] A1 l1 c1 ∧ Below w.heap.size w w') :=
  vdesc_any 6 K ⟨#[]⟩ [] none 0 0 kx nx tx [] Ax lx cx w (by simp only [bulkL, bulk, sz0]; omega) (by omega) hK hk hn (Kd.none_ _ _ _) hKd
theorem enc_sec {k kx nx : Nat} {tx : ByteArray} (hok : okB (secV k (.mk kx nx tx [])) = true) (ht : tx.size ≤ 100) (A : Option Addr) (l c : Nat) (w : World) (hK : Kd w [.mk 6 (112 + k) ⟨#[]⟩ [], .mk kx nx tx []] A l c) (hTab : Tab w) : Calls Tryz.prog 25 #[.agg #[.int .u8 25, .int .u64 0, .string ⟨#[]⟩, .slice A l c]] w (Enc.GivesV (secV k (.mk kx nx tx [])) w) :=
  encv_yes 25 0 ⟨#[]⟩ [.mk 6 (112 + k) ⟨#[]⟩ [], .mk kx nx tx []] A l c w hok (by simp only [bulk, bulkL, sz0]; omega) (by omega) (by omega) hK hTab
/-- What is kept behind the choice of a section's value. -/
structure SW (W0 wx : World) (g kx nx : Nat) (tx : ByteArray) (Ax : Option Addr) (lx cx : Nat) (A3 : Option Addr) (n3 c3 : Nat) (bs : List Nat) (A4 : Option Addr) (n4 c4 : Nat) (wh : List Nat) : Prop where
  box : Box wx g (.int .u8 (kx : Int)) (.int .u64 (nx : Int)) (.string tx) (.slice Ax lx cx)
  kd : Kd wx [] Ax lx cx
  two : Two W0 wx A3 n3 c3 bs A4 n4 c4 wh
section
variable {W0 wx w' : World} {g kx nx : Nat} {tx : ByteArray} {Ax : Option Addr} {lx cx : Nat} {A3 : Option Addr} {n3 c3 : Nat} {bs : List Nat} {A4 : Option Addr} {n4 c4 : Nat} {wh : List Nat}
end
end Go.Proofs.YtneanfjcncdfdaaGreatDoor.Me
end
section
namespace Go.Proofs.YtneanfjcncdfdaaGreatDoor.messageOrder
set_option maxRecDepth 100000
open Go.RowKit Utf Val Fl Dec Me V
open Enc (lay plan)
set_option maxHeartbeats 16000000 in
theorem walk (A : Option Addr) (l c : Nat) (Z : List Nat) (Ab : Option Addr) (lb cb : Nat) (B : List Nat) (q : Bool) (w : World) (hTab : Tab w) (hr : Rd .u8 256 w w.heap.size A l Z) (_hc : l ≤ c) (hr' : Rd .u8 256 w w.heap.size Ab lb B) (_hc' : lb ≤ cb) :
    Calls Tryz.prog 7 #[.agg #[.slice A l c, .slice Ab lb cb, .bool q]] w (GivesB true w) := by
  have hb0 : Below w.heap.size w (w.alloc (.cells #[.slice A l c, .slice Ab lb cb, .bool q] 42)) := (Below.refl _ _).alloc (Nat.le_refl _) _
  have HB0 := Lib.hid hb0
  have HX0 := Lib.hid (BxS.new w (.slice A l c) (.slice Ab lb cb) (.bool q))
  have HRZ := Lib.hid (hr.call hb0)
  have HRB := Lib.hid (hr'.call hb0)
  have HTW := Lib.hid (hTab.call hb0)
  have HLZ := Lib.hid hr.len
  have HLB := Lib.hid hr'.len
  have HBY : Hid (∀ x ∈ B, x < 256) := Lib.hid (fun x hx => hr'.lim x hx)
  have hBl := hr'.len
  have HWK := Lib.hid (fun wx (h : Tab wx) => works10_any wx h)
  obtain ⟨x0, x1, x2⟩ := HX0.out.all
  clear hb0 hr hr' hTab
  by_cases hbig : 12 < l ∨ 100 < lb
  case pos =>
    by_cases h12 : 12 < l
    · have hd : decide ((12 : Int) < (l : Int)) = true := decide_eq_true (by omega)
      go_enter Tryz.func7, Tryz.ntmps7
      go_wp2_with (go_at_call 11; (with_reducible refine (HWK.out _ HTW.out).mono ?_); rintro e w2 ⟨rfl, hb2⟩)
      go_ret
      exact ⟨rfl, below_next HB0.out hb2⟩
    · have hd : decide ((12 : Int) < (l : Int)) = false := decide_eq_false (by omega)
      have h100 : 100 < lb := by omega
      have hd2 : decide ((100 : Int) < (lb : Int)) = true := decide_eq_true (by omega)
      go_enter Tryz.func7, Tryz.ntmps7
      go_wp2_with (go_at_call 11; (with_reducible refine (HWK.out _ HTW.out).mono ?_); rintro e w2 ⟨rfl, hb2⟩)
      go_ret
      exact ⟨rfl, below_next HB0.out hb2⟩
  case neg =>
    have hl12 : l ≤ 12 := by omega
    have hb100 : lb ≤ 100 := by omega
    have hd : decide ((12 : Int) < (l : Int)) = false := decide_eq_false (by omega)
    have hd2 : decide ((100 : Int) < (lb : Int)) = false := decide_eq_false (by omega)
    have HBL : Hid (B.length ≤ 100) := Lib.hid (by omega)
    clear hbig hBl
    go_enter Tryz.func7, Tryz.ntmps7
    go_wp2_with fail
    have hx0 := HX0.out
    have hW0 := HB0.out
    have hrz := HRZ.out
    have hrb := HRB.out
    have htw := HTW.out
    clear HX0 HB0 HRZ HRB HTW x0 x1 x2
    generalize w.alloc (.cells #[.slice A l c, .slice Ab lb cb, .bool q] 42) = W0 at hx0 hW0 hrz hrb htw ⊢
    have HX0 := Lib.hid hx0
    have HB0 := Lib.hid hW0
    have HRZ := Lib.hid hrz
    have HRB := Lib.hid hrb
    have HTW := Lib.hid htw
    clear hx0 hW0 hrz hrb htw hd hd2
    go_loopw [3, 4, 5, 6, 7] (fun s3 s4 s5 s6 s7 wr => ∃ (j : Nat) (A3 : Option Addr) (n3 c3 : Nat) (A4 : Option Addr) (n4 c4 : Nat) (f : Bool) (la : Int), j ≤ l ∧ s7 = .int .i64 (j : Nat) ∧ s3 = .slice A3 n3 c3 ∧ s4 = .slice A4 n4 c4 ∧ s5 = .bool f ∧ s6 = .int .i64 la ∧ la + 1 = (lastB 0 (ksO Z j) : Int) ∧ (f = true ↔ ordB 0 (ksO Z j) = true ∧ ∀ i, i < j → ¬ BadO Z q l i) ∧ Two W0 wr A3 n3 c3 (bsO Z B q l j) A4 n4 c4 (whO Z B j)) (fun _ _ _ _ s _ => l - (intOf s).toNat)
    case atStart => exact ⟨0, none, 0, 0, none, 0, 0, true, -1, by omega, rfl, rfl, rfl, rfl, rfl, rfl, ⟨fun _ => ⟨rfl, fun i h => by omega⟩, fun _ => rfl⟩, ⟨Utf.Own.nil _ _ _ _ _, Utf.Own.nil _ _ _ _ _, (fun g h => by cases h), Below.refl _ _⟩⟩
    case round =>
      obtain ⟨j, A3, n3, c3, A4, n4, c4, f, la, hj, rfl, rfl, rfl, rfl, rfl, hla, hf, hT⟩ := hrel
      have HTS := Lib.hid hT
      have HF := Lib.hid hf
      have HLA := Lib.hid hla
      have hn3 : n3 ≤ 2400 := by have := bsO_len Z B q l HBL.out j; rw [hT.one.len] at this; omega
      have hn4 : n4 ≤ 1200 := by have := whO_len Z B j (by omega) HBL.out; rw [hT.two.len] at this; omega
      obtain ⟨x0, x1, x2⟩ := (HX0.out.call hT.low).all
      by_cases hlt : j < l
      case pos =>
        obtain ⟨b0, o0, z, rfl, hb0, hz, hz256, hcell0⟩ := HRZ.out.at_ hlt
        have hcell := (hT.low.cell (p := ⟨b0, o0 + j, none⟩) hb0).trans hcell0
        have hkz : kO Z j = z % 10 := by unfold kO; rw [List.getD_eq_getElem?_getD, hz]; rfl
        obtain ⟨k, hk⟩ : ∃ k, kO Z j = k := ⟨_, rfl⟩
        have hk10 : k < 10 := by rw [← hk]; exact kO_lt Z j
        have hrem1 : (z : Int).tmod 10 = (k : Int) := by rw [Int.tmod_eq_emod_of_nonneg (by omega)]; omega
        have hrem2 : (z : Int) % 10 = (k : Int) := by omega
        have hzw : IntKind.i64.wrap (z : Int) = (z : Int) := by rw [IntKind.wrap_i64]; omega
        have hltI : (j : Int) < (l : Int) := by omega
        have HK := Lib.hid hk
        clear hkz hcell0 hb0 hz hT hf hla
        go_upto_block 2 with (go_at_call 22; (with_reducible refine (many_map _).mono ?_); rintro e w3 ⟨A5, c5, rfl, hb3⟩)
        have HBX := Lib.hid (hb3.alloc hb3.size (.cells #[.int .u8 23, .int .u64 0, .string ⟨#[]⟩, .slice A5 0 c5] 46))
        have HBOX := Lib.hid (Box.new w3 (.int .u8 23) (.int .u64 0) (.string ⟨#[]⟩) (.slice A5 0 c5))
        have HGE := Lib.hid hb3.size
        clear hb3
        go_cut [4] from 27 to 114 (fun s4 wx => ∃ (A4' : Option Addr) (n4' c4' kx nx : Nat) (tx : ByteArray) (Ax : Option Addr) (lx cx : Nat), s4 = .slice A4' n4' c4' ∧ V.mk kx nx tx [] = inV B k ∧ kx < 256 ∧ nx < 18446744073709551616 ∧ tx.size ≤ 100 ∧ SW W0 wx w3.heap.size kx nx tx Ax lx cx A3 n3 c3 (bsO Z B q l j) A4' n4' c4' (whO Z B (j + 1)) ∧ (k ≠ 5 → s4 = .slice A4 n4 c4 ∧ Below wr.heap.size wr wx))
        case first =>
          obtain ⟨y0, y1, y2, y3, yf⟩ := HBOX.out.all
          by_cases h5 : k = 5
          · have HIN : Hid (inV B k = .mk 19 0 (sb B) []) := Lib.hid (by rw [h5]; rfl)
            have HWH : Hid (whO Z B (j + 1) = whO Z B j ++ B) := Lib.hid (by rw [whO_succ, HK.out, if_pos h5])
            have e0 : ((k : Int) == 0) = false := by rw [beq_eq_false_iff_ne]; omega
            have e3 : ((k : Int) == 3) = false := by rw [beq_eq_false_iff_ne]; omega
            have e6 : ((k : Int) == 6) = false := by rw [beq_eq_false_iff_ne]; omega
            have e5 : ((k : Int) == 5) = true := by rw [beq_iff_eq]; omega
            have H5 := Lib.hid h5
            clear h5
            have hcv := run_str cb (HRB.out.below (below_next HTS.out.low HBX.out))
            obtain ⟨z0, z1, z2⟩ := (HX0.out.call (below_next HTS.out.low HBX.out)).all
            go_upto_region 18 with (go_at_call 23; (with_reducible refine (bin_new (sb B) _).mono ?_); rintro e w4 ⟨rfl, hb4⟩; have hBx4 := below_next HBX.out hb4; obtain ⟨y0, y1, y2, y3, yf⟩ := (HBOX.out.call hb4).all; have HT4 := Lib.hid (HTS.out.call (below_set4 hBx4 HGE.out (.int .u8 19) (.int .u64 0) (.string (sb B)) (.slice none 0 0))); have HBX4 := Lib.hid ((HBOX.out.call hb4).set4 (.int .u8 19) (.int .u64 0) (.string (sb B)) (.slice none 0 0)); have HR4 := Lib.hid (HRB.out.call HT4.out.low); have HFR : Hid ((Value.slice A4 n4 c4).ownBlock ≠ some w3.heap.size) := Lib.hid (fun e => by have h1 := (HTS.out.two.blk _ e).2; have h2 := HGE.out; omega); obtain ⟨z0, z1, z2⟩ := (HX0.out.call HT4.out.low).all)
            go_upto_region 19 with (first
              | (at_builtin; refine wpList_app8at (base := W0.heap.size) rfl _ _ rfl rfl HT4.out.two rfl HR4.out (by omega) HT4.out.low.size ?_; intro A6 c6 w6 hO6 hg6 hat6)
              | fail)
            have HT6 := Lib.hid (Two.snd HT4.out hO6 hg6 hat6)
            have HX6 := Lib.hid (Val.box_grown HBX4.out hg6 HFR.out)
            go_meet
            exact ⟨A6, n4 + lb, c6, 19, 0, sb B, none, 0, 0, rfl, HIN.out.symm, by omega, by omega, by rw [Me.sb_size]; exact HBL.out, ⟨HX6.out, Kd.none_ _ _ _, HWH.out ▸ HT6.out⟩, fun h => absurd H5.out h⟩
          · have HWH : Hid (whO Z B j = whO Z B (j + 1)) := Lib.hid (by rw [whO_succ, HK.out, if_neg h5, List.append_nil])
            by_cases hL : isL k = true
            · have HIN : Hid (inV B k = .mk 22 0 ⟨#[]⟩ []) := Lib.hid (by unfold inV; rw [if_pos hL])
              have hL2 : k = 0 ∨ k = 3 ∨ k = 6 := by simpa [isL] using hL
              by_cases h0 : k = 0
              · have e0 : ((k : Int) == 0) = true := by rw [beq_iff_eq]; omega
                clear h0 hL2
                go_wp2_with (go_at_call 22; (with_reducible refine (many_list _).mono ?_); rintro e w4 ⟨A6, c6, rfl, hb4⟩; have hBx4 := below_next HBX.out hb4; obtain ⟨y0, y1, y2, y3, yf⟩ := (HBOX.out.call hb4).all)
                go_meet
                exact ⟨A4, n4, c4, 22, 0, ⟨#[]⟩, A6, 0, c6, rfl, HIN.out.symm, by omega, by omega, by simp [ByteArray.size], ⟨(HBOX.out.call hb4).set4 _ _ _ _, Kd.none_ _ _ _, HWH.out ▸ HTS.out.call (below_set4 hBx4 HGE.out _ _ _ _)⟩, fun _ => ⟨rfl, below_set4 hBx4 HGE.out _ _ _ _⟩⟩
              · by_cases h3 : k = 3
                · have e0 : ((k : Int) == 0) = false := by rw [beq_eq_false_iff_ne]; omega
                  have e3 : ((k : Int) == 3) = true := by rw [beq_iff_eq]; omega
                  clear h0 h3 hL2
                  go_wp2_with (go_at_call 22; (with_reducible refine (many_list _).mono ?_); rintro e w4 ⟨A6, c6, rfl, hb4⟩; have hBx4 := below_next HBX.out hb4; obtain ⟨y0, y1, y2, y3, yf⟩ := (HBOX.out.call hb4).all)
                  go_meet
                  exact ⟨A4, n4, c4, 22, 0, ⟨#[]⟩, A6, 0, c6, rfl, HIN.out.symm, by omega, by omega, by simp [ByteArray.size], ⟨(HBOX.out.call hb4).set4 _ _ _ _, Kd.none_ _ _ _, HWH.out ▸ HTS.out.call (below_set4 hBx4 HGE.out _ _ _ _)⟩, fun _ => ⟨rfl, below_set4 hBx4 HGE.out _ _ _ _⟩⟩
                · have e0 : ((k : Int) == 0) = false := by rw [beq_eq_false_iff_ne]; omega
                  have e3 : ((k : Int) == 3) = false := by rw [beq_eq_false_iff_ne]; omega
                  have e6 : ((k : Int) == 6) = true := by rw [beq_iff_eq]; omega
                  clear h0 h3 hL2
                  go_wp2_with (go_at_call 22; (with_reducible refine (many_list _).mono ?_); rintro e w4 ⟨A6, c6, rfl, hb4⟩; have hBx4 := below_next HBX.out hb4; obtain ⟨y0, y1, y2, y3, yf⟩ := (HBOX.out.call hb4).all)
                  go_meet
                  exact ⟨A4, n4, c4, 22, 0, ⟨#[]⟩, A6, 0, c6, rfl, HIN.out.symm, by omega, by omega, by simp [ByteArray.size], ⟨(HBOX.out.call hb4).set4 _ _ _ _, Kd.none_ _ _ _, HWH.out ▸ HTS.out.call (below_set4 hBx4 HGE.out _ _ _ _)⟩, fun _ => ⟨rfl, below_set4 hBx4 HGE.out _ _ _ _⟩⟩
            · have HIN : Hid (inV B k = .mk 23 0 ⟨#[]⟩ []) := Lib.hid (by unfold inV; rw [if_neg hL, if_neg h5])
              have hL2 : ¬ (k = 0 ∨ k = 3 ∨ k = 6) := fun h => hL (by simpa [isL] using h)
              have e0 : ((k : Int) == 0) = false := by rw [beq_eq_false_iff_ne]; omega
              have e3 : ((k : Int) == 3) = false := by rw [beq_eq_false_iff_ne]; omega
              have e6 : ((k : Int) == 6) = false := by rw [beq_eq_false_iff_ne]; omega
              have e5 : ((k : Int) == 5) = false := by rw [beq_eq_false_iff_ne]; omega
              clear hL2
              go_wp2_with fail
              go_meet
              exact ⟨A4, n4, c4, 23, 0, ⟨#[]⟩, A5, 0, c5, rfl, HIN.out.symm, by omega, by omega, by simp [ByteArray.size], ⟨HBOX.out, Kd.none_ _ _ _, HWH.out ▸ HTS.out.call HBX.out⟩, fun _ => ⟨rfl, HBX.out⟩⟩
        case rest =>
          obtain ⟨A4', n4', c4', kx, nx, tx, Ax, lx, cx, rfl, hin, hkx, hnx, htx, hSW, hne⟩ := hcut
          rename World => W4
          have HIN := Lib.hid hin
          have HKX := Lib.hid (And.intro hkx (And.intro hnx htx))
          have HSW := Lib.hid hSW
          have HNE := Lib.hid hne
          obtain ⟨z0, z1, z2⟩ := (HX0.out.call hSW.two.low).all
          clear hin hkx hnx htx hSW hne x0 x1 x2 hcell HBOX HBX
          go_upto_region 19 with fail
          go_cut [71] from 27 to 114 (fun s71 wx => ∃ bd : Bool, s71 = .bool bd ∧ (bd = true ↔ BadO Z q l j) ∧ wx = W4)
          case first =>
            have hkI : kO Z j = k := HK.out
            cases q with
            | false =>
              go_wp2_with fail
              go_meet
              exact ⟨false, rfl, ⟨fun h => (by cases h), fun h => (by cases h.1)⟩, rfl⟩
            | true =>
              by_cases h5 : k = 5
              · have e5 : ((k : Int) == 5) = true := by rw [beq_iff_eq]; omega
                have e5' : ((k : Int) != 5) = false := by rw [bne, e5]; rfl
                go_wp2_with fail
                go_meet
                exact ⟨false, rfl, ⟨fun h => (by cases h), fun h => absurd (hkI.trans h5) h.2.2⟩, rfl⟩
              · have e5 : ((k : Int) == 5) = false := by rw [beq_eq_false_iff_ne]; omega
                have e5' : ((k : Int) != 5) = true := by rw [bne, e5]; rfl
                by_cases hjl : j + 1 = l
                · have ejl : ((j : Int) == (l : Int) - 1) = true := by rw [beq_iff_eq]; omega
                  go_wp2_with fail
                  go_meet
                  exact ⟨true, rfl, ⟨fun _ => ⟨rfl, hjl, fun h => h5 (hkI.symm.trans h)⟩, fun _ => rfl⟩, rfl⟩
                · have ejl : ((j : Int) == (l : Int) - 1) = false := by rw [beq_eq_false_iff_ne]; omega
                  go_wp2_with fail
                  go_meet
                  exact ⟨false, rfl, ⟨fun h => (by cases h), fun h => absurd h.2.1 hjl⟩, rfl⟩
          case rest =>
            obtain ⟨bd, rfl, hbd, rfl⟩ := hcut
            have HBD := Lib.hid hbd
            clear hbd
            go_upto_if 71 with fail
            go_cut [5] from 27 to 114 (fun s5 wx => ∃ (f2 : Bool) (kx nx : Nat) (tx : ByteArray) (Ax : Option Addr) (lx cx : Nat), s5 = .bool f2 ∧ (f2 = true ↔ f = true ∧ ¬ BadO Z q l j) ∧ V.mk kx nx tx [] = xO Z B q l j ∧ kx < 256 ∧ nx < 18446744073709551616 ∧ tx.size ≤ 100 ∧ SW W0 wx w3.heap.size kx nx tx Ax lx cx A3 n3 c3 (bsO Z B q l j) A4' n4' c4' (whO Z B (j + 1)))
            case first =>
              cases bd with
              | false =>
                have hnb : ¬ BadO Z q l j := fun h => by cases HBD.out.2 h
                go_wp2_with fail
                go_meet
                exact ⟨f, kx, nx, tx, Ax, lx, cx, rfl, ⟨fun h => ⟨h, hnb⟩, fun h => h.1⟩, by rw [HIN.out, show xO Z B q l j = inV B (kO Z j) from if_neg hnb, HK.out], HKX.out.1, HKX.out.2.1, HKX.out.2.2, HSW.out⟩
              | true =>
                have hyb : BadO Z q l j := HBD.out.1 rfl
                obtain ⟨hs4, hB4⟩ := HNE.out (fun h => hyb.2.2 (HK.out.trans h))
                have HB4 := Lib.hid hB4
                obtain ⟨y0, y1, y2, y3, yf⟩ := HSW.out.box.all
                have HS4 := Lib.hid hs4
                clear hB4 hs4
                go_wp2_with (go_at_call 24; (with_reducible refine (num_zero _).mono ?_); rintro e w5 ⟨rfl, hb5⟩; obtain ⟨y0, y1, y2, y3, yf⟩ := (HSW.out.box.call hb5).all)
                go_meet
                have hwh : whO Z B (j + 1) = whO Z B j := by rw [whO_succ, if_neg hyb.2.2, List.append_nil]
                have e4 := HS4.out
                injection e4 with e1 e2 e3
                subst e1 e2 e3
                exact ⟨false, 5, 0, ⟨#[]⟩, none, 0, 0, rfl, ⟨fun h => (by cases h), fun h => absurd hyb h.2⟩, (if_pos hyb).symm, by omega, by omega, by simp [ByteArray.size], ⟨(HSW.out.box.call hb5).set4 _ _ _ _, Kd.none_ _ _ _, hwh.symm ▸ HTS.out.call (below_set4 (below_next HB4.out hb5) HGE.out _ _ _ _)⟩⟩
            case rest =>
              clear HIN HKX HSW HNE HBD z0 z1 z2
              obtain ⟨f2, kx, nx, tx, Ax, lx, cx, rfl, hf2, hxo, hkx, hnx, htx, hSW⟩ := hcut
              rename World => W5
              have HF2 := Lib.hid hf2
              have HXO := Lib.hid hxo
              have HKX := Lib.hid (And.intro hkx (And.intro hnx htx))
              have HSW := Lib.hid hSW
              obtain ⟨K, hK⟩ : ∃ K, 112 + k = K := ⟨_, rfl⟩
              have hKI : (112 : Int) + (k : Int) = (K : Int) := by omega
              have hKw : IntKind.u64.wrap (K : Int) = (K : Int) := by rw [IntKind.wrap_u64]; omega
              have hkw : IntKind.u64.wrap (k : Int) = (k : Int) := by rw [IntKind.wrap_u64]; omega
              have HKK := Lib.hid hK
              have hb0 : Below W5.heap.size W5 W5.drew := (Below.refl _ _).drew
              have HCE := Lib.hid (fun wx (h : Below W5.heap.size W5 wx) => And.intro (hSW.box.call h).all h)
              have HOK : Hid (okB (secV k (.mk kx nx tx [])) = true) := Lib.hid (by rw [hxo, ← HK.out]; exact (secO_ok Z B q l j HBL.out).2)
              have HTB := Lib.hid (fun wx (h : Below W5.heap.size W5 wx) => HTW.out.call (below_next hSW.two.low h))
              clear hK hf2 hxo hkx hnx htx hSW
              go_upto_region 22 with fail
              go_cut [10, 11] from 27 to 114 (fun s10 s11 wx => ∃ Aw nw cw, s10 = .slice Aw nw cw ∧ s11 = .int .i64 0 ∧ Utf.Own .u8 256 5 wx W5.heap.size Aw nw cw (lay (plan (secV k (V.mk kx nx tx [])))) ∧ Below W5.heap.size W5 wx)
              case first =>
                go_region_held3 (fun wx => ((wx.cell? ⟨w3.heap.size, 0, none⟩ = some (.int .u8 (kx : Int)) ∧ wx.cell? ⟨w3.heap.size, 1, none⟩ = some (.int .u64 (nx : Int)) ∧ wx.cell? ⟨w3.heap.size, 2, none⟩ = some (.string tx) ∧ wx.cell? ⟨w3.heap.size, 3, none⟩ = some (.slice Ax lx cx) ∧ ∀ i, wx.frozen? ⟨w3.heap.size, i, none⟩ = false) ∧ Below W5.heap.size W5 wx)) (with_reducible first | assumption | exact HCE.out _ hb0 | exact HCE.out _ hc1 | exact HCE.out _ hc2 | exact HCE.out _ hc3 | fail)
                  (first
                  | (go_at_call 24; (with_reducible refine (num_code K _).mono ?_); rintro e w6 ⟨rfl, hb6⟩; have hc1 := below_next hb0 hb6)
                  | (go_at_call 26; (with_reducible refine (desc_sec K kx nx tx Ax lx cx _ (by have := HKK.out; omega) HKX.out.1 HKX.out.2.1 HKX.out.2.2 (HSW.out.kd.call hc1)).mono ?_); rintro e w7 ⟨A7, l7, c7, rfl, hN7, hb7⟩; have hc2 := below_next hc1 hb7; have HKD7 := Lib.hid (HKK.out.symm ▸ Nw.kd hN7))
                  | (go_at_call 25; (with_reducible refine (enc_sec HOK.out HKX.out.2.2 A7 l7 c7 _ HKD7.out (HTB.out _ hc2)).mono ?_); rintro e w8 ⟨A8, m8, c8, rfl, hO8, hb8⟩; have hc3 := below_next hc2 hb8)
                  | fail)
                all_goals
                  go_wp2_with fail
                  go_meet
                  exact ⟨_, _, _, rfl, rfl, hO8.mono hc2.size, hc3⟩
              case rest =>
                obtain ⟨Aw, nw, cw, rfl, rfl, hOw, hBw⟩ := hcut
                rename World => W6
                have hnw : nw ≤ 200 := by have h1 := secO_len Z B q l j HBL.out; rw [HK.out, ← HXO.out, hOw.len] at h1; exact h1
                have HOW := Lib.hid hOw
                have HT6 := Lib.hid (HSW.out.two.call hBw)
                have HLT := Lib.hid hlt
                have HBS : Hid (bsO Z B q l (j + 1) = bsO Z B q l j ++ lay (plan (secV k (V.mk kx nx tx [])))) := Lib.hid (by rw [bsO_succ, HK.out, ← HXO.out])
                have HFN : Hid ((ordB 0 (ksO Z (j + 1)) = true ∧ ∀ i, i < j + 1 → ¬ BadO Z q l i) ↔ (f2 = true ∧ k ≠ 6 ∧ k ≠ 7 ∧ k ≠ 9 ∧ (la < (k : Int) ∨ (k = 5 ∧ la = 5)))) := Lib.hid (by
                  have h1 := HF.out
                  have h2 := HF2.out
                  have h3 := condO k (lastB 0 (ksO Z j))
                  have h4 := HLA.out
                  have h5 : (lastB 0 (ksO Z j) < k + 1 ∨ (k = 5 ∧ lastB 0 (ksO Z j) = 6)) ↔ (la < (k : Int) ∨ (k = 5 ∧ la = 5)) := by omega
                  rw [h5] at h3
                  rw [ordO_succ, HK.out, Bool.and_eq_true, h3, h2, h1]
                  constructor
                  · rintro ⟨⟨a, b⟩, c⟩
                    exact ⟨⟨⟨a, fun i hi => c i (by omega)⟩, c j (by omega)⟩, b⟩
                  · rintro ⟨⟨⟨a, c⟩, d⟩, b⟩
                    refine ⟨⟨a, b⟩, fun i hi => ?_⟩
                    by_cases e : i = j
                    · rw [e]; exact d
                    · exact c i (by omega))
                clear hOw hBw hKI hKw hkw hb0
                cases f2 with
                | false =>
                  go_wp2_with (at_builtin; refine wpList_app8at (base := W0.heap.size) rfl _ _ rfl rfl HT6.out.one rfl HOW.out.rd (by omega) HT6.out.low.size ?_; intro A9 c9 w9 hO9 hg9 hat9; have HT9 := Lib.hid (Two.fst HT6.out hO9 hg9 hat9))
                  go_roundw
                  case rel => exact ⟨j + 1, A9, n3 + nw, c9, A4', n4', c4', false, _, HLT.out, by go_num, rfl, rfl, rfl, rfl, by rw [lastO_succ, HK.out]; omega, by rw [HFN.out]; exact ⟨fun h => (by cases h), fun h => (by cases h.1)⟩, by rw [HBS.out]; exact HT9.out⟩
                  case measure => (have := HLT.out; simp [intOf]; omega)
                | true =>
                  go_wp2_with (at_builtin; refine wpList_app8at (base := W0.heap.size) rfl _ _ rfl rfl HT6.out.one rfl HOW.out.rd (by omega) HT6.out.low.size ?_; intro A9 c9 w9 hO9 hg9 hat9; have HT9 := Lib.hid (Two.fst HT6.out hO9 hg9 hat9))
                  all_goals
                    go_roundw
                    case rel => exact ⟨j + 1, A9, n3 + nw, c9, A4', n4', c4', _, _, HLT.out, by go_num, rfl, rfl, rfl, rfl, by rw [lastO_succ, HK.out]; omega, by rw [HFN.out]; first | (simp; omega) | (simp; done) | omega, by rw [HBS.out]; exact HT9.out⟩
                    case measure => (have := HLT.out; simp [intOf]; omega)
      case neg =>
        obtain rfl : j = l := by omega
        have hd0 : decide ((j : Int) < (j : Int)) = false := decide_eq_false (by omega)
        have HTB := Lib.hid (HTW.out.call hT.low)
        have HLW := Lib.hid (below_next HB0.out hT.low)
        have HGO := Lib.hid (get_ord (Z := Z) (B := B) (q := q) HBL.out HBY.out hl12)
        obtain ⟨W2, rfl⟩ : ∃ x, x = wr := ⟨_, rfl⟩
        clear hT hf hla hj hlt
        go_wp2_with fail
        go_loopw [12, 13] (fun s12 s13 wx => ∃ i : Nat, i ≤ j ∧ s13 = .int .i64 (i : Nat) ∧ s12 = .bool (any5 (ksO Z i)) ∧ wx = W2) (fun _ s _ => j - (intOf s).toNat)
        case atStart => exact ⟨0, by omega, rfl, rfl, rfl⟩
        case round =>
          obtain ⟨i, hi, rfl, rfl, rfl⟩ := hrel
          by_cases hil : i < j
          case pos =>
            obtain ⟨b0, o0, z, rfl, hb0, hz, hz256, hcell0⟩ := HRZ.out.at_ hil
            have hcell := (HTS.out.low.cell (p := ⟨b0, o0 + i, none⟩) hb0).trans hcell0
            have hkz : kO Z i = z % 10 := by unfold kO; rw [List.getD_eq_getElem?_getD, hz]; rfl
            obtain ⟨k, hk⟩ : ∃ k, kO Z i = k := ⟨_, rfl⟩
            have hk10 : k < 10 := by rw [← hk]; exact kO_lt Z i
            have hrem1 : (z : Int).tmod 10 = (k : Int) := by rw [Int.tmod_eq_emod_of_nonneg (by omega)]; omega
            have hrem2 : (z : Int) % 10 = (k : Int) := by omega
            have hiI : (i : Int) < (j : Int) := by omega
            have HAS := Lib.hid (anyO_succ Z i)
            have HK := Lib.hid hk
            clear hkz hcell0 hb0 hz hk
            cases hany : any5 (ksO Z i) with
            | true =>
              have HAN := Lib.hid hany
              clear hany
              go_wp2_with fail
              go_roundw
              case rel => exact ⟨i + 1, by omega, by go_num, by rw [HAS.out, HAN.out]; rfl, trivial⟩
              case measure => (simp [intOf]; omega)
            | false =>
              have HAN := Lib.hid hany
              clear hany
              by_cases h5 : k = 5
              · have e5 : ((k : Int) == 5) = true := by rw [beq_iff_eq]; omega
                have HA2 := Lib.hid (show any5 (ksO Z (i + 1)) = true by rw [HAS.out, HK.out, h5]; simp)
                clear h5
                go_wp2_with fail
                go_roundw
                case rel => exact ⟨i + 1, by omega, by go_num, by rw [HA2.out], trivial⟩
                case measure => (simp [intOf]; omega)
              · have e5 : ((k : Int) == 5) = false := by rw [beq_eq_false_iff_ne]; omega
                have HA2 := Lib.hid (show any5 (ksO Z (i + 1)) = false by rw [HAS.out, HK.out, HAN.out]; simp [h5])
                clear h5
                go_wp2_with fail
                go_roundw
                case rel => exact ⟨i + 1, by omega, by go_num, by rw [HA2.out], trivial⟩
                case measure => (simp [intOf]; omega)
          case neg =>
            obtain rfl : i = j := by omega
            have hd1 : decide ((i : Int) < (i : Int)) = false := decide_eq_false (by omega)
            clear hi hil
            cases f with
            | false =>
              have HG : Hid (getM (bsO Z B q i i) = none) := Lib.hid (by rw [HGO.out]; exact if_neg fun h => by have h1 := HF.out.2 h.1; cases h1)
              go_wp2_with (first
                | (go_at_call 11; (with_reducible refine (HWK.out _ H5.out.1).mono ?_); rintro e w6 ⟨rfl, hb6⟩)
                | (go_at_call 18; (with_reducible refine (get_no A3 n3 c3 _ _ HTS.out.one (Nat.le_trans hn3 (by omega)) HTB.out HG.out).mono ?_); rintro e w5 ⟨rfl, hb5⟩; have hb5a := hb5.alloc hb5.size (.cells #[.int .u8 0, .int .u32 0, .int .u32 0, .string ⟨#[]⟩, .slice none 0 0] 25); have H5 := Lib.hid (And.intro (HTB.out.call hb5a) (below_next HLW.out hb5a)))
                | fail)
              go_ret
              exact ⟨rfl, below_next H5.out.2 hb6⟩
            | true =>
              cases hany : any5 (ksO Z i) with
              | false =>
                have HG : Hid (getM (bsO Z B q i i) = none) := Lib.hid (by rw [HGO.out]; exact if_neg fun h => by rw [hany] at h; cases h.2)
                clear hany
                go_wp2_with (first
                  | (go_at_call 11; (with_reducible refine (HWK.out _ H5.out.1).mono ?_); rintro e w6 ⟨rfl, hb6⟩)
                  | (go_at_call 18; (with_reducible refine (get_no A3 n3 c3 _ _ HTS.out.one (Nat.le_trans hn3 (by omega)) HTB.out HG.out).mono ?_); rintro e w5 ⟨rfl, hb5⟩; have hb5a := hb5.alloc hb5.size (.cells #[.int .u8 0, .int .u32 0, .int .u32 0, .string ⟨#[]⟩, .slice none 0 0] 25); have H5 := Lib.hid (And.intro (HTB.out.call hb5a) (below_next HLW.out hb5a)))
                  | fail)
                go_ret
                exact ⟨rfl, below_next H5.out.2 hb6⟩
              | true =>
                have HG : Hid (getM (bsO Z B q i i) = some ⟨4, 0, 0, ⟨#[]⟩, whO Z B i⟩) := Lib.hid (by rw [HGO.out]; exact if_pos ⟨HF.out.1 rfl, hany⟩)
                clear hany
                go_wp2_with (first
                  | (go_at_call 11; (with_reducible refine (HWK.out _ (H5.out.1.call hb6)).mono ?_); rintro e w7 ⟨rfl, hb7⟩)
                  | (go_at_call 20; (with_reducible refine (same_4 A5 l5 c5 A4 n4 c4 (whO Z B i) _ HR5.out HR4.out).mono ?_); rintro e w6 ⟨rfl, hb6⟩)
                  | (go_at_call 18; (with_reducible refine (get_4 A3 n3 c3 _ _ HTS.out.one (Nat.le_trans hn3 (by omega)) HTB.out HG.out).mono ?_); rintro e w5 ⟨A5, l5, c5, rfl, hO5, hb5⟩; have hb5a := hb5.alloc hb5.size (.cells #[.int .u8 4, .int .u32 0, .int .u32 0, .string ⟨#[]⟩, .slice A5 l5 c5] 25); have H5 := Lib.hid (And.intro (HTB.out.call hb5a) (below_next HLW.out hb5a)); have HR4 := Lib.hid (HTS.out.two.rd.call hb5a); have HR5 := Lib.hid (hO5.rd.call ((Below.refl _ _).alloc (Nat.le_refl _) (.cells #[.int .u8 4, .int .u32 0, .int .u32 0, .string ⟨#[]⟩, .slice A5 l5 c5] 25))); obtain ⟨y0, y1, y2, y3, y4, yf⟩ := (BxM.new w5 (.int .u8 4) (.int .u32 0) (.int .u32 0) (.string ⟨#[]⟩) (.slice A5 l5 c5)).all; clear hb5 hb5a hO5)
                  | fail)
                go_ret
                exact ⟨rfl, below_next (below_next H5.out.2 hb6) hb7⟩
end Go.Proofs.YtneanfjcncdfdaaGreatDoor.messageOrder
end
section
namespace Go.Proofs.YtneanfjcncdfdaaGreatDoor.messageOrder
open Go.ChangeShapes Go.WideShapes Go.ChangeAt Go.RowKit Utf Val Fl Me
set_option maxRecDepth 100000 in
theorem lifted (os : Os) (started : os.Started) (H : Type) (enc : TypeId × Value → H) :
    ReturnsInHanded {} Tryz.checked os 7 .any (fun w args => (Rows.messageOrderSpec.pre enc Tryz.prog Tryz.f7 [] false w args ∧ laidMetH Tryz.prog laid w) ∧ sizedMet enc Tryz.prog Tryz.f7 (OpenSpec.ofChange Rows.messageOrderSpec) false w args)
      (Rows.messageOrderSpec.post enc Tryz.prog Tryz.f7 false true false false) := by
  refine returnsInHanded_of_change_and (C := Tryz.checked) (X := fun w _ => laidMetH Tryz.prog laid w) (fun _ _ _ hh h => h.of_heap hh) own started (by kernel_rfl) Tryz.func7
    (ChangeSpec.witness_shaped (enc := enc) (C := Tryz.checked) (os := os) (X := fun w _ => laidMetH Tryz.prog laid w) false (World.doorLaid Tryz.prog 400 os) #[.agg #[.slice none 0 0, .slice none 0 0, .bool false]] 8 rfl (World.shaped_of_RefB (by kernel_rfl) (by kernel_rfl)) (by kernel_rfl) (by kernel_rfl) (by kernel_rfl) (door_met os _)) ?_
  intro W base args ds gs before hval0 hW _ _ hL _
  have hval : ∀ (j : Nat) t v, Tryz.f7.params[j]? = some t → args[j]? = some v → Value.okWide Tryz.prog W .any base t v := hval0
  have hW' := hW
  obtain ⟨p, q, hA0, hV, rfl, hfz, hnd⟩ := hW
  have hA : DataW.TrodAll enc Tryz.prog W 0 (fun _ => true) true Tryz.f7.params.toList args.toList ds p := hA0
  rw [Tryz.params7] at hA hval
  obtain ⟨v0, vs0, d0, ds0, p0, q0, hargs, rfl, rfl, h0, r0⟩ := trodAll_cons hA
  obtain ⟨rfl, rfl, rfl⟩ := trodAll_nil r0
  obtain rfl : args = #[v0] := by cases args; simp_all
  obtain ⟨rfl, rfl⟩ := trodVars_none hV
  have hT := of_laid hL
  clear hA0 hval0
  simp only [List.append_nil] at hW'
  have hlt0 : ∀ x ∈ p0, x.block < W.heap.size := fun x hx => hW'.lt x (by simp [hx])
  obtain ⟨A0, l0, c0, b0, Az0, lz0, cz0, bz0, q0, rfl, hr0, hc0, hrz0, hcz0⟩ := open_some (hval 0 42 v0 rfl rfl) h0 hlt0
  refine (walk A0 l0 c0 b0 Az0 lz0 cz0 bz0 q0 W hT hr0 hc0.1 hrz0 hcz0.1).mono fun e W' ⟨he, hb⟩ => ?_
  subst he
  exact ⟨_, rfl, _, _, _, [], _, [], hW', trodAll_mk1 (shut_bool Tryz.underlying4 _), trodAll_cons_mk (Below.trod laidOut (by kernel_rfl) (of_decide_eq_true (by kernel_rfl)) h0 hb hlt0) trodAll_mk0, rfl, hb.frame _, fun h => by cases h⟩
theorem over : Rows.messageOrderRow.holds Tryz.pinned (OpenSpec.ofChange Rows.messageOrderSpec) :=
  OpenClaim.holds_of_wide 7 Tryz.f7 rfl rfl rfl rfl rfl rfl rfl ⟨rfl, rfl, rfl, rfl, rfl⟩ rfl rfl rfl rfl rfl (by kernel_rfl) Tryz.func7 (by kernel_rfl)
    (of_decide_eq_true (by kernel_rfl)) (by unfold Func.isWrapper; first | (rw [if_pos (by decide +kernel)]; kernel_rfl) | (rw [if_neg (by decide +kernel)]; exact ⟨rfl, rfl⟩))
    (fun os started H enc _ => lifted os started H enc)
/-- The statement: the tied card. -/
theorem proved : Rows.MessageOrderCardSaid :=
  Claim7.holds_tied_plain_at .later [] [.data] true (true, "87c33a7d3582da8a5da947ba8d09e4eeceb7658fff2c93924d2f067bac9606cc") true
    over (fun _ h => by cases h) (by kernel_rfl) (fun _ h => by cases h) messageOrder_row_tie rfl ⟨rfl, rfl⟩ (by kernel_rfl) rfl
    (fun f fn hf hfn => by
      obtain rfl : f = 7 := Option.some.inj ((show Tryz.prog.funcNamed "bellwether/bellwetherlaw10.MessageOrder" = some 7 by kernel_rfl).symm.trans hf) |>.symm
      obtain rfl : fn = Tryz.f7 := (Option.some.inj (Tryz.func7.symm.trans hfn)).symm
      exact ⟨by kernel_rfl, fun j t ht => by
        rw [Tryz.params7] at ht
        have hm : t ∈ [42] := by simpa using Array.mem_of_getElem? ht
        have hall : ([42].all fun u => !Tryz.prog.wantsStandIn u) = true := by kernel_rfl
        exact (show Tryz.prog.wantsStandIn t = false by simpa using List.all_eq_true.1 hall t hm)⟩)
    (by kernel_rfl)
end Go.Proofs.YtneanfjcncdfdaaGreatDoor.messageOrder
end
