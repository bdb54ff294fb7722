/-
  Contract of what value.keys answers: a map's keys, each with what it has, one by one. Condition: the map's kids lie in memory that no round turns.
-/
import Derived.RangeFuncNested
import Derived.RangeFuncBound
import Derived.RangeFuncCalls
import Derived.RangeFuncLeaves
import Derived.RangeFuncBox
import Derived.Shelf.Abstract
import Derived.Shelf.RegionOpen
import Derived.WalkKit
import Derived.OwnWalkIn
import Derived.TacticsInMore
import Derived.LoopNIn
import Derived.LoopIn
import Derived.RegionIn
import Derived.Test.YtohmnbefokhjpaaDoorSpec
import Derived.Test.YtohmnbefokhjpaaDoorFoldm
namespace Go.Proofs.YtohmnbefokhjpaaDoor.Val
set_option maxRecDepth 100000
open Go.RowKit Go.Shelf Go.Proofs.YtohmnbefokhjpaaDoor.Utf V
attribute [local go_sem] Oper.semAt_some

/-- A value as it is handed on: where its kids lie. -/
structure LV where
  k : Nat
  n : Nat
  t : ByteArray
  A : Option Addr
  l : Nat
  c : Nat
  ks : List V
def LV.val (x : LV) : Value := .agg #[.int .u8 x.k, .int .u64 x.n, .string x.t, .slice x.A x.l x.c]
def LV.v (x : LV) : V := .mk x.k x.n x.t x.ks
def LV.ok (w : World) (B : Nat) (x : LV) : Prop := x.k < 256 ∧ x.n < 18446744073709551616 ∧ bulkL x.ks ≤ 1073741824 ∧ Kids false w (fun i => i < B) x.ks x.A x.l x.c
/-- A key and what it has. -/
abbrev KV (w : World) (B : Nat) : Type := { p : LV × LV // p.1.ok w B ∧ p.2.ok w B }
def KV.vs {w : World} {B : Nat} (p : KV w B) : V × V := (p.1.1.v, p.1.2.v)

set_option maxHeartbeats 1000000 in
theorem keys_in (F : Fence) (n : Nat) (h6 : F.fn 64) (hro : F.round = none) (k m : Nat) (t : ByteArray) (A : Option Addr) (l c : Nat) (w : World) :
    CallsIn F n Tryd.prog 64 #[.agg #[.int .u8 k, .int .u64 m, .string t, .slice A l c]] w fun e w' => e = .returned (.func (.func 67) #[] #[.pointer (some ⟨w.heap.size, 0, none⟩)]) ∧ w.alloc (.cells #[.int .u8 k, .int .u64 m, .string t, .slice A l c] 27) = w' := by
  refine callsIn_of_wp Tryd.func64 rfl h6 ?_ hro
  simp only [Tryd.ntmps64, List.size_toArray, List.length_cons, List.length_nil, Nat.reduceAdd, Nat.reduceSub, Array.replicate_succ, Array.replicate_zero, List.push_toArray, List.append_toArray, List.nil_append, List.cons_append]
  gi_wp2
  go_ret
  exact ⟨rfl, rfl⟩

theorem iter_drew (w : World) : w.grownBy w.drew none := ⟨rfl, rfl, rfl, Nat.le_refl _, fun _ _ _ => rfl⟩
theorem kid_small {l : List V} {i : Nat} {k n : Nat} {t : ByteArray} {ks : List V} (h : bulkL l ≤ 1073741824) (hx : l[i]? = some (.mk k n t ks)) : bulkL ks ≤ 1073741824 := by
  have h1 := at_bulk hx
  have h2 := kids_bulk (.mk k n t ks)
  simp only [kids] at h2
  omega
theorem drop_small {l : List V} {i : Nat} (h : bulkL l ≤ 1073741824) : bulkL (l.drop i) ≤ 1073741824 := by
  have := bulkL_append (l.take i) (l.drop i)
  rw [List.take_append_drop] at this
  omega
theorem Kids.drop2 {own : Bool} {w : World} {P : Nat → Prop} {ks : List V} {b o l c : Nat} (h : Kids own w P ks (some ⟨b, o, none⟩) l c) (h2 : l ≥ 2) :
    Kids own w P (ks.drop 2) (if c = 2 then some ⟨b, o, none⟩ else some ⟨b, o + 8, none⟩) (l - 2) (c - 2) := by
  have hc := h.cap
  have hl := h.len
  refine ⟨by simp; omega, by omega, fun h0 => ?_⟩
  rw [if_neg (by omega)]
  obtain ⟨b', o', e, hP, ho, hr⟩ := h.2.2 (by omega)
  simp only [Option.some.injEq, Addr.mk.injEq, and_true] at e
  obtain ⟨rfl, rfl⟩ := e
  refine ⟨b, o + 8, rfl, hP, ho, ?_⟩
  match ks, hl, hr with
  | [], hl, _ => simp at hl; omega
  | [_], hl, _ => simp at hl; omega
  | _ :: _ :: r, _, hr => exact hr.2.2
theorem pairs_more {w : World} {B : Nat} {l : List (V × V)} {pre : List (KV w B)} {r : List (V × V)} {q : List (V × V)} {x : KV w B} (h : l = pre.map KV.vs ++ q) (hq : q = KV.vs x :: r) : l = (pre ++ [x]).map KV.vs ++ r := by
  subst hq; rw [h]; simp
theorem pre_more {w : World} {B : Nat} {l : List (V × V)} {pre : List (KV w B)} {r : List (V × V)} {q : List (V × V)} {x : KV w B} (h : l = pre.map KV.vs ++ q) (hq : q = KV.vs x :: r) : (pre ++ [x]).map KV.vs <+: l := 
  ⟨r, (pairs_more h hq).symm⟩

theorem one_way {e : Ending} {X Y : Prop} (h : (e = .returned (.bool true) ∧ X) ∨ (e = .returned (.bool false) ∧ Y)) : ∃ p : Bool, e = .returned (.bool p) ∧ (p = true → X) ∧ (p = false → Y) := by
  rcases h with ⟨h, hx⟩ | ⟨h, hy⟩
  · exact ⟨true, h, fun _ => hx, fun h => by cases h⟩
  · exact ⟨false, h, fun h => (by cases h), fun _ => hy⟩
set_option maxRecDepth 100000 in
set_option maxHeartbeats 400000 in
theorem iter_in (F : Fence) (n : Nat) (h6 : F.fn 67) (hro : F.round = none) (hn : 1 ≤ n) (L Bn B : Nat) (w : World) (ks : List V) (A : Option Addr) (l c : Nat) (hN : bulkL ks ≤ 1073741824) (hK : Kids false w (fun i => i < B) ks A l c) (J Jx : List (KV w B) → World → Prop) (hJd : ∀ pre W, J pre W → J pre W.drew)
    (hY : ∀ pre x W, J pre W → pre.length < (pairsL ks).length → YieldAt F (n - 1) Tryd.prog L #[x.1.1.val, x.1.2.val] W fun e W' =>
      (e = .returned (.bool true) ∧ J (pre ++ [x]) W' ∧ Below B W W') ∨ (e = .returned (.bool false) ∧ Jx (pre ++ [x]) W'))
    (W : World) (hBn : W.cell? ⟨Bn, 3, none⟩ = some (.slice A l c)) (hL : Below B w W) (h0 : J [] W) :
    CallsIn F n Tryd.prog 67 #[.func (.yield L) #[] #[], .pointer (some ⟨Bn, 0, none⟩)] W fun e W' => (∃ v, e = .returned v) ∧
      ((∃ ys : List (KV w B), ys.map KV.vs = pairsL ks ∧ J ys W') ∨ (∃ pre : List (KV w B), pre.map KV.vs <+: pairsL ks ∧ Jx pre W')) := by
  refine callsIn_of_wp Tryd.func67 rfl h6 ?_ hro
  obtain ⟨ffn, frd, fex⟩ := F
  dsimp only at hro
  subst hro
  simp only [Tryd.ntmps67, List.size_toArray, List.length_cons, List.length_nil, Nat.reduceAdd, Nat.reduceSub, Array.replicate_succ, Array.replicate_zero, List.push_toArray, List.append_toArray, List.nil_append, List.cons_append]
  gi_wp2
  gi_loopw [3] (fun p wr => ∃ (pre : List (KV w B)) (rest : List V) (A1 : Option Addr) (l1 c1 : Nat), p = .slice A1 l1 c1 ∧ pairsL ks = pre.map KV.vs ++ pairsL rest ∧ bulkL rest ≤ 1073741824 ∧ Kids false w (fun i => i < B) rest A1 l1 c1 ∧ J pre wr ∧ Below B w wr) (fun p _ => lenOf p)
  case atStart => exact ⟨[], ks, A, l, c, rfl, rfl, hN, hK, h0, hL⟩
  case round =>
    obtain ⟨pre, rest, A1, l1, c1, rfl, hp, hN1, hK1, hJ, hb⟩ := hrel
    have HP := Lib.hid hp
    clear hp
    rcases Nat.lt_or_ge l1 2 with h2 | h2
    · have hr : pairsL rest = [] := by
        have := hK1.len
        match rest, this with
        | [], _ => rfl
        | [_], _ => rfl
        | _ :: _ :: _, h => simp at h; omega
      have HR := Lib.hid hr
      clear hr
      gi_wp2
      go_end0
      exact ⟨⟨_, rfl⟩, .inl ⟨pre, by rw [HP.out, HR.out, List.append_nil], hJ⟩⟩
    · obtain ⟨b, o, k1, n1, t1, ks1, B1, m1, d1, rfl, hb1, hx, a0, a1, a2, a3, a4, a5, aK⟩ := Kids.at_ hK1 (i := 0) (by omega)
      obtain ⟨b', o', k2, n2, t2, ks2, B2, m2, d2, hAe, hb2, hy, v0, v1, v2, v3, v4, v5, vK⟩ := Kids.at_ hK1 (i := 1) (by omega)
      simp only [Option.some.injEq, Addr.mk.injEq, and_true] at hAe
      obtain ⟨rfl, rfl⟩ := hAe
      simp only [Nat.zero_mul, Nat.add_zero, Nat.one_mul] at a0 a1 a2 a3 v0 v1 v2 v3
      have hrest : rest = .mk k1 n1 t1 ks1 :: .mk k2 n2 t2 ks2 :: rest.drop 2 := by
        have e1 := drop_at hx
        have e2 := drop_at hy
        rw [List.drop_zero] at e1
        rw [e2] at e1
        exact e1
      have hpr : pairsL rest = (.mk k1 n1 t1 ks1, .mk k2 n2 t2 ks2) :: pairsL (rest.drop 2) := by conv => lhs; rw [hrest, pairsL]
      obtain ⟨x, hx1, hx2, hxv⟩ : ∃ x : KV w B, x.1.1.val = .agg #[.int .u8 (k1 : Int), .int .u64 (n1 : Int), .string t1, .slice B1 m1 d1] ∧ x.1.2.val = .agg #[.int .u8 (k2 : Int), .int .u64 (n2 : Int), .string t2, .slice B2 m2 d2] ∧ KV.vs x = (.mk k1 n1 t1 ks1, .mk k2 n2 t2 ks2) :=
        ⟨⟨(⟨k1, n1, t1, B1, m1, d1, ks1⟩, ⟨k2, n2, t2, B2, m2, d2, ks2⟩), ⟨a4, a5, kid_small hN1 hx, aK⟩, ⟨v4, v5, kid_small hN1 hy, vK⟩⟩, rfl, rfl, rfl⟩
      rw [← hxv] at hpr
      obtain ⟨fn, tmps, assign, body, hy1, hR⟩ := hY pre x wr.drew (hJd _ _ hJ) (by rw [HP.out, hpr]; simp)
      have HPR := Lib.hid hpr
      rw [hx1, hx2] at hy1
      clear hx1 hx2 hxv
      have HR1 := Lib.hid hR
      have HY := Lib.hid @hY
      clear hR hY hJ
      clear hx hy hrest hpr
      have a0' := (hb.cell (p := ⟨b, o, none⟩) hb1).trans a0
      have a1' := (hb.cell (p := ⟨b, o + 1, none⟩) hb1).trans a1
      have a2' := (hb.cell (p := ⟨b, o + 2, none⟩) hb1).trans a2
      have a3' := (hb.cell (p := ⟨b, o + 3, none⟩) hb1).trans a3
      have v0' := (hb.cell (p := ⟨b, o + 4, none⟩) hb1).trans v0
      have v1' := (hb.cell (p := ⟨b, o + 4 + 1, none⟩) hb1).trans v1
      have v2' := (hb.cell (p := ⟨b, o + 4 + 2, none⟩) hb1).trans v2
      have v3' := (hb.cell (p := ⟨b, o + 4 + 3, none⟩) hb1).trans v3
      clear a0 a1 a2 a3 v0 v1 v2 v3
      gi_wp2_with fail
      have hmx : Tryd.prog.follows .mixedOrders = true := by kernel_rfl
      have HB := Lib.hid hb
      have HN := Lib.hid (drop_small (i := 2) hN1)
      clear hN1
      have HK := Lib.hid hK1
      clear hb hK1
      gi_region_with_o ((with_reducible (refine RoundIn.mono HR1.out ?_)); intro e W3 hpo; obtain ⟨p, hpe, hpp⟩ := one_way hpo; subst hpe; have HPP := Lib.hid hpp; clear hpp hpo hy1 HR1)
      all_goals cases p
      all_goals (gi_wp2_with fail)
      all_goals try
          (have HJ := HPP.out.1 (by first | exact trivial | rfl)
           obtain ⟨hJ3, hb3⟩ := HJ
           refine ⟨⟨pre ++ [x], rest.drop 2, _, _, _, rfl, pairs_more HP.out HPR.out, HN.out, Kids.drop2 HK.out h2, hJ3, (HB.out.drew).trans hb3⟩, ?_⟩
           simp only [lenOf]
           omega)
      all_goals refine bodyPost_ret (results_none rfl _ _ _) rfl ?_
      all_goals exact ⟨⟨_, rfl⟩, .inr ⟨pre ++ [x], pre_more HP.out HPR.out, HPP.out.2 (by first | exact trivial | rfl)⟩⟩

theorem iter_stops (F : Fence) (n : Nat) (h6 : F.fn 67) (hro : F.round = none) (hn : 1 ≤ n) (Bn B : Nat) (w : World) (ks : List V) (A : Option Addr) (l c : Nat) (hN : bulkL ks ≤ 1073741824) (hK : Kids false w (fun i => i < B) ks A l c)
    (hB : B ≤ w.heap.size) (hb : Bn < w.heap.size) (hc : w.cell? ⟨Bn, 3, none⟩ = some (.slice A l c)) :
    SeqStopsK F n Tryd.prog 67 #[.pointer (some ⟨Bn, 0, none⟩)] (fun x : KV w B => #[x.1.1.val, x.1.2.val]) (Below B) (fun ys => ys.map KV.vs = pairsL ks) (fun pre => pre.map KV.vs <+: pairsL ks) (pairsL ks).length w := fun L J Jx W hW hJ _ hY h0 =>
  iter_in F n h6 hro hn L Bn B w ks A l c hN hK J Jx (fun pre W1 h => hJ pre W1 W1.drew none h (iter_drew W1) (fun r e => by cases e)) hY W ((hW.cell (p := ⟨Bn, 3, none⟩) hb).trans hc) (hW.mono hB) h0
end Go.Proofs.YtohmnbefokhjpaaDoor.Val
