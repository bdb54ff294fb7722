/-
  What is on its way between two windows: rows of transfers and flows in memory; the law's come. No other condition.
-/
import Derived.Test.YtppcfkcnaaflgaaWnk
import Derived.Deep.AppendLies
import Derived.Deep.AppendSrc
import Derived.Deep.Upon
namespace Go.Proofs.Ytppcfkcnaaflgaa.Wn
set_option maxRecDepth 100000
open Go.RowKit Go.Proofs.Ytppcfkcnaaflgaa.Utf Go.Proofs.Ytppcfkcnaaflgaa.Ob

/-- The cells of one that is on its way. -/
def itv (x : It) : List Value := [.bool x.flow, .int .u32 (x.n : Int), .int .u32 (x.g : Int), .int .u32 (x.o : Int)]
def itc (q : List It) : List Value := q.flatMap itv
theorem itc_len (q : List It) : (itc q).length = q.length * 4 := by
  induction q with
  | nil => rfl
  | cons x q ih => simp only [itc, List.flatMap_cons, List.length_append, List.length_cons] at ih ⊢; rw [ih]; simp [itv]; omega
theorem one_itc (q : List It) : ∀ u ∈ itc q, u.oneCell' = true := by
  intro u hu
  simp only [itc, List.mem_flatMap, itv] at hu
  obtain ⟨x, _, hx⟩ := hu
  simp at hx
  rcases hx with rfl | rfl | rfl | rfl <;> rfl
theorem itc_cons (x : It) (q : List It) : itc (x :: q) = itv x ++ itc q := by simp [itc]
theorem itc_app (p q : List It) : itc (p ++ q) = itc p ++ itc q := by simp [itc]
theorem infoS : (Try.prog.info? 46).map (fun i => (i.zero, i.size, i.bytes)) = some (some (.agg #[.bool false, .int .u32 0, .int .u32 0, .int .u32 0]), 4, 16) := by kernel_rfl
/-- A row of one's own of these. -/
def Rown (w : World) (B : Nat) (A : Option Addr) (c : Nat) (q : List It) : Prop := w.ownsRow B 46 4 (.slice A q.length c) q.length (itc q)
theorem Rown.block {w : World} {B : Nat} {A : Option Addr} {c : Nat} {q : List It} (h : Rown w B A c q) {a : Addr} (ha : A = some a) : B ≤ a.block ∧ a.block < w.heap.size := h.lt a.block (by subst ha; rfl)
theorem Rown.off {X : Nat → Prop} {w w' : World} {B : Nat} {A : Option Addr} {c : Nat} {q : List It} (h : Rown w B A c q) (ho : Off X w w') (hx : ∀ a, A = some a → ¬ X a.block) : Rown w' B A c q := by
  refine ⟨h.1, ?_⟩
  rcases h.2 with h1 | ⟨g, cap, cur, h1, h2, h3, h4⟩
  · exact .inl h1
  · refine .inr ⟨g, cap, cur, h1, h2, (ho.block g (Array.getElem?_eq_some_iff.1 h3).1 ?_).trans h3, h4⟩
    injection h1 with h1 _ _
    exact hx _ h1
theorem Rown.call {w w' : World} {B : Nat} {A : Option Addr} {c : Nat} {q : List It} (h : Rown w B A c q) (hb : Below w.heap.size w w') : Rown w' B A c q := h.off (X := fun _ => False) (Off.of _ hb) (fun _ _ h => h)
theorem off_grown {w w' : World} {g : Nat} (h : w.grownBy w' (some g)) : Off (fun i => i = g) w w' := ⟨h.os, h.tape, h.output, h.size, fun i hi hx => h.block i hi fun e => hx (by injection e)⟩
theorem setCell_at {w w' : World} {t j : Nat} {v : Value} (h : w'.heap[t]? = w.heap[t]?) : (w'.setCell ⟨t, j, none⟩ v).heap[t]? = (w.setCell ⟨t, j, none⟩ v).heap[t]? := by simp [World.setCell, Array.getElem?_modify, h]
def comeW (W : Wn) (x : It) : Wn := if x.flow = true then toldW W (x.n : Int) x.g x.o else gotW W
def comeB (W : Wn) (x : It) : Bool := if x.flow = true then true else gotB W
/-- What come leaves behind the first one. -/
def GivesCome (b t j : Nat) (W : Wn) (x : It) (q : List It) (w : World) (e : Ending) (w' : World) : Prop :=
  e = .returned (.bool (comeB W x)) ∧ ∃ A c, Win w' b (comeW W x) ∧ w'.heap[t]? = (w.setCell ⟨t, j, none⟩ (.slice A q.length c)).heap[t]? ∧ Rown w' w.heap.size A c q ∧ Off (fun i => i = b ∨ i = t) w w'
theorem cut_1 (g n c : Nat) (hn : 1 ≤ n) : ∃ A1 c1, (∀ (W : World), (Instr.slice 41 (.slice (some ⟨g, 0, none⟩) n c) (some (.int .i64 1)) none none).run Try.prog W = .ok (.slice A1 (n - 1) c1) W) ∧ (∀ (W : World), (Instr.sliceAt 41 (.slice (some ⟨g, 0, none⟩) n c) (some (.int .i64 1)) none none).run Try.prog W = .ok (.slice A1 (n - 1) c1) W) ∧ (1 < c → A1 = some ⟨g, 4, none⟩) ∧ ∃ a, A1 = some a := by
  have h1 : ∀ (W : World), (Instr.slice 41 (.slice (some ⟨g, 0, none⟩) n c) (some (.int .i64 1)) none none).run Try.prog W = .ok (.slice (if c = 1 then some ⟨g, 0, none⟩ else some ⟨g, 4, none⟩) (n - 1) (c - 1)) W := fun W => by
    rw [run_slice_l (P := Try.prog) (w := W) 41 (some ⟨g, 0, none⟩) n c Try.underlying41 .i64 (1 : Int) (by omega) (by omega)]
    rw [show Try.prog.elem 41 = 46 by kernel_rfl]
    rw [show (sizeOf 46).run Try.prog W = .ok 4 W by obtain ⟨i0, hi, hz0, hz1, hz2⟩ := info_parts infoS; simp [sizeOf, typeInfo, hi, hz1]]
    simp only [Result.andThen, sliced]
    split <;> (rename_i hh; simp only [Int.toNat_one] at hh; simp [Addr.add, hh])
  refine ⟨_, _, h1, fun W => ?_, fun hc1 => if_neg (by omega), ?_⟩
  · rw [run_sliceAt_slice (P := Try.prog) (w := W) 41 _ _ _ _ Try.underlying41]; exact h1 W
  · split <;> exact ⟨_, rfl⟩
theorem rown_of {w : World} {B g k : Nat} {q : List It} (h : w.ownsRow B 46 4 (.slice (some ⟨g, 0, none⟩) (0 + q.length) k) (0 + q.length) ([] ++ itc q)) : Rown w B (some ⟨g, 0, none⟩) k q := by
  rw [Nat.zero_add, List.nil_append] at h
  exact h
/-- append of nothing. -/
theorem wpList_nothing {w : World} {ops : Array Oper} {rest : List Oper} {o : Oper} {a : Act} {Q : Exit → Act → World → Prop} (hgd : o.guard = none) (s x : Operand) (ho : o.op = .call { callee := .builtin .append, args := #[s, x], argTypes := #[41, 41] })
    {A : Option Addr} {n c k : Nat} {ad : Addr} (hs : a.eval s = .slice A n c) (hnc : n ≤ c) (hx : a.eval x = .slice (some ad) 0 k) (hK : wpList Try.prog ops Q rest (a.put o.dst (.slice A n c)) w) : wpList Try.prog ops Q (o :: rest) a w := by
  refine wpList_plain hgd fun KK hK' => ?_
  obtain ⟨i0, hi, hz0, hz1, hz2⟩ := info_parts infoS
  have hr := run_append_nothing (P := Try.prog) w 41 41 o.type 46 i0 Try.underlying41 hi A n c hnc (.slice (some ad) 0 k) (Src.ofSlice w Try.underlying41 ad 0 k [] (by simp) (fun j u h => by simp at h) (fun u h => by simp at h))
  unfold Oper.wp execOp
  simp only [ho, resolve, invoke, builtin, Sem.run_bind, Sem.run_pure, Result.andThen_ok, List.map_toArray, List.map_cons, List.map_nil, hs, hx, hr]
  exact hK' _ _ hK
theorem come_end {w W2 w3 w4 w5 : World} {b t j g6 : Nat} {W : Wn} {x : It} {q : List It} {A : Option Addr} {k : Nat} {v : Bool} (hv : comeB W x = v) (hb : Below w.heap.size w W2) (o3 : Off (fun i => i = g6) W2 w3) (hg6 : w.heap.size ≤ g6) (e4 : w3.setCell ⟨t, j, none⟩ (.slice A q.length k) = w4) (o5 : Off (fun i => i = b) w4 w5) (h5 : Win w5 b (comeW W x)) (own : Rown w3 w.heap.size A k q) (ht : t < w.heap.size) (hbl : b < w.heap.size) (hne : ¬ b = t) :
    GivesCome b t j W x q w (.returned (.bool v)) w5 := by
  subst e4 hv
  have h3 : w3.heap[t]? = w.heap[t]? := (o3.block t (Nat.lt_of_lt_of_le ht hb.size) (fun e => by omega)).trans (hb.block t ht)
  have s4 : w3.heap.size ≤ (w3.setCell ⟨t, j, none⟩ (.slice A q.length k)).heap.size := by simp
  have o4 := Off.set (X := fun i => i = t) (g := t) w3 j (.slice A q.length k) rfl
  refine ⟨rfl, A, k, h5, ?_, (own.off o4 fun a ha e => by have := own.block ha; omega).off o5 (fun a ha e => by have := own.block ha; omega), ?_⟩
  · rw [o5.block t (Nat.lt_of_lt_of_le (Nat.lt_of_lt_of_le ht hb.size) (Nat.le_trans o3.size s4)) (fun e => hne e.symm)]
    exact setCell_at h3
  · have o3' : Off (fun i => i = b ∨ i = t) w w3 := ⟨o3.os.trans hb.os, o3.tape.trans hb.tape, o3.output.trans hb.output, Nat.le_trans hb.size o3.size, fun i hi _ => (o3.block i (Nat.lt_of_lt_of_le hi hb.size) (fun e => by omega)).trans (hb.block i hi)⟩
    exact (o3'.trans (o4.mono fun i _ e => Or.inr e)).trans (o5.mono fun i _ e => Or.inl e)
section
variable {w w' : World} {b t j : Nat} {W : Wn}
theorem come_nil (A : Option Addr) (c : Nat) (w : World) (hc : w.cell? ⟨t, j, none⟩ = some (.slice A 0 c)) : Calls Try.prog 19 #[.pointer (some ⟨b, 0, none⟩), .pointer (some ⟨t, j, none⟩)] w fun e w' => e = .returned (.bool true) ∧ w = w' := by
  go_enter Try.func19, Try.ntmps19
  go_wp2
  go_ret
  exact ⟨rfl, rfl⟩
set_option maxHeartbeats 2000000 in
theorem come_one (x : It) (q : List It) (A : Option Addr) (c B : Nat) (w : World) (h : Win w b W) (ht : t < w.heap.size) (hne : ¬ b = t) (hc : w.cell? ⟨t, j, none⟩ = some (.slice A (q.length + 1) c)) (hf : w.frozen? ⟨t, j, none⟩ = false) (hr : Rown w B A c (x :: q)) (hq : q.length ≤ 1000) (hxn : x.n < 4294967296) (hxg : x.g < 4294967296) (hxo : x.o < 4294967296) :
    Calls Try.prog 19 #[.pointer (some ⟨b, 0, none⟩), .pointer (some ⟨t, j, none⟩)] w (GivesCome b t j W x q w) := by
  have hr' : w.ownsRow B 46 4 (.slice A (q.length + 1) c) (q.length + 1) (itc (x :: q)) := hr
  obtain ⟨g, cap, e, hg1, hg2⟩ := hr'.form (by omega)
  injection e with e1 _ e2
  subst e1 e2
  obtain ⟨fl, hfl⟩ : ∃ fl, x.flow = fl := ⟨_, rfl⟩
  have c0 : w.cell? ⟨g, 0, none⟩ = some (.bool x.flow) := by rw [World.ownsRow.cellAt hr' 0 (by omega), itc_cons]; rfl
  have c1 : w.cell? ⟨g, 1, none⟩ = some (.int .u32 (x.n : Int)) := by rw [World.ownsRow.cellAt hr' 1 (by omega), itc_cons]; rfl
  have c2 : w.cell? ⟨g, 2, none⟩ = some (.int .u32 (x.g : Int)) := by rw [World.ownsRow.cellAt hr' 2 (by omega), itc_cons]; rfl
  have c3 : w.cell? ⟨g, 3, none⟩ = some (.int .u32 (x.o : Int)) := by rw [World.ownsRow.cellAt hr' 3 (by omega), itc_cons]; rfl
  have hcap : q.length + 1 ≤ c := by
    rcases hr'.2 with ⟨e, _⟩ | ⟨_, _, _, e, _, _, h4, _⟩
    · cases e
    · injection e with _ _ e; omega
  obtain ⟨A1, k1, hs1, hs2, hA1, a1, hA2⟩ := cut_1 g (q.length + 1) c (by omega)
  obtain ⟨W2, g5, g6, hW2, hg5, hg6, b2, o6, hx5⟩ : ∃ W2 g5 g6, ((w.alloc (.cells #[.bool x.flow, .int .u32 (x.n : Int), .int .u32 (x.g : Int), .int .u32 (x.o : Int)] 46)).alloc (.cells #[] 46)) = W2 ∧ w.heap.size = g5 ∧ g5 + 1 = g6 ∧ Below w.heap.size w W2 ∧ W2.ownsRow w.heap.size 46 4 (.slice (some ⟨g6, 0, none⟩) 0 0) 0 [] ∧ W2.heap[g5]? = some (.cells #[.bool x.flow, .int .u32 (x.n : Int), .int .u32 (x.g : Int), .int .u32 (x.o : Int)] 46 (0, 0)) := by
    refine ⟨_, _, _, rfl, rfl, rfl, ba (ba (Below.refl _ _) _) _, ?_, ?_⟩
    · have := World.ownsRow_lit (base := w.heap.size) (e := 46) (size := 4) (w.alloc (.cells #[.bool x.flow, .int .u32 (x.n : Int), .int .u32 (x.g : Int), .int .u32 (x.o : Int)] 46)) #[] 0 (by simp) (by unfold maxLen; omega) rfl
      simpa using this
    · have hb : Below (w.alloc (.cells #[.bool x.flow, .int .u32 (x.n : Int), .int .u32 (x.g : Int), .int .u32 (x.o : Int)] 46)).heap.size (w.alloc (.cells #[.bool x.flow, .int .u32 (x.n : Int), .int .u32 (x.g : Int), .int .u32 (x.o : Int)] 46)) ((w.alloc (.cells #[.bool x.flow, .int .u32 (x.n : Int), .int .u32 (x.g : Int), .int .u32 (x.o : Int)] 46)).alloc (.cells #[] 46)) := ba (Below.refl _ _) _
      rw [hb.block _ (by simp)]
      exact heap_alloc_new _ _
  have hv1 : comeW W x = if fl = true then toldW W (x.n : Int) x.g x.o else gotW W := by rw [← hfl]; rfl
  have hv2 : comeB W x = if fl = true then true else gotB W := by rw [← hfl]; rfl
  rw [hfl] at c0 hx5 hW2
  have HV := Lib.hid (And.intro hv1 hv2)
  have HR := Lib.hid hr
  have t2 : W2.cell? ⟨t, j, none⟩ = some (.slice (some ⟨g, 0, none⟩) (q.length + 1) c) := (b2.cell (p := ⟨t, j, none⟩) ht).trans hc
  have hwr : wrap64 (x.n : Int) = (x.n : Int) := by unfold wrap64; omega
  have dn : (((q.length + 1 : Nat) : Int) == 0) = false := by simp; omega
  have en : q.length + 1 - 1 = q.length := by omega
  rw [en] at hs1 hs2
  have O6 := Lib.hid o6
  have HT := Lib.hid ht
  have HH := Lib.hid h
  have HF := Lib.hid hf
  have HB2 := Lib.hid b2
  have HX5 := Lib.hid hx5
  have HG : Hid (g5 < W2.heap.size ∧ ¬ g5 = t ∧ ¬ g6 = t ∧ ¬ g5 = g6 ∧ w.heap.size ≤ g5 ∧ w.heap.size ≤ g6 ∧ ¬ b = g6 ∧ ¬ b = g5) := Lib.hid ⟨(Array.getElem?_eq_some_iff.1 hx5).1, by omega, by omega, by omega, by omega, by omega, by have := h.lt; omega, by have := h.lt; omega⟩
  clear hr hr' h o6 b2 hx5 hf hfl hv1 hv2
  obtain ⟨n, hn⟩ : ∃ n, q.length + 1 = n := ⟨_, rfl⟩
  rw [hn] at hc dn t2 hs1 hs2
  by_cases q0 : q.length = 0
  · obtain rfl : q = [] := List.eq_nil_of_length_eq_zero q0
    subst hA2
    simp only [List.length_nil] at hs1 hs2
    have hb3 := HB2.out.block t HT.out
    have f3 := (World.frozen?_of_block (a := ⟨t, j, none⟩) hb3).trans HF.out
    have d0 := cell_of_row W2 g5 0 _ _ _ HX5.out
    have d1 := cell_of_row W2 g5 1 _ _ _ HX5.out
    have d2 := cell_of_row W2 g5 2 _ _ _ HX5.out
    have d3 := cell_of_row W2 g5 3 _ _ _ HX5.out
    simp only [List.getElem?_toArray, List.getElem?_cons_zero, List.getElem?_cons_succ] at d0 d1 d2 d3
    have H3 := (HH.out.call HB2.out).off (set1 W2 t j (.slice (some ⟨g6, 0, none⟩) 0 0)) hne
    clear hb3 hA1 q0
    cases fl
    · go_enter Try.func19, Try.ntmps19
      go_wp2_with (first
        | (at_builtin; refine wpList_nothing rfl _ _ rfl (A := some ⟨g6, 0, none⟩) (n := 0) (c := 0) (k := k1) (ad := a1) rfl (Nat.le_refl _) rfl ?_)
        | (go_at_call 21; (with_reducible refine (got_any _ H3).mono ?_); rintro e w5 ⟨rfl, h5, o5⟩)
        | fail)
      go_ret
      refine come_end (by rw [HV.out.2]; rfl) HB2.out (Off.refl (fun i => i = g6) W2) HG.out.2.2.2.2.2.1 rfl o5 (by rw [HV.out.1]; exact h5) O6.out HT.out HH.out.lt hne
    · go_enter Try.func19, Try.ntmps19
      go_wp2_with (first
        | (at_builtin; refine wpList_nothing rfl _ _ rfl (A := some ⟨g6, 0, none⟩) (n := 0) (c := 0) (k := k1) (ad := a1) rfl (Nat.le_refl _) rfl ?_)
        | (go_at_call 20; (with_reducible refine (told_any (x.n : Int) x.g x.o _ hxg hxo H3).mono ?_); rintro e w5 ⟨rfl, h5, o5⟩)
        | fail)
      go_ret
      refine come_end (by rw [HV.out.2]; rfl) HB2.out (Off.refl (fun i => i = g6) W2) HG.out.2.2.2.2.2.1 rfl o5 (by rw [HV.out.1]; exact h5) O6.out HT.out HH.out.lt hne
  · have hq1 : 0 < q.length := by omega
    obtain rfl := hA1 (by omega)
    clear hA1 hA2
    have HN : Hid (∀ j u, (itc q)[j]? = some u → W2.cell? ((⟨g, 4, none⟩ : Addr).add j) = some u) := Lib.hid fun j' u hu => by
      have hl := itc_len q
      have hj : j' < q.length * 4 := by rw [← hl]; exact (List.getElem?_eq_some_iff.1 hu).1
      have h2 := World.ownsRow.cellAt (show W2.ownsRow B 46 4 (.slice (some ⟨g, 0, none⟩) (q.length + 1) c) (q.length + 1) (itc (x :: q)) from HR.out.call HB2.out) (4 + j') (by omega)
      rw [Addr.add_lit, h2, itc_cons, List.getElem?_append_right (by simp [itv]), show 4 + j' - (itv x).length = j' by simp [itv]]
      exact hu
    have ONE : Hid (∀ u ∈ itc q, u.oneCell' = true) := Lib.hid (one_itc q)
    obtain ⟨i0, hi, hz0, hz1, hz2⟩ := info_parts infoS
    cases fl
    · go_enter Try.func19, Try.ntmps19
      go_wp2_with (first
        | (at_builtin; refine wpList_append_lies _ rfl _ _ 41 rfl w.heap.size 46 i0 _ 4 16 Try.underlying41 hi hz0 hz1 hz2 rfl (by omega) (.slice (some ⟨g6, 0, none⟩) 0 0) 0 [] rfl O6.out ⟨g, 4, none⟩ q.length k1 (itc q) rfl (itc_len q) HN.out ONE.out hq1 (by unfold maxLen; omega) (by omega) (by have := HB2.out.size; omega) _ rfl ?_; intro g7 k7 w3 own3 gr3 hin3 hlt3; have ow3 : Off (fun i => i = g6) W2 w3 := off_grown gr3; have hb3 := ow3.block t (Nat.lt_of_lt_of_le HT.out HB2.out.size) (fun e => HG.out.2.2.1 e.symm); have t3 := (World.cell?_of_block (a := ⟨t, j, none⟩) hb3).trans t2; have f3 := (World.frozen?_of_block (a := ⟨t, j, none⟩) hb3).trans ((World.frozen?_of_block (a := ⟨t, j, none⟩) (HB2.out.block t HT.out)).trans HF.out); have x3 := (ow3.block g5 HG.out.1 (fun e => HG.out.2.2.2.1 e)).trans HX5.out; have d0 := cell_of_row w3 g5 0 _ _ _ x3; have d1 := cell_of_row w3 g5 1 _ _ _ x3; have d2 := cell_of_row w3 g5 2 _ _ _ x3; have d3 := cell_of_row w3 g5 3 _ _ _ x3; simp only [List.getElem?_toArray, List.getElem?_cons_zero, List.getElem?_cons_succ] at d0 d1 d2 d3; have H3 := ((HH.out.call HB2.out).off ow3 (fun e => HG.out.2.2.2.2.2.2.1 e)).off (set1 w3 t j (.slice (some ⟨g7, 0, none⟩) q.length k7)) hne; clear x3 hb3)
        | (go_at_call 21; (with_reducible refine (got_any _ H3).mono ?_); rintro e w5 ⟨rfl, h5, o5⟩)
        | fail)
      go_ret
      refine come_end (by rw [HV.out.2]; rfl) HB2.out ow3 HG.out.2.2.2.2.2.1 rfl o5 (by rw [HV.out.1]; exact h5) (rown_of own3) HT.out HH.out.lt hne
    · go_enter Try.func19, Try.ntmps19
      go_wp2_with (first
        | (at_builtin; refine wpList_append_lies _ rfl _ _ 41 rfl w.heap.size 46 i0 _ 4 16 Try.underlying41 hi hz0 hz1 hz2 rfl (by omega) (.slice (some ⟨g6, 0, none⟩) 0 0) 0 [] rfl O6.out ⟨g, 4, none⟩ q.length k1 (itc q) rfl (itc_len q) HN.out ONE.out hq1 (by unfold maxLen; omega) (by omega) (by have := HB2.out.size; omega) _ rfl ?_; intro g7 k7 w3 own3 gr3 hin3 hlt3; have ow3 : Off (fun i => i = g6) W2 w3 := off_grown gr3; have hb3 := ow3.block t (Nat.lt_of_lt_of_le HT.out HB2.out.size) (fun e => HG.out.2.2.1 e.symm); have t3 := (World.cell?_of_block (a := ⟨t, j, none⟩) hb3).trans t2; have f3 := (World.frozen?_of_block (a := ⟨t, j, none⟩) hb3).trans ((World.frozen?_of_block (a := ⟨t, j, none⟩) (HB2.out.block t HT.out)).trans HF.out); have x3 := (ow3.block g5 HG.out.1 (fun e => HG.out.2.2.2.1 e)).trans HX5.out; have d0 := cell_of_row w3 g5 0 _ _ _ x3; have d1 := cell_of_row w3 g5 1 _ _ _ x3; have d2 := cell_of_row w3 g5 2 _ _ _ x3; have d3 := cell_of_row w3 g5 3 _ _ _ x3; simp only [List.getElem?_toArray, List.getElem?_cons_zero, List.getElem?_cons_succ] at d0 d1 d2 d3; have H3 := ((HH.out.call HB2.out).off ow3 (fun e => HG.out.2.2.2.2.2.2.1 e)).off (set1 w3 t j (.slice (some ⟨g7, 0, none⟩) q.length k7)) hne; clear x3 hb3)
        | (go_at_call 20; (with_reducible refine (told_any (x.n : Int) x.g x.o _ hxg hxo H3).mono ?_); rintro e w5 ⟨rfl, h5, o5⟩)
        | fail)
      go_ret
      refine come_end (by rw [HV.out.2]; rfl) HB2.out ow3 HG.out.2.2.2.2.2.1 rfl o5 (by rw [HV.out.1]; exact h5) (rown_of own3) HT.out HH.out.lt hne
end
end Go.Proofs.Ytppcfkcnaaflgaa.Wn
