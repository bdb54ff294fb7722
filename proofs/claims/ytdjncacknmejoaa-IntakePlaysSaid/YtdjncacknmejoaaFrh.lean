/-
  Contracts of frame.number, the three tellers of a head, unless, and headOf: what a head of eight bytes tells. Memory that was there stays. No condition.
-/
import Derived.Test.YtdjncacknmejoaaFrq
import Derived.Laws.CopyOwn
import Derived.Deep.RegionHeld3
namespace Go.Proofs.Ytdjncacknmejoaa.Fr
set_option maxRecDepth 100000
open Go.RowKit Go.Proofs.Ytdjncacknmejoaa.Utf Go.Proofs.Ytdjncacknmejoaa.Enc

/-- frame.number. -/
theorem number_any (B : Nat) (A : Option Addr) (n c : Nat) (l : List Nat) (w : World) (hr : Rd .u8 256 w B A n l) :
    Calls Try.prog 48 #[.slice A n c] w fun e w' => e = .returned (.int .u64 (tn l : Nat)) ∧ w' = w := by
  go_enter Try.func48, Try.ntmps48
  go_wp2_with (go_at_call 50; (with_reducible refine (tell_any B A n c l _ hr).mono ?_); rintro e w1 ⟨⟨p, rfl⟩, rfl⟩)
  go_ret
  exact ⟨rfl, rfl⟩

/-- A head's eight bytes. -/
def Hd8 (h : List Nat) : Prop := h.length = 8 ∧ ∀ x ∈ h, x < 256
def hv (h : List Nat) : Value := .agg (vs .u8 h).toArray
/-- A block that is a head. -/
def BxH (w : World) (g : Nat) (h : List Nat) : Prop := w.heap[g]? = some (.cells (vs .u8 h).toArray 66 (0, 0))
theorem BxH.lt {w : World} {g : Nat} {h : List Nat} (hb : BxH w g h) : g < w.heap.size := (Array.getElem?_eq_some_iff.1 hb).1
theorem BxH.new (w : World) (h : List Nat) : BxH (w.alloc (.cells (vs .u8 h).toArray 66)) w.heap.size h := heap_alloc_new w _
theorem BxH.call {w w' : World} {g : Nat} {h : List Nat} (hb : BxH w g h) (hb' : Below w.heap.size w w') : BxH w' g h := (hb'.block g hb.lt).trans hb
theorem BxH.cell {w : World} {g j x : Nat} {h : List Nat} (hb : BxH w g h) (hx : h[j]? = some x) : w.cell? ⟨g, j, none⟩ = some (.int .u8 (x : Int)) := by
  have hj := (List.getElem?_eq_some_iff.1 hx).1
  simp only [World.cell?, BxH] at hb ⊢
  rw [hb]
  simp [vs, hx]
theorem BxH.rd {w : World} {g o n : Nat} {h : List Nat} (hb : BxH w g h) (h8 : Hd8 h) (hn : o + n ≤ 8) : Rd .u8 256 w w.heap.size (some ⟨g, o, none⟩) n ((h.drop o).take n) := by
  refine ⟨by rw [List.length_take, List.length_drop, h8.1]; omega, fun x hx => h8.2 x (List.mem_of_mem_drop (List.mem_of_mem_take hx)), fun _ => ⟨g, o, rfl, hb.lt, fun k hk => ?_⟩⟩
  refine hb.cell ?_
  rw [List.length_take, List.length_drop, h8.1] at hk
  rw [List.getElem_take, List.getElem_drop, List.getElem?_eq_getElem]

/-- The answer, and that memory that was there stays. -/
def Says (v : Value) (w : World) (e : Ending) (w' : World) : Prop := e = .returned v ∧ Below w.heap.size w w'
theorem size_any (h : List Nat) (h8 : Hd8 h) (w : World) : Calls Try.prog 35 #[hv h] w (Says (.int .u64 (nb (h.take 4) : Nat)) w) := by
  have hx := BxH.new w h
  have hr := hx.rd h8 (o := 0) (n := 4) (by omega)
  have hb : Below w.heap.size w (w.alloc (.cells (vs .u8 h).toArray 66)) := (Below.refl _ _).alloc (Nat.le_refl _) _
  have ht : tn (h.take 4) = nb (h.take 4) := by unfold tn; rw [if_pos (by simp; omega)]
  have HX := Lib.hid hx
  have HR := Lib.hid hr
  have HB := Lib.hid hb
  have HT := Lib.hid ht
  clear hx hr hb ht
  unfold hv
  generalize (vs .u8 h).toArray = cs at *
  go_enter Try.func35, Try.ntmps35
  go_wp2_with (go_at_call 48; (with_reducible refine (number_any _ _ 4 8 _ _ HR.out).mono ?_); rintro e w1 ⟨rfl, rfl⟩)
  go_ret
  exact ⟨by rw [HT.out]; rfl, HB.out⟩
theorem chan_any (h : List Nat) (h8 : Hd8 h) (w : World) : Calls Try.prog 37 #[hv h] w (Says (.int .u16 (nb ((h.drop 6).take 2) : Nat)) w) := by
  have hx := BxH.new w h
  have hr := hx.rd h8 (o := 6) (n := 2) (by omega)
  have hb : Below w.heap.size w (w.alloc (.cells (vs .u8 h).toArray 66)) := (Below.refl _ _).alloc (Nat.le_refl _) _
  have hl : ((h.drop 6).take 2).length = 2 := by rw [List.length_take, List.length_drop, h8.1]; rfl
  have ht : tn ((h.drop 6).take 2) = nb ((h.drop 6).take 2) := by unfold tn; rw [if_pos (by omega)]
  have hlt : nb ((h.drop 6).take 2) < 65536 := by
    have := nb_lt ((h.drop 6).take 2) hr.lim
    rwa [hl] at this
  have HX := Lib.hid hx
  have HR := Lib.hid hr
  have HB := Lib.hid hb
  have HT := Lib.hid ht
  clear hx hr hb ht hl
  unfold hv
  generalize (vs .u8 h).toArray = cs at *
  generalize (h.drop 6).take 2 = d at *
  have HN := HR.out
  go_enter Try.func37, Try.ntmps37
  go_wp2_with (go_at_call 48; (with_reducible refine (number_any _ _ 2 2 _ _ HN).mono ?_); rintro e w1 ⟨rfl, rfl⟩; rw [HT.out])
  go_ret
  exact ⟨rfl, HB.out⟩
theorem start_any (h : List Nat) (h8 : Hd8 h) (p : Nat) (hp : h[4]? = some p) (w : World) : Calls Try.prog 36 #[hv h] w (Says (.int .u64 (4 * p : Nat)) w) := by
  have hx := BxH.new w h
  have hb : Below w.heap.size w (w.alloc (.cells (vs .u8 h).toArray 66)) := (Below.refl _ _).alloc (Nat.le_refl _) _
  have hc := hx.cell hp
  have hlt : p < 256 := h8.2 p (List.mem_of_getElem? hp)
  have HB := Lib.hid hb
  clear hx hb hp h8
  unfold hv
  generalize (vs .u8 h).toArray = cs at *
  go_enter Try.func36, Try.ntmps36
  go_wp2
  go_ret
  exact ⟨by simp, HB.out⟩
theorem unless_any (b : Bool) (q : Int) (w : World) : Calls Try.prog 44 #[.bool b, .int .i64 q] w fun e w' => e = .returned (.int .i64 (if b then 0 else q)) ∧ w' = w := by
  cases b
  all_goals
    go_enter Try.func44, Try.ntmps44
    go_wp2
    go_ret
    exact ⟨rfl, rfl⟩
theorem BxH.drew {w : World} {g : Nat} {h : List Nat} (hb : BxH w g h) : BxH w.drew g h := hb
theorem zero8 : (#[.int .u8 0, .int .u8 0, .int .u8 0, .int .u8 0, .int .u8 0, .int .u8 0, .int .u8 0, .int .u8 0] : Array Value) = (vs .u8 (List.replicate 8 0)).toArray := rfl
theorem elem_bytes : Try.prog.underlying 24 = some (.slice 5) := Try.underlying24
theorem size_byte : (Try.prog.info? 5).map (·.size) = some 1 := by kernel_rfl
theorem splice_vs (L l : List Nat) (o : Nat) : splice (vs .u8 L) o (vs .u8 l) = vs .u8 (splice L o l) := by simp [splice, vs]
theorem rd_src {w : World} {B n : Nat} {A : Option Addr} {l : List Nat} (hr : Rd .u8 256 w B A n l) (k : Nat) (h : 0 < (vs .u8 (l.take k)).length) : ∃ ad, A = some ad ∧ ∀ j v, (vs .u8 (l.take k))[j]? = some v → w.cell? (ad.add j) = some v := by
  have hn : 0 < n := by
    rw [vs_length, List.length_take] at h
    have := hr.len
    omega
  obtain ⟨b, o, rfl, _, hc⟩ := hr.2.2 hn
  refine ⟨_, rfl, fun j v hj => ?_⟩
  have hjl := (List.getElem?_eq_some_iff.1 hj).1
  rw [vs_length] at hjl
  rw [vs_at _ _ _ hjl] at hj
  injection hj with hj
  subst hj
  rw [List.length_take] at hjl
  have hcj := hc j (by omega)
  rw [List.getElem_take, ← hcj]
  unfold Addr.add
  split
  · rename_i h0; subst h0; rfl
  · rfl
/-- copy(h[off:], x), h a head: in a region that draws, and in one that does not. -/
theorem step_copy_hd {ops : Array Oper} {o : Oper} {a : Act} {w : World} {K : Act → World → Prop} {Q : Exit → Act → World → Prop} {E : Prop} (hgd : o.guard = none) (d s : Operand)
    (ho : o.op = .call { callee := .builtin .copy, args := #[d, s], argTypes := #[24, 24] }) {g off dl dc B n c : Nat} {A : Option Addr} {l h : List Nat} (hd : a.eval d = .slice (some ⟨g, off, none⟩) dl dc) (hs : a.eval s = .slice A n c)
    (hx : BxH w g h) (h8 : h.length = 8) (hr : Rd .u8 256 w B A n l) (hf : off + dl ≤ 8)
    (hK : ∀ w', BxH w' g (splice h off (l.take dl)) → Below g w w' → K (a.put o.dst (goInt (vs .u8 (l.take dl)).length)) w') :
    if Region.wanted o (yielded ops a.tmps) = true then Oper.wp Try.prog o a w K Q else E := by
  have hl := hr.len
  refine step_copy_splice hgd d s _ _ ho 5 elem_bytes size_byte _ _ dl dc n c hd hs g off (vs .u8 h) 66 hx (vs .u8 (l.take dl)) ?_ (fun hp => ⟨rfl, rd_src hr dl hp⟩) ?_ (vs_one _ _) g w (Below.refl _ _) (Nat.le_refl _) ?_
  · rw [vs_length, List.length_take, hl, Nat.min_comm]; done
  · rw [vs_length, vs_length, List.length_take]; omega
  · intro w' h1 h2
    have h1 := h1.out
    rw [splice_vs] at h1
    exact hK w' h1 h2
theorem wpList_copy_hd {ops : Array Oper} {rest : List Oper} {o : Oper} {a : Act} {w : World} {Q : Exit → Act → World → Prop} (hgd : o.guard = none) (d s : Operand)
    (ho : o.op = .call { callee := .builtin .copy, args := #[d, s], argTypes := #[24, 24] }) {g off dl dc B n c : Nat} {A : Option Addr} {l h : List Nat} (hd : a.eval d = .slice (some ⟨g, off, none⟩) dl dc) (hs : a.eval s = .slice A n c)
    (hx : BxH w g h) (h8 : h.length = 8) (hr : Rd .u8 256 w B A n l) (hf : off + dl ≤ 8)
    (hK : ∀ w', BxH w' g (splice h off (l.take dl)) → Below g w w' → wpList Try.prog ops Q rest (a.put o.dst (goInt (vs .u8 (l.take dl)).length)) w') :
    wpList Try.prog ops Q (o :: rest) a w := by
  have hl := hr.len
  refine wpList_copy_splice hgd d s _ _ ho 5 elem_bytes size_byte _ _ dl dc n c hd hs g off (vs .u8 h) 66 hx (vs .u8 (l.take dl)) ?_ (fun hp => ⟨rfl, rd_src hr dl hp⟩) ?_ (vs_one _ _) g w (Below.refl _ _) (Nat.le_refl _) ?_
  · rw [vs_length, List.length_take, hl, Nat.min_comm]; done
  · rw [vs_length, vs_length, List.length_take]; omega
  · intro w' h1 h2
    have h1 := h1.out
    rw [splice_vs] at h1
    exact hK w' h1 h2
theorem BxH.set {w : World} {g j x : Nat} {h : List Nat} (hb : BxH w g h) : BxH (w.setCell ⟨g, j, none⟩ (.int .u8 (x : Int))) g (h.set j x) := by
  unfold BxH at hb ⊢
  rw [setCell_eq_setRow w g j _ _ _ _ hb, setRow_heap w g _ _ _ _ hb]
  simp [vs, List.map_set]
theorem BxH.off {w : World} {g g' j : Nat} {h : List Nat} {v : Value} (hb : BxH w g h) (hne : g ≠ g') : BxH (w.setCell ⟨g', j, none⟩ v) g h := by
  unfold BxH at hb ⊢
  exact (Below.heap_setCell w ⟨g', j, none⟩ v g hne).trans hb
theorem BxH.frz {w : World} {g j : Nat} {h : List Nat} (hb : BxH w g h) : w.frozen? ⟨g, j, none⟩ = false := by
  simp only [World.frozen?, BxH] at hb ⊢
  rw [hb]
  simp
theorem lay_4 (X : Nat) (w : World) : Calls Try.prog 49 #[.slice none 0 0, .int .u64 (X : Int), .int .i64 4] w (GivesL w.heap.size (be X 4) w) := lay_any X 4 (by omega) w
theorem lay_2 (X : Nat) (w : World) : Calls Try.prog 49 #[.slice none 0 0, .int .u64 (X : Int), .int .i64 2] w (GivesL w.heap.size (be X 2) w) := lay_any X 2 (by omega) w
theorem BxH.eight {w : World} {g h0 h1 h2 h3 h4 h5 h6 h7 : Nat} (h : BxH w g [h0, h1, h2, h3, h4, h5, h6, h7]) : w.cell? ⟨g, 0, none⟩ = some (.int .u8 (h0 : Int)) ∧ w.cell? ⟨g, 1, none⟩ = some (.int .u8 (h1 : Int)) ∧ w.cell? ⟨g, 2, none⟩ = some (.int .u8 (h2 : Int)) ∧ w.cell? ⟨g, 3, none⟩ = some (.int .u8 (h3 : Int)) ∧ w.cell? ⟨g, 4, none⟩ = some (.int .u8 (h4 : Int)) ∧ w.cell? ⟨g, 5, none⟩ = some (.int .u8 (h5 : Int)) ∧ w.cell? ⟨g, 6, none⟩ = some (.int .u8 (h6 : Int)) ∧ w.cell? ⟨g, 7, none⟩ = some (.int .u8 (h7 : Int)) :=
  ⟨h.cell rfl, h.cell rfl, h.cell rfl, h.cell rfl, h.cell rfl, h.cell rfl, h.cell rfl, h.cell rfl⟩
set_option maxHeartbeats 800000 in
theorem headOf_any (X ch : Nat) (hX : X < 9223372036854775808) (hch : ch < 65536) (w : World) : Calls Try.prog 38 #[.int .i64 (X : Int), .int .u16 (ch : Int)] w (Says (hv (be X 4 ++ [2, 0] ++ be ch 2)) w) := by
  have hwX : IntKind.u64.wrap (X : Int) = (X : Int) := by simp only [IntKind.wrap, IntKind.bits, IntKind.signed]; simp; omega
  have hwc : IntKind.u64.wrap (ch : Int) = (ch : Int) := by simp only [IntKind.wrap, IntKind.bits, IntKind.signed]; simp; omega
  go_enter Try.func38, Try.ntmps38
  go_wp2_with fail
  have hx0 : BxH ((w.alloc (.cells #[.int .u8 0, .int .u8 0, .int .u8 0, .int .u8 0, .int .u8 0, .int .u8 0, .int .u8 0, .int .u8 0] 66)).alloc (.cells #[.int .u8 0, .int .u8 0, .int .u8 0, .int .u8 0, .int .u8 0, .int .u8 0, .int .u8 0, .int .u8 0] 66)) w.heap.size (List.replicate 8 0) := (BxH.new w (List.replicate 8 0)).call ((Below.refl _ _).alloc (Nat.le_refl _) _)
  have hx1 : BxH ((w.alloc (.cells #[.int .u8 0, .int .u8 0, .int .u8 0, .int .u8 0, .int .u8 0, .int .u8 0, .int .u8 0, .int .u8 0] 66)).alloc (.cells #[.int .u8 0, .int .u8 0, .int .u8 0, .int .u8 0, .int .u8 0, .int .u8 0, .int .u8 0, .int .u8 0] 66)) (w.heap.size + 1) (List.replicate 8 0) := by
    have := BxH.new (w.alloc (.cells #[.int .u8 0, .int .u8 0, .int .u8 0, .int .u8 0, .int .u8 0, .int .u8 0, .int .u8 0, .int .u8 0] 66)) (List.replicate 8 0)
    rwa [World.size_alloc] at this
  have hb0 : Below w.heap.size w ((w.alloc (.cells #[.int .u8 0, .int .u8 0, .int .u8 0, .int .u8 0, .int .u8 0, .int .u8 0, .int .u8 0, .int .u8 0] 66)).alloc (.cells #[.int .u8 0, .int .u8 0, .int .u8 0, .int .u8 0, .int .u8 0, .int .u8 0, .int .u8 0, .int .u8 0] 66)) := ((Below.refl _ _).alloc (Nat.le_refl _) _).alloc (by simp) _
  generalize ((w.alloc (.cells #[.int .u8 0, .int .u8 0, .int .u8 0, .int .u8 0, .int .u8 0, .int .u8 0, .int .u8 0, .int .u8 0] 66)).alloc (.cells #[.int .u8 0, .int .u8 0, .int .u8 0, .int .u8 0, .int .u8 0, .int .u8 0, .int .u8 0, .int .u8 0] 66)) = W1 at *
  generalize hg : w.heap.size = g at *
  go_region_held3 (fun _ => True) (trivial)
    (first
      | (go_at_call 49; (with_reducible refine (lay_4 X _).mono ?_); rintro e w1 ⟨A1, n1, c1, rfl, ho1, hb1⟩; have hx2 := hx0.drew.call hb1; have hx3 := hx1.drew.call hb1; have hl1 := ho1.len)
      | (refine step_copy_hd rfl _ _ rfl rfl rfl hx3 rfl ho1.rd (by omega) ?_; intro w2 hx4 hb2)
      | fail)
  have hb3 : Below g w w2 := (hb0.drew.trans (hb1.mono (by have := hb0.drew.size; omega))).trans (hb2.mono (by omega))
  obtain ⟨x0, x1, x2, x3, hE⟩ : ∃ x0 x1 x2 x3, be X 4 = [x0, x1, x2, x3] := ⟨_, _, _, _, rfl⟩
  have hx5 : BxH w2 g (List.replicate 8 0) := (hb2.block g (by omega)).trans hx2
  have hx6 : BxH w2 (g + 1) [x0, x1, x2, x3, 0, 0, 0, 0] := by rw [hE] at hx4; exact hx4
  have HE := Lib.hid hE
  clear hx0 hx1 hb0 hb1 hb2 hx2 hx3 hx4 ho1 hE hl1
  have q4 := hx6.cell (j := 4) rfl
  have q5 := hx6.frz (j := 4)
  have q6 := hx6.cell (j := 5) rfl
  have q7 := hx6.frz (j := 5)
  have hx7 : BxH ((w2.setCell ⟨g + 1, 4, none⟩ (.int .u8 2)).setCell ⟨g + 1, 5, none⟩ (.int .u8 0)) (g + 1) [x0, x1, x2, x3, 2, 0, 0, 0] := (hx6.set (j := 4) (x := 2)).set (j := 5) (x := 0)
  have hx8 : BxH ((w2.setCell ⟨g + 1, 4, none⟩ (.int .u8 2)).setCell ⟨g + 1, 5, none⟩ (.int .u8 0)) g (List.replicate 8 0) := (hx5.off (by omega)).off (by omega)
  have hb4 : Below g w ((w2.setCell ⟨g + 1, 4, none⟩ (.int .u8 2)).setCell ⟨g + 1, 5, none⟩ (.int .u8 0)) := (hb3.setCell (by simp) _).setCell (by simp) _
  have HX5 := Lib.hid hx5
  clear hx5 hb3
  go_wp2_with fail
  clear q4 q5 q6 q7 hx6 HX5
  generalize ((w2.setCell ⟨g + 1, 4, none⟩ (.int .u8 2)).setCell ⟨g + 1, 5, none⟩ (.int .u8 0)) = W3 at *
  have hz := hx7.lt
  go_region_held3 (fun _ => True) (trivial)
    (first
      | (go_at_call 49; (with_reducible refine (lay_2 ch _).mono ?_); rintro e w4 ⟨A2, n2, c2, rfl, ho2, hb5⟩; have hx9 := hx8.drew.call hb5; have hx10 := hx7.drew.call hb5)
      | (refine step_copy_hd rfl _ _ rfl rfl rfl hx10 rfl ho2.rd (by omega) ?_; intro w5 hx11 hb6)
      | fail)
  have hb7 : Below g w w5 := (hb4.drew.trans (hb5.mono (by have := hb4.drew.size; omega))).trans (hb6.mono (by omega))
  obtain ⟨y0, y1, hE2⟩ : ∃ y0 y1, be ch 2 = [y0, y1] := ⟨_, _, rfl⟩
  have hx12 : BxH w5 g [0, 0, 0, 0, 0, 0, 0, 0] := (hb6.block g (by omega)).trans hx9
  have hx13 : BxH w5 (g + 1) [x0, x1, x2, x3, 2, 0, y0, y1] := by rw [hE2] at hx11; exact hx11
  have HE2 := Lib.hid hE2
  clear hx7 hx8 hb4 hb5 hb6 hx9 hx10 hx11 ho2 hE2 hz
  obtain ⟨c0, c1, c2, c3, c4, c5, c6, c7⟩ := hx13.eight
  obtain ⟨d0, d1, d2, d3, d4, d5, d6, d7⟩ := hx12.eight
  have f0 := hx12.frz (j := 0)
  have f1 := hx12.frz (j := 1)
  have f2 := hx12.frz (j := 2)
  have f3 := hx12.frz (j := 3)
  have f4 := hx12.frz (j := 4)
  have f5 := hx12.frz (j := 5)
  have f6 := hx12.frz (j := 6)
  have f7 := hx12.frz (j := 7)
  go_wp2_with fail
  have hb8 : Below g w ((((((((w5.setCell ⟨g, 0, none⟩ (.int .u8 (x0 : Int))).setCell ⟨g, 1, none⟩ (.int .u8 (x1 : Int))).setCell ⟨g, 2, none⟩ (.int .u8 (x2 : Int))).setCell ⟨g, 3, none⟩ (.int .u8 (x3 : Int))).setCell ⟨g, 4, none⟩ (.int .u8 2)).setCell ⟨g, 5, none⟩ (.int .u8 0)).setCell ⟨g, 6, none⟩ (.int .u8 (y0 : Int))).setCell ⟨g, 7, none⟩ (.int .u8 (y1 : Int))) :=
    (((((((hb7.setCell (by simp) _).setCell (by simp) _).setCell (by simp) _).setCell (by simp) _).setCell (by simp) _).setCell (by simp) _).setCell (by simp) _).setCell (by simp) _
  refine bodyPost_ret (v := .agg #[.int .u8 (x0 : Int), .int .u8 (x1 : Int), .int .u8 (x2 : Int), .int .u8 (x3 : Int), .int .u8 2, .int .u8 0, .int .u8 (y0 : Int), .int .u8 (y1 : Int)]) (by simp [results, Try.results38, go_sem, d0, d1, d2, d3, d4, d5, d6, d7]) rfl ?_
  exact ⟨by rw [HE.out, HE2.out]; rfl, hg ▸ hb8⟩
end Go.Proofs.Ytdjncacknmejoaa.Fr
