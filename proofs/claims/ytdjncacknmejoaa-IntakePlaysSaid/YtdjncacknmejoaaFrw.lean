/-
  Contract of frame.Write: a frame's bytes, in new memory. Condition: a body of at most 2^40 bytes.
-/
import Derived.Test.YtdjncacknmejoaaFrh
namespace Go.Proofs.Ytdjncacknmejoaa.Fr
set_option maxRecDepth 100000
open Go.RowKit Go.Proofs.Ytdjncacknmejoaa.Utf Go.Proofs.Ytdjncacknmejoaa.Enc

/-- make([]byte, 0, n) at a step of a region that draws. -/
theorem step_make8 {ops : Array Oper} {o : Oper} {a : Act} {w : World} {K : Act → World → Prop} {Q : Exit → Act → World → Prop} {E : Prop} (hg : o.guard = none) (l c : Operand) (hop : o.op = Op.makeSlice 24 l c)
    (base : Nat) (C : Int) (n : Nat) (hl : a.eval l = .int .i64 0) (hc : a.eval c = .int .i64 C) (hC : C = (n : Int)) (b3 : n ≤ 70368744177664) (b4 : base ≤ w.heap.size)
    (hK : ∀ w', Own .u8 256 5 w' base (some ⟨w.heap.size, 0, none⟩) 0 n [] → Below w.heap.size w w' → K (a.put o.dst (.slice (some ⟨w.heap.size, 0, none⟩) 0 n)) w') :
    if Region.wanted o (yielded ops a.tmps) = true then Oper.wp Try.prog o a w K Q else E := by
  have hw : Region.wanted o (yielded ops a.tmps) = true := by simp [Region.wanted, hg]
  rw [if_pos hw]
  obtain ⟨i, hi, h3, h4, h5⟩ := info_parts info5
  have b5 : (n : Int) ≤ 9223372036854775807 := by omega
  have b6 : (i.bytes : Int) * (n : Int) ≤ 281474976710656 := by rw [h5]; omega
  have hr := run_make (P := Try.prog) w 24 5 i (.int .u8 0) Try.underlying24 hi h3 .i64 .i64 0 n (Int.le_refl _) (by omega) b6 b5
  simp only [Int.toNat_zero, Int.toNat_natCast] at hr
  subst hC
  have hlen : n ≤ maxLen := by unfold maxLen; omega
  unfold Oper.wp
  simp [execOp, hop, hl, hc, hr, Result.andThen]
  exact hK _ ⟨fun _ h => (by cases h), World.ownsRow_made w _ n b4 hlen (by rw [size_madeCells, h4]), Typ.new _ _ _ _ _ (made_cells rfl ⟨0, by omega, rfl⟩ _)⟩ ((Below.refl _ _).alloc (Nat.le_refl _) _)
theorem step_app8 {w : World} {K : Act → World → Prop} {ops : Array Oper} {o : Oper} {a : Act} {Q : Exit → Act → World → Prop} {E : Prop} (hgd : o.guard = none) (s x : Operand)
    (ho : o.op = .call { callee := .builtin .append, args := #[s, x], argTypes := #[24, 24] })
    {base n c : Nat} {A : Option Addr} {L : List Nat} (hs : a.eval s = .slice A n c) (hown : Own .u8 256 5 w base A n c L)
    {B m d : Nat} {A' : Option Addr} {l : List Nat} (hx : a.eval x = .slice A' m d) (hr : Rd .u8 256 w B A' m l) (hm : 0 < m) (hsz : n + m ≤ 17592186044416) (hbase : base ≤ w.heap.size)
    (h : ∀ A2 c2 w', Own .u8 256 5 w' base A2 (n + m) c2 (L ++ l) → w.grownBy w' (Value.slice A n c).ownBlock → K (a.put o.dst (.slice A2 (n + m) c2)) w') :
    if Region.wanted o (yielded ops a.tmps) = true then Oper.wp Try.prog o a w K Q else E := by
  obtain ⟨i0, hi, hz0, hz1, hz2⟩ := info_parts info5
  have hl := hr.len
  obtain ⟨ad, rfl, hc⟩ := rd_src hr m (by rw [vs_length, List.length_take]; omega)
  rw [List.take_of_length_le (by omega)] at hc
  exact step_own hgd s x 24 ho i0 1 Try.underlying24 hi hz0 (by omega) hz1 hz2 hs hown ad m d l hx hl hr.lim hc hm (by unfold maxLen; omega) (by omega) hbase _ rfl fun g cap w' h1 h2 _ _ => h _ _ _ h1 h2
theorem headOf_8 {x0 x1 x2 x3 x4 x5 x6 x7 X ch : Nat} (hE : be X 4 ++ [2, 0] ++ be ch 2 = [x0, x1, x2, x3, x4, x5, x6, x7]) (hX : X < 9223372036854775808) (hch : ch < 65536) (w : World) : Calls Try.prog 38 #[.int .i64 (X : Int), .int .u16 (ch : Int)] w (Says (.agg #[.int .u8 (x0 : Int), .int .u8 (x1 : Int), .int .u8 (x2 : Int), .int .u8 (x3 : Int), .int .u8 (x4 : Int), .int .u8 (x5 : Int), .int .u8 (x6 : Int), .int .u8 (x7 : Int)]) w) := by
  have := headOf_any X ch hX hch w
  rwa [hE] at this
set_option maxHeartbeats 2000000 in
theorem write_any (ch : Nat) (A : Option Addr) (n c : Nat) (b : List Nat) (w : World) (hch : ch < 65536) (hr : Rd .u8 256 w w.heap.size A n b) (hn : n ≤ 1099511627776) : Calls Try.prog 27 #[.agg #[.int .u16 (ch : Int), .slice A n c]] w (GivesL w.heap.size (layF ch b) w) := by
  obtain ⟨x0, x1, x2, x3, x4, x5, x6, x7, hE⟩ : ∃ x0 x1 x2 x3 x4 x5 x6 x7, be (8 + n) 4 ++ [2, 0] ++ be ch 2 = [x0, x1, x2, x3, x4, x5, x6, x7] := ⟨_, _, _, _, _, _, _, _, rfl⟩
  have hby : Hd8 [x0, x1, x2, x3, x4, x5, x6, x7] := by
    rw [← hE]
    refine ⟨by simp [be_length], fun x hx => ?_⟩
    simp only [List.mem_append, List.mem_cons, List.not_mem_nil, or_false] at hx
    rcases hx with (hx | hx) | hx
    · exact be_byte _ _ x hx
    · omega
    · exact be_byte _ _ x hx
  have hl := hr.len
  have HE := Lib.hid (show layF ch b = [x0, x1, x2, x3, x4, x5, x6, x7] ++ b by rw [← hE]; unfold layF; rw [hl])
  have hM : 8 + (n : Int) = ((8 + n : Nat) : Int) := by simp
  generalize hMM : 8 + n = M at *
  have hMi : IntKind.i64.wrap (8 + (n : Int)) = (M : Int) := by rw [hM]; exact IntWalk.i64_in _ (by omega)
  have HH := Lib.hid hE
  clear hE hl
  have HR := Lib.hid hr
  clear hr
  go_enter Try.func27, Try.ntmps27
  have hp0 : (w.alloc (.cells #[.int .u16 (ch : Int), .slice A n c] 39)).cell? ⟨w.heap.size, 1, none⟩ = some (.slice A n c) := by rw [World.cell?_alloc_at _ _ _ _ rfl]; rfl
  have hb0 : Below w.heap.size w (w.alloc (.cells #[.int .u16 (ch : Int), .slice A n c] 39)) := (Below.refl _ _).alloc (Nat.le_refl _) _
  have HB0 := Lib.hid hb0
  have HP0 := Lib.hid hp0
  clear hb0 hp0
  go_wp2_with fail
  (with_reducible refine (headOf_8 HH.out (by omega) hch _).mono ?_)
  rintro e w1 ⟨rfl, hb1⟩
  have HP1 := Lib.hid ((hb1.cell (p := ⟨w.heap.size, 1, none⟩) (by simp)).trans HP0.out)
  have HB1 := Lib.hid (HB0.out.trans (hb1.mono HB0.out.size))
  clear hb1
  go_wp2_with fail
  have hx2 : BxH (w1.alloc (.cells #[.int .u8 (x0 : Int), .int .u8 (x1 : Int), .int .u8 (x2 : Int), .int .u8 (x3 : Int), .int .u8 (x4 : Int), .int .u8 (x5 : Int), .int .u8 (x6 : Int), .int .u8 (x7 : Int)] 66)) w1.heap.size [x0, x1, x2, x3, x4, x5, x6, x7] := BxH.new w1 [x0, x1, x2, x3, x4, x5, x6, x7]
  have hb2 : Below w.heap.size w (w1.alloc (.cells #[.int .u8 (x0 : Int), .int .u8 (x1 : Int), .int .u8 (x2 : Int), .int .u8 (x3 : Int), .int .u8 (x4 : Int), .int .u8 (x5 : Int), .int .u8 (x6 : Int), .int .u8 (x7 : Int)] 66)) := HB1.out.alloc HB1.out.size _
  have hp2 : (w1.alloc (.cells #[.int .u8 (x0 : Int), .int .u8 (x1 : Int), .int .u8 (x2 : Int), .int .u8 (x3 : Int), .int .u8 (x4 : Int), .int .u8 (x5 : Int), .int .u8 (x6 : Int), .int .u8 (x7 : Int)] 66)).cell? ⟨w.heap.size, 1, none⟩ = some (.slice A n c) := by
    rw [World.cell?_alloc_lt _ _ _ (World.block_lt_of_cell? w1 _ HP1.out)]; exact HP1.out
  have hgl := World.block_lt_of_cell? w1 _ HP1.out
  generalize hW2 : w1.alloc (.cells #[.int .u8 (x0 : Int), .int .u8 (x1 : Int), .int .u8 (x2 : Int), .int .u8 (x3 : Int), .int .u8 (x4 : Int), .int .u8 (x5 : Int), .int .u8 (x6 : Int), .int .u8 (x7 : Int)] 66) = w2 at *
  have hgl2 : w.heap.size < w2.heap.size := World.block_lt_of_cell? w2 _ hp2
  have hR2 : Rd .u8 256 w2.drew w2.heap.size (some ⟨w1.heap.size, 0, none⟩) 8 [x0, x1, x2, x3, x4, x5, x6, x7] := (hx2.rd hby (o := 0) (n := 8) (by omega)).eqv rfl
  have HB2 := Lib.hid hb2
  have HP2 := Lib.hid hp2
  clear hx2 hb2 hp2 hgl hW2 HP1 HB1 HP0 HB0 HH
  refine wp_region_noPanic ?_
  refine wp_region_held_drew (S := fun wx => True) (by kernel_rfl) (by exact trivial) (fun hHeld => ?_)
  (refine wpAnyH_take (i := 0) (oi := ⟨some 14, _, _, _, _, _⟩) (v := ?_) rfl (by kernel_rfl) (by kernel_rfl) (by kernel_rfl) (fun _ _ _ h => h) (Or.inl ⟨by kernel_rfl, ?_⟩) (by assumption) ?_; rotate_left 1; (· intro w hSw; (try dsimp only at hSw); go_simp; (try with_reducible rfl)))
  try simp only [Act.put, List.setIfInBounds_toArray, List.set_cons_zero, List.set_cons_succ]
  (refine wpAnyH_take (i := 2) (oi := ⟨some 16, _, _, _, _, _⟩) (v := ?_) rfl (by kernel_rfl) (by kernel_rfl) (by kernel_rfl) (fun _ _ _ h => h) (Or.inl ⟨by kernel_rfl, ?_⟩) (by assumption) ?_; rotate_left 1; (· intro w hSw; (try dsimp only at hSw); go_simp; (try with_reducible rfl)))
  try simp only [Act.put, List.setIfInBounds_toArray, List.set_cons_zero, List.set_cons_succ]
  (refine wpAnyH_ready (rs := [1]) (by kernel_rfl) (by simp) ?_; refine AllReadyH.cons (o := ⟨some 15, _, _, _, _, _⟩) rfl (fun K hK => ?_) AllReadyH.nil; (refine step_make8 rfl _ _ rfl w2.drew.heap.size (M : Int) M rfl rfl rfl (by omega) (Nat.le_refl _) ?_; intro w3 ho3 hb3; have hr3 := hR2.below hb3); refine hK.out _ _ ?_ (fun hHeld => ?_); (· exact trivial); clear hK K)
  try simp only [Act.put, List.setIfInBounds_toArray, List.set_cons_zero, List.set_cons_succ]
  (refine wpAnyH_ready (rs := [3]) (by kernel_rfl) (by simp) ?_; refine AllReadyH.cons (o := ⟨some 17, _, _, _, _, _⟩) rfl (fun K hK => ?_) AllReadyH.nil; (refine step_app8 rfl _ _ rfl rfl ho3 rfl hr3 (by omega) (by omega) hb3.size ?_; intro A4 c4 w4 ho4 hg4); refine hK.out _ _ ?_ (fun hHeld => ?_); (· exact trivial); clear hK K)
  try simp only [Act.put, List.setIfInBounds_toArray, List.set_cons_zero, List.set_cons_succ]
  (refine wpAnyH_take (i := 4) (oi := ⟨some 5, _, _, _, _, _⟩) (v := ?_) rfl (by kernel_rfl) (by kernel_rfl) (by kernel_rfl) (fun _ _ _ h => h) (Or.inl ⟨by kernel_rfl, ?_⟩) (by assumption) ?_; rotate_left 1; (· intro w hSw; (try dsimp only at hSw); go_simp; (try with_reducible rfl)))
  try simp only [Act.put, List.setIfInBounds_toArray, List.set_cons_zero, List.set_cons_succ]
  refine wpAnyH_done (by kernel_rfl) ?_ _
  refine NoPanic.normal ?_
  have hb4 : Below w2.drew.heap.size w2.drew w4 := hb3.trans (below_grown ho3 hg4 hb3.size)
  have hp4 := (hb4.cell (p := ⟨w.heap.size, 1, none⟩) hgl2).trans HP2.out
  have hbw : Below w.heap.size w w4 := HB2.out.drew.trans (hb4.mono HB2.out.drew.size)
  have hr4 := HR.out.below hbw
  have ho5 : Own .u8 256 5 w4 w.heap.size A4 8 c4 [x0, x1, x2, x3, x4, x5, x6, x7] := Own.mono ho4 HB2.out.drew.size
  have HBW := Lib.hid hbw
  have HO5 := Lib.hid ho5
  clear hb3 hr3 ho3 ho4 hg4 hb4 hbw ho5
  go_wp2_with (at_builtin; refine wpList_app8 (l := b) (L := [x0, x1, x2, x3, x4, x5, x6, x7]) rfl _ _ rfl rfl HO5.out rfl hr4 (by omega) HBW.out.size ?_; intro A5 c5 w5 ho6 hg5)
  go_ret
  exact GivesL.mk rfl HE.out.symm (by rw [← hMM]; exact ho6) (HBW.out.trans (below_grown HO5.out hg5 HBW.out.size))
end Go.Proofs.Ytdjncacknmejoaa.Fr
