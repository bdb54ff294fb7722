/-
  Contract of frame.Read: the frame with which bytes begin, or what is wrong. Memory that was there stays; the body lies in new memory. Condition: at most 2^40 bytes.
-/
import Derived.Test.YtdjncacknmejoaaFrp
namespace Go.Proofs.Ytdjncacknmejoaa.Fr
set_option maxRecDepth 100000
open Go.RowKit Go.Proofs.Ytdjncacknmejoaa.Utf Go.Proofs.Ytdjncacknmejoaa.Enc

/-- x[s:n], s and n of any kinds. -/
theorem cut_mix (K1 K2 : IntKind) (A : Option Addr) (n c k t : Nat) (hkt : k ≤ t) (htn : t ≤ n) (hnc : n ≤ c) : ∃ A1 c1, t - k ≤ c1 ∧
    (∀ (W : World), (Instr.slice 24 (.slice A n c) (some (.int K1 (k : Int))) (some (.int K2 (t : Int))) none).run Try.prog W = .ok (.slice A1 (t - k) c1) W) ∧
    (∀ (W : World), (Instr.sliceAt 24 (.slice A n c) (some (.int K1 (k : Int))) (some (.int K2 (t : Int))) none).run Try.prog W = .ok (.slice A1 (t - k) c1) W) ∧
    ∀ w B l, Rd .u8 256 w B A n l → Rd .u8 256 w B A1 (t - k) ((l.drop k).take (t - k)) := by
  have h1 : ∀ W : World, (Instr.slice 24 (.slice A n c) (some (.int K1 (k : Int))) (some (.int K2 (t : Int))) none).run Try.prog W = .ok (.slice (if c = k then A else A.map (·.add k)) (t - k) (c - k)) W := fun W => by
    rw [run_slice_lh (P := Try.prog) (w := W) 24 A n c under22 K1 K2 (k : Int) (t : Int) (by omega) (by omega) (by omega), elem22, size5]
    simp only [Result.andThen, sliced, Int.toNat_natCast, Nat.mul_one]
  refine ⟨_, _, ?_, h1, fun W => ?_, fun w B l hr => ?_⟩
  · omega
  · rw [run_sliceAt_slice (P := Try.prog) (w := W) 24 _ _ _ _ under22]; exact h1 W
  · exact (hr.drop (c := c) (k := k) (by omega) hnc).take (by omega)

/-- A block that is a frame. -/
def BxF (w : World) (g : Nat) (x : Nat) (A : Option Addr) (n c : Nat) : Prop := w.heap[g]? = some (.cells #[.int .u16 (x : Int), .slice A n c] 39 (0, 0))
theorem BxF.all {w : World} {g x n c : Nat} {A : Option Addr} (h : BxF w g x A n c) : w.cell? ⟨g, 0, none⟩ = some (.int .u16 (x : Int)) ∧ w.cell? ⟨g, 1, none⟩ = some (.slice A n c) ∧ (∀ j, w.frozen? ⟨g, j, none⟩ = false) ∧ g < w.heap.size := by
  have hl := (Array.getElem?_eq_some_iff.1 h).1
  unfold BxF at h
  exact ⟨by simp [World.cell?, h], by simp [World.cell?, h], fun j => by simp [World.frozen?, h], hl⟩
theorem BxF.call {w w' : World} {g x n c : Nat} {A : Option Addr} (h : BxF w g x A n c) (hb : Below w.heap.size w w') : BxF w' g x A n c := (hb.block g h.all.2.2.2).trans h
theorem own_setBelow {w : World} {base n c : Nat} {A : Option Addr} {l : List Nat} (h : Own .u8 256 5 w base A n c l) {g j : Nat} (hg : g < base) (v : Value) : Own .u8 256 5 (w.setCell ⟨g, j, none⟩ v) base A n c l :=
  ⟨h.1, ownsRow_setCell_below h.2.1 (a := ⟨g, j, none⟩) hg v, h.2.2.keep fun k hk => Below.heap_setCell w ⟨g, j, none⟩ v k (by have := (h.blk k hk).1; show k ≠ g; omega)⟩
def GivesRead (b : List Nat) (most : Nat) (w : World) (e : Ending) (w' : World) : Prop :=
  if erF b most = 0 then ∃ A c, e = .returned (.tuple #[.agg #[.int .u16 (chF b : Nat), .slice A (bodyF b).length c], .int .i64 (nF b : Nat), .int .i64 0]) ∧ Own .u8 256 5 w' w.heap.size A (bodyF b).length c (bodyF b) ∧ Below w.heap.size w w'
  else e = .returned (.tuple #[.agg #[.int .u16 0, .slice none 0 0], .int .i64 0, .int .i64 (erF b most : Nat)]) ∧ Below w.heap.size w w'
theorem chan_8 (h0 h1 h2 h3 h4 h5 h6 h7 : Nat) (h8 : Hd8 [h0, h1, h2, h3, h4, h5, h6, h7]) (w : World) : Calls Try.prog 37 #[.agg #[.int .u8 (h0 : Int), .int .u8 (h1 : Int), .int .u8 (h2 : Int), .int .u8 (h3 : Int), .int .u8 (h4 : Int), .int .u8 (h5 : Int), .int .u8 (h6 : Int), .int .u8 (h7 : Int)]] w (Says (.int .u16 (nb [h6, h7] : Nat)) w) := chan_any _ h8 w
set_option maxHeartbeats 4000000 in
theorem read_any (A : Option Addr) (n c : Nat) (b : List Nat) (most : Nat) (w : World) (hr : Rd .u8 256 w w.heap.size A n b) (hnc : n ≤ c) (hn : n ≤ 1099511627776) (hm : most < 4294967296) : Calls Try.prog 26 #[.slice A n c, .int .u32 (most : Int)] w (GivesRead b most w) := by
  obtain ⟨h0, h1, h2, h3, h4, h5, h6, h7, hh⟩ := list8 (hd8 b) (hd8_len b)
  have hl := hr.len
  have h8 : Hd8 [h0, h1, h2, h3, h4, h5, h6, h7] := hh ▸ hd8_8 hr.lim
  have hF := ask_first hh most
  rw [hl] at hF
  have HF := Lib.hid hF
  clear hF
  have HH := Lib.hid hh
  have HR := Lib.hid hr
  have H8 := Lib.hid h8
  clear hh hr h8
  have hx0 : BxH ((w.alloc (.cells #[.int .u16 0, .slice none 0 0] 39)).alloc (.cells #[.int .u8 0, .int .u8 0, .int .u8 0, .int .u8 0, .int .u8 0, .int .u8 0, .int .u8 0, .int .u8 0] 66)) (w.heap.size + 1) (List.replicate 8 0) := by
    have := BxH.new (w.alloc (.cells #[.int .u16 0, .slice none 0 0] 39)) (List.replicate 8 0)
    rwa [World.size_alloc] at this
  have hb0 : Below w.heap.size w ((w.alloc (.cells #[.int .u16 0, .slice none 0 0] 39)).alloc (.cells #[.int .u8 0, .int .u8 0, .int .u8 0, .int .u8 0, .int .u8 0, .int .u8 0, .int .u8 0, .int .u8 0] 66)) := ba (ba (Below.refl _ _) _) _
  have hf0 : ((w.alloc (.cells #[.int .u16 0, .slice none 0 0] 39)).alloc (.cells #[.int .u8 0, .int .u8 0, .int .u8 0, .int .u8 0, .int .u8 0, .int .u8 0, .int .u8 0, .int .u8 0] 66)).heap[w.heap.size]? = some (.cells #[.int .u16 0, .slice none 0 0] 39 (0, 0)) := ((ba (Below.refl _ _) _).block _ (by simp)).trans (heap_alloc_new w _)
  have HX0 := Lib.hid hx0
  have HB0 := Lib.hid hb0
  have HF0 := Lib.hid hf0
  clear hx0 hb0 hf0
  go_enter Try.func26, Try.ntmps26
  have hr0 : Rd .u8 256 ((w.alloc (.cells #[.int .u16 0, .slice none 0 0] 39)).alloc (.cells #[.int .u8 0, .int .u8 0, .int .u8 0, .int .u8 0, .int .u8 0, .int .u8 0, .int .u8 0, .int .u8 0] 66)) w.heap.size A n b := HR.out.below HB0.out
  have hw64 : IntKind.u64.wrap (n : Int) = (n : Int) := by simp only [IntKind.wrap, IntKind.bits, IntKind.signed]; simp; omega
  have hwm : IntKind.u64.wrap (most : Int) = (most : Int) := by simp only [IntKind.wrap, IntKind.bits, IntKind.signed]; simp; omega
  go_wp2_with (first
    | ((with_reducible show wpList _ _ _ _ _ _); refine wpList_copy_hd (o := ⟨some 13, _, _, _, _, _⟩) rfl _ _ rfl rfl rfl HX0.out rfl hr0 (by omega) ?_; intro w1 hx1 hb1; have hx2 : BxH w1 (w.heap.size + 1) [h0, h1, h2, h3, h4, h5, h6, h7] := HH.out ▸ hx1; obtain ⟨c0, c1, c2, c3, c4, c5, c6, c7⟩ := hx2.eight; have HX2 := Lib.hid hx2; have HB1 := Lib.hid (HB0.out.trans (hb1.mono (by omega))); have HF1 := Lib.hid ((hb1.block w.heap.size (by omega)).trans HF0.out); clear hx1 hx2 hb1 hr0)
    | (go_at_call 34; (with_reducible refine (asks_any h0 h1 h2 h3 h4 h5 h6 h7 n most _ H8.out).mono ?_); rintro e w2 ⟨g, rfl, hgl, hq, hb2⟩))
  have hx3 := HX2.out.call hb2
  have hb3 := HB1.out.trans (hb2.mono HB1.out.size)
  have hf3 := (hb2.block w.heap.size (Array.getElem?_eq_some_iff.1 HF1.out).1).trans HF1.out
  have hfl := (Array.getElem?_eq_some_iff.1 hf3).1
  have HX3 := Lib.hid hx3
  have HB3 := Lib.hid hb3
  have HF3 := Lib.hid hf3
  have HQ := Lib.hid hq
  clear hx3 hb3 hf3 hb2 hq c0 c1 c2 c3 c4 c5 c6 c7 HX2 HB1 HF1 HX0 HB0 HF0 hw64 hwm
  generalize hqs : qsF (nb [h0, h1, h2, h3]) (4 * h4) h5 n most = qs at *
  have hql : qs.length = 7 := by rw [← hqs]; rfl
  have HQS := Lib.hid hqs
  clear hqs
  go_loopw [6, 22] (fun e i wr => ∃ j : Nat, j ≤ 7 ∧ i = .int .i64 (j : Int) ∧ e = .int .i64 0 ∧ (∀ k x, k < j → qs[k]? = some x → x = 0) ∧ Below w2.heap.size w2 wr) (fun _ i _ => 7 - (intOf i).toNat)
  case atStart => exact ⟨0, by omega, rfl, rfl, fun k x hk => by omega, Below.refl _ _⟩
  case round =>
    obtain ⟨j, hj, rfl, rfl, hz, hb⟩ := hrel
    have HZ := Lib.hid hz
    have HB := Lib.hid hb
    clear hz hb
    by_cases hlt : j < 7
    · obtain ⟨q, hqj⟩ : ∃ q, qs[j]? = some q := ⟨qs[j]'(by omega), List.getElem?_eq_getElem (by omega)⟩
      obtain ⟨v, hcv, f, caps, rfl, hent, hcall⟩ := HQ.out j q hqj
      have hcell := (HB.out.cell (p := ⟨g, j, none⟩) hgl).trans hcv
      have HC := Lib.hid (hcall wr HB.out)
      have HQJ := Lib.hid hqj
      clear hcv hcall hqj
      go_wp2_with fail
      refine HC.out.mono ?_
      rintro e w3 ⟨rfl, hb4⟩
      have hbx : Below w2.heap.size w2 w3 := bn HB.out hb4
      by_cases hq0 : q = 0
      · subst hq0
        have HBX := Lib.hid hbx
        clear hbx hb4 hcell
        go_wp2
        exact ⟨⟨j + 1, by omega, by go_num, rfl, fun k x hk hx => by
          rcases Nat.lt_or_ge k j with h | h
          · exact HZ.out k x h hx
          · obtain rfl : k = j := by omega
            have := HQJ.out.symm.trans hx
            injection this with this
            exact this.symm, HBX.out⟩, by simp [intOf]; omega⟩
      · have d : (q != 0) = true := by simpa using hq0
        have hE : (erF b most : Int) = q := HF.out.symm.trans (fnz_at HZ.out HQJ.out hq0)
        have HE := Lib.hid hE
        have hF4 : BxF w3 w.heap.size 0 none 0 0 := (hbx.block _ hfl).trans HF3.out
        obtain ⟨p0, p1, pf, _⟩ := hF4.all
        have HBX := Lib.hid (HB3.out.trans (hbx.mono HB3.out.size))
        clear hbx hb4 hcell hE hF4
        go_wp2
        refine bodyPost_ret (v := .tuple #[.agg #[.int .u16 0, .slice none 0 0], .int .i64 0, .int .i64 q]) (by simp [results, Try.results26, go_sem, p0, p1]) rfl ?_
        unfold GivesRead
        rw [if_neg (by intro h; have := HE.out; rw [h] at this; exact hq0 this.symm)]
        exact ⟨by rw [HE.out], (HBX.out.setCell (by simp) _).setCell (by simp) _⟩
    · obtain rfl : j = 7 := by omega
      have hE : (erF b most : Int) = 0 := HF.out.symm.trans (fnz_all fun k x hk hx => HZ.out k x (by omega) hx)
      have hE0 : erF b most = 0 := by omega
      obtain ⟨e1, e2, e3, e4, e5, e6⟩ := erF_ok hE0
      have HE := Lib.hid hE0
      have hS : nb [h0, h1, h2, h3] = nF b := by
        have := hd8_take b 4 (by omega) (by omega)
        rw [HH.out] at this
        unfold nF
        rw [← this]
        rfl
      have hP : 4 * h4 = 4 * b.getD 4 0 := by
        have := hd8_at b 4 (by omega) (by omega)
        rw [HH.out] at this
        simp at this
        simp [this]
      have hC : nb [h6, h7] = chF b := by
        have := hd8_drop b (by omega)
        rw [HH.out] at this
        unfold chF
        rw [← this]
        rfl
      have HC := Lib.hid hC
      have HBD : Hid (bodyF b = (b.drop (4 * b.getD 4 0)).take (nF b - 4 * b.getD 4 0)) := Lib.hid rfl
      rw [hl] at e3
      generalize hSS : nF b = S at *
      generalize hPP : 4 * b.getD 4 0 = P at *
      generalize hCC : chF b = C at *
      have HSS := Lib.hid hSS
      have HCC := Lib.hid hCC
      clear hSS hPP hCC e6 hE hE0 hC
      obtain ⟨A1, c1, hc1, q1, q2, hcut⟩ := cut_mix .u64 .i64 A n c P S e5 e3 hnc
      have hX4 := HX3.out.call HB.out
      have hF4 : BxF wr w.heap.size 0 none 0 0 := (HB.out.block _ hfl).trans HF3.out
      have hR4 := HR.out.below (HB3.out.trans (HB.out.mono HB3.out.size))
      have HX4 := Lib.hid hX4
      have HF4 := Lib.hid hF4
      have HR4 := Lib.hid (hcut wr _ _ hR4)
      have hgw : w.heap.size < wr.heap.size := hF4.all.2.2.2
      have HB4 := Lib.hid (HB3.out.trans (HB.out.mono HB3.out.size))
      obtain ⟨c0, c1', c2, c3, c4, c5, c6, c7⟩ := hX4.eight
      have hwS : IntKind.i64.wrap (S : Int) = (S : Int) := IntWalk.i64_in _ (by omega)
      clear hX4 hF4 hR4 hcut HZ HB HQ
      go_wp2_with (first
        | (go_at_call 35; (with_reducible refine (size_8 h0 h1 h2 h3 h4 h5 h6 h7 H8.out _).mono ?_); rintro e w4 ⟨rfl, hb4⟩; rw [hS]; obtain ⟨c0, c1', c2, c3, c4, c5, c6, c7⟩ := (HX4.out.call hb4).eight)
        | (go_at_call 36; (with_reducible refine (start_8 h0 h1 h2 h3 h4 h5 h6 h7 P hP H8.out _).mono ?_); rintro e w5 ⟨rfl, hb5⟩; have hr5 := HR4.out.below ((bn hb4 hb5).mono (by omega)); have ho5 := Own.nil .u8 256 5 w5 w5.heap.size)
        | (at_builtin; refine wpList_app8 (l := (b.drop P).take (S - P)) (L := []) rfl _ _ rfl rfl ho5 rfl hr5 (by omega) (Nat.le_refl _) ?_; intro A6 c6' w6 ho6 hg6; have hb6 := bn (bn hb4 hb5) (below_grown ho5 hg6 (Nat.le_refl _)); obtain ⟨c0, c1', c2, c3, c4, c5, c6, c7⟩ := (HX4.out.call hb6).eight)
        | (go_at_call 37; (with_reducible refine (chan_8 h0 h1 h2 h3 h4 h5 h6 h7 H8.out _).mono ?_); rintro e w7 ⟨rfl, hb7⟩; obtain ⟨p0, p1, pf, _⟩ := (HF4.out.call (bn hb6 hb7)).all))
      rw [HC.out]
      have hlw : (bodyF b).length = S - P := by rw [HBD.out]; exact hr5.len
      have h5w : w.heap.size < w5.heap.size := Nat.lt_of_lt_of_le hgw (bn hb4 hb5).size
      have ho7 : Own .u8 256 5 w7 w5.heap.size A6 (S - P) c6' (bodyF b) := by
        have := ho6.below hb7
        rw [HBD.out]
        simpa using this
      have hb8 := (HB4.out.trans ((bn hb6 hb7).mono (by omega)))
      refine bodyPost_ret (v := .tuple #[.agg #[.int .u16 (C : Int), .slice A6 (S - P) c6'], .int .i64 (S : Int), .int .i64 0]) (by simp [results, Try.results26, go_sem, p0, p1]) rfl ?_
      unfold GivesRead
      rw [if_pos HE.out, hlw, HSS.out, HCC.out]
      exact ⟨A6, c6', rfl, Own.mono (own_setBelow (own_setBelow ho7 h5w _) h5w _) (by omega), (hb8.setCell (by simp) _).setCell (by simp) _⟩
end Go.Proofs.Ytdjncacknmejoaa.Fr
