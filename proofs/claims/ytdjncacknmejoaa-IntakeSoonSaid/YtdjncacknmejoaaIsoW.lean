/-
  The statement IntakeSoon, walked: it answers true. Memory that was there stays. No condition.
-/
import Derived.Test.YtdjncacknmejoaaIrs
import Derived.Test.YtdjncacknmejoaaFrg
import Derived.Test.YtdjncacknmejoaaFrw
namespace Go.Proofs.Ytdjncacknmejoaa.intakeSoon
set_option maxRecDepth 100000
open Go.RowKit Go.Proofs.Ytdjncacknmejoaa.Utf Go.Proofs.Ytdjncacknmejoaa.Enc Go.Proofs.Ytdjncacknmejoaa.Fr Go.Proofs.Ytdjncacknmejoaa.It

/-- The intake when so many bytes of a row came. -/
def stS (went : Bool) (T : List Nat) (k : Nat) : St := ⟨1024, T.take k, false, went⟩
theorem put_S {went : Bool} {T : List Nat} {k : Nat} (hk : k < T.length) (hl : T.length ≤ 208) : put (stS went T k) ((T.drop k).take 1) = stS went T (k + 1) ∧ ((min 1 (room (stS went T k)) : Nat) : Int) = 1 := by
  have h2 : room (stS went T k) = 1032 - k := by
    unfold room stS
    simp only [Bool.false_eq_true, if_false, List.length_take]
    omega
  refine ⟨?_, by rw [h2]; omega⟩
  unfold put
  rw [h2, List.take_take, Nat.min_eq_right (by omega)]
  have : T.take k ++ (T.drop k).take 1 = T.take (k + 1) := by rw [List.take_add]
  show (⟨1024, T.take k ++ (T.drop k).take 1, false, went⟩ : St) = ⟨1024, T.take (k + 1), false, went⟩
  rw [this]
theorem kh : ∀ j : Fin 8, kind ⟨1024, hdr.take (j.val + 1), false, false⟩ = if j.val = 7 then 1 else 0 := by decide
theorem none_h {k : Nat} (hk : k + 1 < 8) : kind (stS false hdr (k + 1)) = 0 := by
  have := kh ⟨k, by omega⟩
  rw [if_neg (show ¬ k = 7 by omega)] at this
  exact this
theorem last_h {k : Nat} (hk : k + 1 = 8) : kind (stS false hdr (k + 1)) = 1 ∧ next (stS false hdr (k + 1)) = stS true [] 0 := by
  obtain rfl : k = 7 := by omega
  have := kh ⟨7, by omega⟩
  rw [if_pos rfl] at this
  exact ⟨this, (next_1 this).trans rfl⟩
theorem none_f {ch k : Nat} {b : List Nat} (hb : b.length ≤ 200) (hk : k + 1 < (layF ch b).length) : kind (stS true (layF ch b) (k + 1)) = 0 := by
  have e0 := layF_er ch b [] 1024 (by omega)
  have n0 := layF_nF ch b [] (by omega)
  rw [List.append_nil, if_neg (by omega)] at e0
  rw [List.append_nil] at n0
  have hl := layF_length ch b
  have := erF_cut e0 (k := k + 1) (by omega)
  unfold kind stS
  simp [this]
theorem last_f {ch k : Nat} {b : List Nat} (hch : ch < 65536) (hb : b.length ≤ 200) (hk : k + 1 = (layF ch b).length) :
    kind (stS true (layF ch b) (k + 1)) = 2 ∧ chN (stS true (layF ch b) (k + 1)) = ch ∧ bdN (stS true (layF ch b) (k + 1)) = b ∧ next (stS true (layF ch b) (k + 1)) = stS true [] 0 := by
  have e0 := layF_er ch b [] 1024 (by omega)
  have n0 := layF_nF ch b [] (by omega)
  have c0 := layF_ch ch b [] hch
  have b0 := layF_body ch b [] (by omega)
  rw [List.append_nil] at e0 n0 c0 b0
  rw [if_neg (by omega)] at e0
  have hl := layF_length ch b
  have ht : (layF ch b).take (k + 1) = layF ch b := List.take_of_length_le (by omega)
  have hk2 : kind (stS true (layF ch b) (k + 1)) = 2 := by
    unfold kind stS
    simp [ht, e0]
  refine ⟨hk2, ?_, ?_, ?_⟩
  · unfold chN; rw [if_pos hk2]; show chF ((layF ch b).take (k + 1)) = ch; rw [ht, c0]
  · unfold bdN; rw [if_pos hk2]; show bodyF ((layF ch b).take (k + 1)) = b; rw [ht, b0]
  · refine (next_2 hk2 (8 + b.length) ?_).trans ?_
    · show nF ((layF ch b).take (k + 1)) = _
      rw [ht, n0]
    · show (⟨1024, ((layF ch b).take (k + 1)).drop (8 + b.length), false, true⟩ : St) = ⟨1024, [].take 0, false, true⟩
      rw [ht, List.drop_of_length_le (by omega)]
      rfl
theorem In.low {w w' : World} {g h B : Nat} {s : St} (i : In w g h s) (hb : Below B w w') (hg : g < B) (hh : h < B) : In w' g h s :=
  i.off (X := fun i => B ≤ i) ⟨hb.os, hb.tape, hb.output, hb.size, fun k _ hx => hb.block k (by omega)⟩ (by omega) (by omega)
/-- .. between the rows' bytes. -/
def stK (went : Bool) (T : List Nat) (k : Nat) : St := if k < T.length then stS went T k else stS true [] 0
theorem new_1024 (w : World) : Calls Try.prog 11 #[.int .u32 1024] w (GivesNew 1024 w) := new_yes 1024 w (by omega) (by omega)
/-- The rows: the header, and the frames' bytes. -/
def rowsT (fs : List (Nat × List Nat)) : List (List Nat) := hdr :: fs.map fun f => layF f.1 f.2
theorem rowsT_take (fs : List (Nat × List Nat)) (j : Nat) (f : Nat × List Nat) (h : fs[j]? = some f) : rowsT (fs.take (j + 1)) = rowsT (fs.take j) ++ [layF f.1 f.2] := by
  unfold rowsT
  rw [List.take_add_one, h]
  simp
theorem walk_long (A : Option Addr) (n c : Nat) (w : World) (h : 12 < n) :
    Calls Try.prog 5 #[.slice A n c] w fun e w' => e = .returned (.bool true) ∧ Below w.heap.size w w' := by
  have d : decide (12 < (n : Int)) = true := by simp; omega
  clear h
  go_enter Try.func5, Try.ntmps5
  go_wp2_with (go_at_call 10; (with_reducible refine (works12_any _).mono ?_); rintro e w1 ⟨rfl, hb1⟩)
  go_ret
  exact ⟨rfl, hb1⟩
set_option maxHeartbeats 4000000 in
theorem walk_main (fs : List (Nat × List Nat)) (A : Option Addr) (n c : Nat) (w : World) (hf : Frs w A n fs) (h : n ≤ 12) :
    Calls Try.prog 5 #[.slice A n c] w fun e w' => e = .returned (.bool true) ∧ Below w.heap.size w w' := by
  have d : decide (12 < (n : Int)) = false := by simp; omega
  have HF := Lib.hid hf
  have hfl := hf.1
  have HFL := Lib.hid hfl
  clear hf hfl
  go_enter Try.func5, Try.ntmps5
  go_wp2_with fail
  (with_reducible refine (new_1024 _).mono ?_)
  rintro e w1 ⟨g, h0, rfl, hi1, hg, hh, hb1⟩
  go_wp2_with fail
  (with_reducible refine (It.start_any _).mono ?_)
  rintro e w2 ⟨gs, rfl, hs2, hgs, hb2⟩
  have HI1 := Lib.hid hi1
  have HGL := Lib.hid (⟨hi1.glt, hi1.lt, hg, hh⟩ : g < w1.heap.size ∧ h0 < w1.heap.size ∧ w.heap.size ≤ g ∧ w.heap.size ≤ h0)
  have hrw := RowsI.lit w2 (base := w1.heap.size) hs2.rd (Nat.le_refl 8) hb2.size (fun b o e => by injection e with e; injection e with e _ _; have := hs2.lt; omega)
  have HRW := Lib.hid hrw
  have HB2 := Lib.hid (ba (bn hb1 hb2) (.cells #[.slice (some ⟨gs, 0, none⟩) 8 8] 24))
  have HI2 := Lib.hid (((hi1.call hb2).call (ba (Below.refl _ _) (.cells #[.slice (some ⟨gs, 0, none⟩) 8 8] 24))))
  have HS1 := Lib.hid (show w1.heap.size ≤ (w2.alloc (.cells #[.slice (some ⟨gs, 0, none⟩) 8 8] 24)).heap.size by have := hb2.size; simp; omega)
  clear hi1 hg hh hb1 hs2 hgs hb2 hrw
  go_wp2_with fail
  go_loopw [5, 6] (fun r i wr => ∃ (j : Nat) (A' : Option Addr) (n' c' : Nat), j ≤ n ∧ i = .int .i64 (j : Int) ∧ r = .slice A' n' c' ∧ n' = j + 1 ∧ RowsI wr w1.heap.size A' n' c' (rowsT (fs.take j)) ∧ (∀ k f, k < j → fs[k]? = some f → f.2.length ≤ 200 ∧ f.1 < 65536) ∧ In wr g h0 (stS false hdr 0) ∧ Below w.heap.size w wr ∧ w1.heap.size ≤ wr.heap.size) (fun _ i _ => n - (intOf i).toNat)
  case atStart => exact ⟨0, _, 1, 1, by omega, rfl, rfl, rfl, HRW.out, fun k f hk => by omega, HI2.out, HB2.out, HS1.out⟩
  case round =>
    obtain ⟨j, A', n', c', hj, rfl, rfl, hn', hro, hall, hi, hb, hs1⟩ := hrel
    have HRO := Lib.hid hro
    have HA := Lib.hid hall
    have HI := Lib.hid hi
    have HB := Lib.hid hb
    have HSZ := Lib.hid hs1
    clear hro hall hi hb hs1
    by_cases hlt : j < n
    · obtain ⟨fb, fo, ch, body, BA, bl, bc, e, hfb, hx, p0, p1, hch, hr, hk⟩ := (HF.out.call HB.out).2 j hlt
      subst e
      have d2 : decide ((j : Int) < (n : Int)) = true := by simp; omega
      have i0 : (0 : Int) ≤ (j : Int) := by omega
      have i1 : (j : Int) < (n : Int) := by omega
      have hbl := hr.len
      by_cases hlong : 200 < bl
      · have d3 : decide (200 < (bl : Int)) = true := by simp; omega
        clear hx hr hn' hk hbl
        go_wp2_with (go_at_call 10; (with_reducible refine (works12_any _).mono ?_); rintro e w3 ⟨rfl, hb3⟩)
        go_ret
        exact ⟨rfl, bn HB.out hb3⟩
      · have d3 : decide (200 < (bl : Int)) = false := by simp; omega
        have HW := Lib.hid (write_any ch BA bl bc body wr hch hr (by omega))
        have HX := Lib.hid hx
        have HBL : Hid (body.length ≤ 200 ∧ ch < 65536) := Lib.hid ⟨by omega, hch⟩
        clear hx hr hk hbl
        go_wp2_with fail
        refine HW.out.mono ?_
        rintro e w3 ⟨A3, n3, c3, rfl, ho3, hb3⟩
        have hl3 := ho3.len
        have hc3 := ho3.cap.1
        have hro3 := HRO.out.call (bn hb3 (ba (Below.refl _ _) (.cells #[.slice A3 n3 c3] 24)))
        have hr3 := ho3.rd.call (ba (Below.refl _ _) (.cells #[.slice A3 n3 c3] 24))
        have hA3 : ∀ b o, A3 = some ⟨b, o, none⟩ → w1.heap.size ≤ b ∧ b < (w3.alloc (.cells #[.slice A3 n3 c3] 24)).heap.size ∧ ∀ g o', A' = some ⟨g, o', none⟩ → b ≠ g := fun b o e => by
          have h1 := ho3.blk b (by rw [e]; rfl)
          have h2 := HSZ.out
          refine ⟨by omega, by simp; omega, fun g o' e' => ?_⟩
          obtain ⟨g', _, _, _, _, e2, _, _, _, _, _, hlt2, _⟩ := HRO.out.at (i := 0) (by omega)
          rw [e'] at e2
          injection e2 with e2
          injection e2 with e2 _ _
          omega
        have hi3 := HI.out.call (bn hb3 (ba (Below.refl _ _) (.cells #[.slice A3 n3 c3] 24)))
        have hb3' := ba (bn HB.out hb3) (.cells #[.slice A3 n3 c3] 24)
        have hcell3 : (w3.alloc (.cells #[.slice A3 n3 c3] 24)).cell? ⟨w3.heap.size, 0, none⟩ = some (.slice A3 n3 c3) := by rw [World.cell?_alloc_at _ _ _ _ rfl]; rfl
        have hs3 : w1.heap.size ≤ (w3.alloc (.cells #[.slice A3 n3 c3] 24)).heap.size := by have := HSZ.out; have := hb3.size; simp; omega
        have HL3 := Lib.hid hA3
        have HTK := Lib.hid (rowsT_take fs j _ HX.out)
        have HALL : Hid (∀ k f, k < j + 1 → fs[k]? = some f → f.2.length ≤ 200 ∧ f.1 < 65536) := Lib.hid fun k f hk hf => by
          by_cases hkj : k < j
          · exact HA.out k f hkj hf
          · obtain rfl : k = j := by omega
            rw [HX.out] at hf
            injection hf with hf
            subst hf
            exact HBL.out
        subst hn'
        clear hA3 hb3 ho3 hl3
        go_wp2_with (first
          | (at_builtin; refine wpList_rows (base := w1.heap.size) rfl _ _ rfl rfl hro3 rfl hcell3 hr3 hc3 HL3.out (by omega) hs3 ?_; intro A4 c4 w4 hro4 hb4 ho4)
          | fail)
        have HRO4 := Lib.hid hro4
        have HI4 := Lib.hid (In.low hi3 hb4 HGL.out.1 HGL.out.2.1)
        have HB4 := Lib.hid (hb3'.trans (hb4.mono (show w.heap.size ≤ w1.heap.size by have := HGL.out; omega)))
        have HS4 := Lib.hid (Nat.le_trans hs3 hb4.size)
        have HJ := Lib.hid (show j + 1 ≤ n by omega)
        clear hro4 hb4 ho4 hi3 hb3' hcell3 hs3 hro3 hr3
        go_roundw
        case rel => exact ⟨j + 1, A4, j + 1 + 1, c4, HJ.out, by go_num, rfl, rfl, by rw [HTK.out]; exact HRO4.out, HALL.out, HI4.out, HB4.out, HS4.out⟩
        case measure => simp [intOf]; omega
    · obtain rfl : j = n := by omega
      have d2 : decide ((j : Int) < (j : Int)) = false := by simp
      have htk : fs.take j = fs := List.take_of_length_le (by rw [HFL.out]; exact Nat.le_refl _)
      rw [htk] at HRO
      clear htk
      have HL2 : Hid (∀ r T, (rowsT fs)[r]? = some T → (r = 0 ∧ T = hdr) ∨ ∃ r1 ch body, r = r1 + 1 ∧ fs[r1]? = some (ch, body) ∧ T = layF ch body ∧ body.length ≤ 200 ∧ ch < 65536) := Lib.hid fun r T hT => by
        unfold rowsT at hT
        rcases r with _ | r
        · simp at hT
          exact .inl ⟨rfl, hT.symm⟩
        · rw [List.getElem?_cons_succ, List.getElem?_map] at hT
          rcases hf : fs[r]? with _ | ⟨ch, body⟩
          · rw [hf] at hT; cases hT
          · rw [hf] at hT
            simp at hT
            have hr1 := (List.getElem?_eq_some_iff.1 hf).1
            have := HA.out r _ (by have := HFL.out; omega) hf
            exact .inr ⟨r, ch, body, rfl, hf, hT.symm, this.1, this.2⟩
      subst hn'
      go_wp2_with fail
      go_loopw [7] (fun i wx => ∃ r : Nat, r ≤ j + 1 ∧ i = .int .i64 (r : Int) ∧ In wx g h0 (stS (decide (0 < r)) [] 0) ∧ RowsI wx w1.heap.size A' (j + 1) c' (rowsT fs) ∧ Below w.heap.size w wx) (fun i _ => j + 1 - (intOf i).toNat)
      case atStart => exact ⟨0, by omega, rfl, HI.out, HRO.out, HB.out⟩
      case round =>
        obtain ⟨r, hr, rfl, hi, hro, hb⟩ := hrel
        rename World => wx
        have HIX := Lib.hid hi
        have HRX := Lib.hid hro
        have HBX := Lib.hid hb
        clear hi hro hb
        by_cases hlt2 : r < j + 1
        · obtain ⟨gr, T, B, m, dd, rfl, hT, hcr, hmd, hrT, hgr1, hgr2, hBb⟩ := HRX.out.at hlt2
          have hkind := HL2.out r T hT
          have hTl : T.length = m := hrT.len
          have hm8 : 8 ≤ m ∧ m ≤ 208 := by
            rcases hkind with ⟨_, rfl⟩ | ⟨r1, ch, body, _, _, rfl, hb2, _⟩
            · rw [← hTl]; exact ⟨by decide, by decide⟩
            · rw [← hTl, layF_length]; omega
          have HK := Lib.hid hkind
          have HTT := Lib.hid hT
          have HTL := Lib.hid hTl
          clear hkind hT hTl
          obtain ⟨hm8, hm208⟩ := hm8
          have d3 : decide ((r : Int) < (j : Int) + 1) = true := by simp; omega
          have i0 : (0 : Int) ≤ (r : Int) := by omega
          have i1 : (r : Int) < (j : Int) + 1 := by omega
          have d4 : decide ((m : Int) < 8) = false := by simp; omega
          have HCR := Lib.hid hcr
          have HRT := Lib.hid hrT
          have HBB := Lib.hid hBb
          have hgx : ¬ Xi g h0 gr := fun e => by have := HGL.out; rcases e with e | e <;> omega
          clear hrT hBb
          go_wp2_with fail
          go_loopw [8] (fun i wy => ∃ k : Nat, k ≤ m ∧ i = .int .i64 (k : Int) ∧ In wy g h0 (stK (decide (0 < r)) T k) ∧ RowsI wy w1.heap.size (some ⟨gr, 0, none⟩) (j + 1) c' (rowsT fs) ∧ Below w.heap.size w wy ∧ wx.heap.size ≤ wy.heap.size ∧ wy.cell? ⟨gr, r, none⟩ = some (.slice B m dd) ∧ Rd .u8 256 wy wy.heap.size B m T) (fun i _ => m - (intOf i).toNat)
          case atStart => exact ⟨0, by omega, rfl, by rw [show stK (decide (0 < r)) T 0 = stS (decide (0 < r)) [] 0 from if_pos (by rw [HTL.out]; omega)]; exact HIX.out, HRX.out, HBX.out, Nat.le_refl _, HCR.out, HRT.out⟩
          case round =>
            obtain ⟨k, hk, rfl, hi, hro, hb, hsx, hcy, hry⟩ := hrel
            rename World => wy
            have HIY := Lib.hid hi
            have HRY := Lib.hid hro
            have HBY := Lib.hid hb
            have HSX := Lib.hid hsx
            have HRB := Lib.hid hry
            clear hi hro hb hsx hry
            by_cases hlt3 : k < m
            · have d5 : decide ((k : Int) < (m : Int)) = true := by simp; omega
              have HJ := Lib.hid (show k + 1 ≤ m by omega)
              have hst : stK (decide (0 < r)) T k = stS (decide (0 < r)) T k := if_pos (by rw [HTL.out]; exact hlt3)
              rw [hst] at HIY
              obtain ⟨hp, hq1⟩ := put_S (went := decide (0 < r)) (k := k) (show k < T.length by rw [HTL.out]; exact hlt3) (by rw [HTL.out]; exact hm208)
              obtain ⟨A1, e1, he1, s1, s2, hcut⟩ := cut_mix .i64 .i64 B m dd k (k + 1) (by omega) (by omega) hmd
              rw [show k + 1 - k = 1 by omega] at he1 s1 s2 hcut
              have s1' : ∀ W : World, (Instr.slice 24 (.slice B m dd) (some (.int .i64 (k : Int))) (some (.int .i64 ((k : Int) + 1))) none).run Try.prog W = .ok (.slice A1 1 e1) W := fun W => s1 W
              have s2' : ∀ W : World, (Instr.sliceAt 24 (.slice B m dd) (some (.int .i64 (k : Int))) (some (.int .i64 ((k : Int) + 1))) none).run Try.prog W = .ok (.slice A1 1 e1) W := fun W => s2 W
              have hr1 := hcut _ _ _ HRB.out
              have hheld : (((stS (decide (0 < r)) T k).held.length : Nat) : Int) = (k : Int) := by
                show (((T.take k).length : Nat) : Int) = _
                rw [List.length_take, HTL.out]
                omega
              have HPT := Lib.hid (put_s HIY.out hr1 he1 (by omega) _ 1 hp hq1)
              have HHL := Lib.hid (held_s HIY.out (k : Int) hheld)
              have hu : IntKind.i64.wrap ((k : Int) + 1) = (k : Int) + 1 := by rw [IntKind.wrap_i64]; omega
              clear s1 s2 hcut hr1 hp hq1 hheld hst
              go_wp2_with (first
                | (go_at_call 20; (with_reducible refine HHL.out.mono ?_); rintro e w3 ⟨rfl, rfl⟩)
                | (go_at_call 14; (with_reducible refine HPT.out.mono ?_); rintro e w4 ⟨rfl, hi4, ho4⟩; have hcr4 := (World.cell?_of_block (a := ⟨gr, r, none⟩) (ho4.block gr (Nat.lt_of_lt_of_le hgr2 HSX.out) hgx)).trans hcy)
                | fail)
              have hr4 := (ho4.rd HRB.out (fun b o e => ⟨Nat.lt_of_lt_of_le (HBB.out b o e).2 HSX.out, fun e2 => by have := (HBB.out b o e).1; have := HGL.out; rcases e2 with e2 | e2 <;> omega⟩)).mono ho4.size
              have HRB4 := Lib.hid hr4
              have HRO4 := Lib.hid (HRY.out.off ho4 (fun i e => by rcases e with e | e <;> (have := HGL.out; omega)))
              have HB4 := Lib.hid (offB HBY.out HGL.out.2.2.1 HGL.out.2.2.2 ho4)
              have HS4 := Lib.hid (Nat.le_trans HSX.out ho4.size)
              have HI4 := Lib.hid hi4
              have HC4 := Lib.hid hcr4
              obtain ⟨m1, hm1⟩ : ∃ m1, m - 1 = m1 := ⟨_, rfl⟩
              have hm1i : (m : Int) - 1 = (m1 : Int) := by omega
              have hm1w : IntKind.i64.wrap ((m : Int) - 1) = (m1 : Int) := by rw [hm1i]; exact IntWalk.i64_in _ (by omega)
              have HM1 := Lib.hid hm1
              clear hr4 hi4 ho4 hm1
              by_cases hlast : k + 1 < m
              · have hk0 : kind (stS (decide (0 < r)) T (k + 1)) = 0 := by
                  rcases HK.out with ⟨rfl, rfl⟩ | ⟨r1, ch, body, rfl, _, rfl, hb2, _⟩
                  · exact none_h (by have := HTL.out; have : hdr.length = 8 := rfl; omega)
                  · exact none_f hb2 (by rw [HTL.out]; omega)
                have hst2 : stK (decide (0 < r)) T (k + 1) = stS (decide (0 < r)) T (k + 1) := if_pos (by rw [HTL.out]; omega)
                have HST := Lib.hid hst2
                have HN := Lib.hid (next_at HI4.out 0 0 0 [] (stS (decide (0 < r)) T (k + 1)) (by rw [hk0]; rfl) (chN0 (by omega)) (bdN0 (by omega)) rfl (next_none hk0))
                have e5 : ((k : Int) == (m1 : Int)) = false := by have := HM1.out; simp; omega
                clear hk0 hst2 hlast
                (with_reducible refine HN.out.mono ?_)
                rintro e w7 ⟨A7, c7, rfl, hO7, hi7, ho7⟩
                have HI7 := Lib.hid (hi7.call (ba (Below.refl _ _) (.cells #[.int .u16 0, .slice A7 0 c7] 39)))
                have HB7 := Lib.hid (ba (offB HB4.out HGL.out.2.2.1 HGL.out.2.2.2 ho7) (.cells #[.int .u16 0, .slice A7 0 c7] 39))
                have HRO7 := Lib.hid ((HRO4.out.off ho7 (fun i e => by rcases e with e | e <;> (have := HGL.out; omega))).call (ba (Below.refl _ _) (.cells #[.int .u16 0, .slice A7 0 c7] 39)))
                have HRB7 := Lib.hid (((ho7.rd HRB4.out (fun b o e => ⟨Nat.lt_of_lt_of_le (HBB.out b o e).2 HS4.out, fun e2 => by have := (HBB.out b o e).1; have := HGL.out; rcases e2 with e2 | e2 <;> omega⟩)).mono ho7.size).call (ba (Below.refl _ _) (.cells #[.int .u16 0, .slice A7 0 c7] 39)))
                have hcr7 : (w7.alloc (.cells #[.int .u16 0, .slice A7 0 c7] 39)).cell? ⟨gr, r, none⟩ = some (.slice B m dd) := (World.cell?_of_block (a := ⟨gr, r, none⟩) ((ho7.alloc _).block gr (Nat.lt_of_lt_of_le hgr2 HS4.out) hgx)).trans HC4.out
                have HS7 := Lib.hid (show wx.heap.size ≤ (w7.alloc (.cells #[.int .u16 0, .slice A7 0 c7] 39)).heap.size by have := HS4.out; have := ho7.size; simp; omega)
                have HC7 := Lib.hid hcr7
                clear hi7 ho7 hcr4 hcy hcr
                go_wp2_with fail
                all_goals go_quiet (fail)
                all_goals go_wp2
                go_roundw
                case rel => exact ⟨k + 1, HJ.out, by go_num, by rw [HST.out]; exact HI7.out.call (below_drewN (Below.refl _ _) _), HRO7.out.call (below_drewN (Below.refl _ _) _), below_drewN HB7.out _, HS7.out, HC7.out, HRB7.out.call (below_drewN (Below.refl _ _) _)⟩
                case measure => simp [intOf]; omega
              · rcases HK.out with hz | hz
                · obtain ⟨hr0, rfl⟩ := hz
                  have hrd : decide (0 < r) = false := by simp; omega
                  rw [hrd] at HI4
                  have hk1 : kind (stS false hdr (k + 1)) = 1 ∧ next (stS false hdr (k + 1)) = stS true [] 0 := last_h (by have := HTL.out; have : hdr.length = 8 := rfl; omega)
                  have hst2 : stK (decide (0 < r)) hdr (k + 1) = stS true [] 0 := if_neg (by rw [HTL.out]; omega)
                  have HST := Lib.hid hst2
                  have HN := Lib.hid (next_at HI4.out 1 0 0 [] (stS true [] 0) (by rw [hk1.1]; rfl) (chN0 (by omega)) (bdN0 (by omega)) rfl hk1.2)
                  have e5 : ((k : Int) == (m1 : Int)) = true := by have := HM1.out; simp; omega
                  have e6 : ((r : Int) == 0) = true := by simp; omega
                  have e7 : decide ((0 : Int) < (r : Int)) = false := by simp; omega
                  have e8 : ¬ (0 : Int) < (r : Int) := by omega
                  have e9 : ¬ 0 < r := by omega
                  clear hk1 hst2 hlast hr0
                  (with_reducible refine HN.out.mono ?_)
                  rintro e w7 ⟨A7, c7, rfl, hO7, hi7, ho7⟩
                  have HI7 := Lib.hid (hi7.call (ba (Below.refl _ _) (.cells #[.int .u16 0, .slice A7 0 c7] 39)))
                  have HB7 := Lib.hid (ba (offB HB4.out HGL.out.2.2.1 HGL.out.2.2.2 ho7) (.cells #[.int .u16 0, .slice A7 0 c7] 39))
                  have HRO7 := Lib.hid ((HRO4.out.off ho7 (fun i e => by rcases e with e | e <;> (have := HGL.out; omega))).call (ba (Below.refl _ _) (.cells #[.int .u16 0, .slice A7 0 c7] 39)))
                  have HRB7 := Lib.hid (((ho7.rd HRB4.out (fun b o e => ⟨Nat.lt_of_lt_of_le (HBB.out b o e).2 HS4.out, fun e2 => by have := (HBB.out b o e).1; have := HGL.out; rcases e2 with e2 | e2 <;> omega⟩)).mono ho7.size).call (ba (Below.refl _ _) (.cells #[.int .u16 0, .slice A7 0 c7] 39)))
                  have hcr7 : (w7.alloc (.cells #[.int .u16 0, .slice A7 0 c7] 39)).cell? ⟨gr, r, none⟩ = some (.slice B m dd) := (World.cell?_of_block (a := ⟨gr, r, none⟩) ((ho7.alloc _).block gr (Nat.lt_of_lt_of_le hgr2 HS4.out) hgx)).trans HC4.out
                  have HS7 := Lib.hid (show wx.heap.size ≤ (w7.alloc (.cells #[.int .u16 0, .slice A7 0 c7] 39)).heap.size by have := HS4.out; have := ho7.size; simp; omega)
                  have HC7 := Lib.hid hcr7
                  clear hi7 ho7 hcr4 hcy hcr
                  go_wp2_with fail
                  all_goals go_quiet (fail)
                  all_goals go_wp2
                  go_roundw
                  case rel => exact ⟨k + 1, HJ.out, by go_num, by rw [HST.out]; exact HI7.out.call (below_drewN (Below.refl _ _) _), HRO7.out.call (below_drewN (Below.refl _ _) _), below_drewN HB7.out _, HS7.out, HC7.out, HRB7.out.call (below_drewN (Below.refl _ _) _)⟩
                  case measure => simp [intOf]; omega
                · obtain ⟨r1, ch, body, hr1, hfx, rfl, hb2, hch⟩ := hz
                  have hk2 := last_f hch hb2 (k := k) (by rw [HTL.out]; omega)
                  have hdt : decide (0 < r) = true := by simp; omega
                  rw [hdt] at HI4
                  have hst2 : stK (decide (0 < r)) (layF ch body) (k + 1) = stS true [] 0 := if_neg (by rw [HTL.out]; omega)
                  have HST := Lib.hid hst2
                  obtain ⟨bl, hbl⟩ : ∃ bl, body.length = bl := ⟨_, rfl⟩
                  have HBL := Lib.hid hbl
                  have HFX := Lib.hid hfx
                  have HN := Lib.hid (next_at HI4.out 2 (ch : Int) bl body (stS true [] 0) (by rw [hk2.1]; simp) (by rw [hk2.2.1]) hk2.2.2.1 hbl hk2.2.2.2)
                  have e5 : ((k : Int) == (m1 : Int)) = true := by have := HM1.out; simp; omega
                  have e6 : ((r : Int) == 0) = false := by simp; omega
                  have e7 : decide ((0 : Int) < (r : Int)) = true := by simp; omega
                  have e8 : (r : Int) - 1 = (r1 : Int) := by omega
                  have hb64 : -9223372036854775808 ≤ (r1 : Int) ∧ (r1 : Int) ≤ 9223372036854775807 := by omega
                  have E9 : Hid (IntKind.i64.wrap ((r : Int) - 1) = (r1 : Int)) := Lib.hid (by rw [e8]; exact IntWalk.i64_in _ hb64)
                  have E10 : Hid (wrap64 ((r : Int) - 1) = (r1 : Int)) := Lib.hid (by rw [e8]; exact IntWalk.wrap64_in _ hb64)
                  have E11 : Hid (wrap64 (r1 : Int) = (r1 : Int)) := Lib.hid (IntWalk.wrap64_in _ hb64)
                  have E12 : Hid (IntKind.i64.wrap (r1 : Int) = (r1 : Int)) := Lib.hid (IntWalk.i64_in _ hb64)
                  have HR1 := Lib.hid hr1
                  clear hk2 hst2 hlast hb2 hch hfx hbl hr1
                  (with_reducible refine HN.out.mono ?_)
                  rintro e w7 ⟨A7, c7, rfl, hO7, hi7, ho7⟩
                  have HI7 := Lib.hid (hi7.call (ba (Below.refl _ _) (.cells #[.int .u16 (ch : Int), .slice A7 bl c7] 39)))
                  have HB7 := Lib.hid (ba (offB HB4.out HGL.out.2.2.1 HGL.out.2.2.2 ho7) (.cells #[.int .u16 (ch : Int), .slice A7 bl c7] 39))
                  have HRO7 := Lib.hid ((HRO4.out.off ho7 (fun i e => by rcases e with e | e <;> (have := HGL.out; omega))).call (ba (Below.refl _ _) (.cells #[.int .u16 (ch : Int), .slice A7 bl c7] 39)))
                  have HRB7 := Lib.hid (((ho7.rd HRB4.out (fun b o e => ⟨Nat.lt_of_lt_of_le (HBB.out b o e).2 HS4.out, fun e2 => by have := (HBB.out b o e).1; have := HGL.out; rcases e2 with e2 | e2 <;> omega⟩)).mono ho7.size).call (ba (Below.refl _ _) (.cells #[.int .u16 (ch : Int), .slice A7 bl c7] 39)))
                  have hcr7 : (w7.alloc (.cells #[.int .u16 (ch : Int), .slice A7 bl c7] 39)).cell? ⟨gr, r, none⟩ = some (.slice B m dd) := (World.cell?_of_block (a := ⟨gr, r, none⟩) ((ho7.alloc _).block gr (Nat.lt_of_lt_of_le hgr2 HS4.out) hgx)).trans HC4.out
                  have HS7 := Lib.hid (show wx.heap.size ≤ (w7.alloc (.cells #[.int .u16 (ch : Int), .slice A7 bl c7] 39)).heap.size by have := HS4.out; have := ho7.size; simp; omega)
                  have HC7 := Lib.hid hcr7
                  clear hi7 ho7 hcr4 hcy hcr
                  have HX8 := Lib.hid (show BxF (w7.alloc (.cells #[.int .u16 (ch : Int), .slice A7 bl c7] 39)) w7.heap.size ch A7 bl c7 from heap_alloc_new w7 _)
                  have HRA := Lib.hid (hO7.rd.call (ba (Below.refl _ _) (.cells #[.int .u16 (ch : Int), .slice A7 bl c7] 39)))
                  have hr1j : r1 < j := by have := HR1.out; omega
                  obtain ⟨fb, fo, ch', body', BA, bl', bc, eA, hfb, hx', p0, p1, hch', hrb', hkb'⟩ := (HF.out.call HB7.out).2 r1 hr1j
                  have hfx' := HFX.out
                  rw [hx'] at hfx'
                  injection hfx' with hfx'
                  injection hfx' with hf1 hf2
                  subst hf1
                  subst hf2
                  obtain rfl : bl' = bl := by rw [← hrb'.len, HBL.out]
                  subst eA
                  have HRA' := Lib.hid hrb'
                  obtain ⟨x0, x1, _, hxl⟩ := HX8.out.all
                  have i2 : (0 : Int) ≤ (r1 : Int) := by omega
                  have i3 : (r1 : Int) < (j : Int) := by omega
                  clear hx' hch' hrb' hkb' hO7
                  have e9 := E9.out
                  have e10 := E10.out
                  have e11 := E11.out
                  have e12 := E12.out
                  go_wp2_with fail
                  have hH0 : Below (w7.alloc (.cells #[.int .u16 (ch' : Int), .slice A7 bl' c7] 39)).heap.size (w7.alloc (.cells #[.int .u16 (ch' : Int), .slice A7 bl' c7] 39)) (w7.alloc (.cells #[.int .u16 (ch' : Int), .slice A7 bl' c7] 39)).drew := (Below.refl _ _).drew
                  generalize hW8 : w7.alloc (.cells #[.int .u16 (ch' : Int), .slice A7 bl' c7] 39) = w8 at *
                  go_region_held3 (fun wx => wx.cell? ⟨w7.heap.size, 0, none⟩ = some (.int .u16 (ch' : Int)) ∧ wx.cell? ⟨w7.heap.size, 1, none⟩ = some (.slice A7 bl' c7) ∧ wx.cell? ⟨fb, fo + r1 * 2, none⟩ = some (.int .u16 (ch' : Int)) ∧ wx.cell? ⟨fb, fo + r1 * 2 + 1, none⟩ = some (.slice BA bl' bc)) (first | exact ⟨x0, x1, p0, p1⟩ | exact ⟨y0, y1, y2, y3⟩)
                    (first
                    | (go_at_call 19; (with_reducible refine (same_yes _ _ ch' A7 BA bl' c7 bc body' _ (HRA.out.call hH0) (HRA'.out.call hH0) (Nat.le_refl _) (Nat.le_refl _)).mono ?_); rintro e w9 ⟨rfl, hb9⟩; have y0 := (hb9.cell (p := ⟨w7.heap.size, 0, none⟩) hxl).trans x0; have y1 := (hb9.cell (p := ⟨w7.heap.size, 1, none⟩) hxl).trans x1; have y2 := (hb9.cell (p := ⟨fb, fo + r1 * 2, none⟩) hfb).trans p0; have y3 := (hb9.cell (p := ⟨fb, fo + r1 * 2 + 1, none⟩) hfb).trans p1; have hb9' := bn hH0 hb9)
                    | fail)
                  all_goals go_wp2
                  go_roundw
                  case rel => exact ⟨k + 1, HJ.out, by go_num, by rw [HST.out]; exact HI7.out.call hb9', HRO7.out.call hb9', bn HB7.out hb9', Nat.le_trans HS7.out hb9'.size, (hb9'.cell (p := ⟨gr, r, none⟩) (Nat.lt_of_lt_of_le hgr2 HS7.out)).trans HC7.out, HRB7.out.call hb9'⟩
                  case measure => simp [intOf]; omega
            · obtain rfl : k = m := by omega
              have d5 : decide ((k : Int) < (k : Int)) = false := by simp
              have hst : stK (decide (0 < r)) T k = stS true [] 0 := if_neg (by rw [HTL.out]; omega)
              rw [hst] at HIY
              have HR1' := Lib.hid (show r + 1 ≤ j + 1 by omega)
              have HDT := Lib.hid (show decide (0 < r + 1) = true by simp)
              go_wp2
              go_roundw
              case rel => exact ⟨r + 1, HR1'.out, by go_num, by rw [HDT.out]; exact HIY.out, HRY.out, HBY.out⟩
              case measure => simp [intOf]; omega
        · obtain rfl : r = j + 1 := by omega
          have d6 : decide ((j : Int) + 1 < (j : Int) + 1) = false := by simp
          have hend := HIX.out
          have HHE := Lib.hid (held_s hend 0 (by rfl))
          clear hend
          go_wp2_with (first
            | (go_at_call 20; (with_reducible refine HHE.out.mono ?_); rintro e w3 ⟨rfl, rfl⟩)
            | (go_at_call 10; (with_reducible refine (works12_any _).mono ?_); rintro e w4 ⟨rfl, hb4⟩)
            | fail)
          go_ret
          exact ⟨rfl, bn HBX.out hb4⟩
theorem walk (fs : List (Nat × List Nat)) (A : Option Addr) (n c : Nat) (w : World) (hf : Frs w A n fs) :
    Calls Try.prog 5 #[.slice A n c] w fun e w' => e = .returned (.bool true) ∧ Below w.heap.size w w' := by
  by_cases h : 12 < n
  · exact walk_long A n c w h
  · exact walk_main fs A n c w hf (by omega)
end Go.Proofs.Ytdjncacknmejoaa.intakeSoon
