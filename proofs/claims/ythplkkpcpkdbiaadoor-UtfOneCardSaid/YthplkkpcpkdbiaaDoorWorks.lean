/-
  Contract of the laws' anchor 'works': it answers true, and memory that was there stays.
-/
import Derived.Test.YthplkkpcpkdbiaaDoorTxt
namespace Go.Proofs.YthplkkpcpkdbiaaDoor.Utf
open Go.RowKit

theorem txt3 : txt [65, 2047, 1114111] = [65, 223, 191, 244, 143, 191, 191] := by decide
theorem all3 : AllC [65, 2047, 1114111] := by
  intro c hc
  simp at hc
  rcases hc with rfl | rfl | rfl <;> decide
theorem no2 : NoT [192, 128] := fun l h => no_text (d := []) allC_nil (by simp) (by decide) l h
theorem is0 : IsT [] [] := ⟨allC_nil, rfl⟩

theorem Own.read {K : IntKind} {M : Nat} {T : TypeId} {w : World} {base n c : Nat} {A : Option Addr} {l : List Nat} (h : Own K M T w base A n c l) (hn : 0 < n) : ∃ g, A = some ⟨g, 0, none⟩ ∧ ∀ k x : Nat, l[k]? = some x → w.cell? ⟨g, k, none⟩ = some (.int K (x : Int)) := by
  obtain ⟨g, cap, hv, _, _⟩ := World.ownsRow.form h.2 hn
  injection hv with hv _ _
  subst hv
  refine ⟨g, rfl, fun k x hx => ?_⟩
  obtain ⟨hk, rfl⟩ := List.getElem?_eq_some_iff.1 hx
  have hkn : k < n := by rw [← h.len]; exact hk
  obtain ⟨b, o, y, e, _, hy, _, hc⟩ := h.rd.at_ hkn
  injection e with e
  injection e with e1 e2
  subst e1
  subst e2
  rw [Nat.zero_add] at hc
  rw [hx] at hy
  injection hy with hy
  subst hy
  exact hc

set_option maxHeartbeats 400000 in
theorem works_any (w : World) (ht : Tab w) : Calls Tryd.prog 10 #[] w fun e w' => e = .returned (.bool true) ∧ Below w.heap.size w w' := by
  have hr0 := rd_lit32 w [65, 2047, 1114111] 3 rfl (by simp)
  have ht0 := ht.alloc (.cells (vs .u32 [65, 2047, 1114111]).toArray 36)
  have hb0 : Below w.heap.size w (w.alloc (.cells (vs .u32 [65, 2047, 1114111]).toArray 36)) := (Below.refl _ _).alloc (Nat.le_refl _) _
  go_enter Tryd.func10, Tryd.ntmps10
  go_wp2_with fail
  refine (text_any _ 3 3 [65, 2047, 1114111] (w.alloc (.cells (vs .u32 [65, 2047, 1114111]).toArray 36)) ht0 (hr0.mono (by simp)) (by omega)).mono ?_
  rintro e w1 ⟨⟨A1, n1, c1, _, rfl, ho1⟩ | ⟨hN, _⟩, hb1⟩
  · have hn1 : 7 = n1 := ho1.len
    subst hn1
    have ht1 := ht0.call hb1
    have hb1' : Below w.heap.size w w1 := hb0.trans (hb1.mono hb0.size)
    clear hr0 ht0 hb0 hb1
    rw [txt3] at ho1
    have hcap1 := ho1.cap.1
    go_wp2_with fail
    refine (chars_any A1 7 c1 _ w1 ht1 ho1.rd hcap1 (by omega)).mono ?_
    rintro e w2 ⟨⟨cs, A2, n2, c2, hT, rfl, ho2⟩ | ⟨hN, _⟩, hb2⟩
    · have hcs : cs = [65, 2047, 1114111] := (txt_inj all3 hT.1 (txt3.trans hT.2)).symm
      subst hcs
      have hn2 : 3 = n2 := ho2.len
      subst hn2
      have ho1' := ho1.below hb2
      have ht2 := ht1.call hb2
      have hb2' : Below w.heap.size w w2 := hb1'.trans (hb2.mono hb1'.size)
      obtain ⟨g1, rfl, hg1⟩ := ho1'.read (by omega)
      obtain ⟨g2, rfl, hg2⟩ := ho2.read (by omega)
      have d1 : w2.cell? ⟨g1, 1, none⟩ = some (.int .u8 223) := hg1 1 223 rfl
      have d3 : w2.cell? ⟨g1, 3, none⟩ = some (.int .u8 244) := hg1 3 244 rfl
      have d4 : w2.cell? ⟨g2, 1, none⟩ = some (.int .u32 2047) := hg2 1 2047 rfl
      clear hg1 hg2 hT hb2 ho1 ho1' ho2
      have hr3 := rd_lit8 w2 [192, 128] 2 rfl (by simp)
      have ht3 := ht2.alloc (.cells (vs .u8 [192, 128]).toArray 5)
      have hb3 : Below w.heap.size w (w2.alloc (.cells (vs .u8 [192, 128]).toArray 5)) := hb2'.alloc hb2'.size _
      go_wp2_with fail
      refine (right_any _ 2 2 [192, 128] (w2.alloc (.cells (vs .u8 [192, 128]).toArray 5)) ht3 (hr3.mono (by simp)) (by omega) (by omega)).mono ?_
      rintro e w4 ⟨⟨⟨cs, hc⟩, _⟩ | ⟨_, rfl⟩, hb4⟩
      · exact absurd hc (no2 cs)
      have ht4 := ht3.call hb4
      have hb4' : Below w.heap.size w w4 := hb3.trans (hb4.mono hb3.size)
      clear hr3 ht3 hb3 hb4 ht2 hb2' d1 d3 d4
      go_wp2_with fail
      refine (right_any none 0 0 [] w4 ht4 (Rd.zero _ _ _ _ _) (by omega) (by omega)).mono ?_
      rintro e w5 ⟨⟨_, rfl⟩ | ⟨hN, _⟩, hb5⟩
      · have hb5' : Below w.heap.size w w5 := hb4'.trans (hb5.mono hb4'.size)
        clear ht4 hb4' hb5
        go_wp2_with fail
        refine (char_any 57344 w5).mono ?_
        rw [show isC 57344 = true by decide]
        rintro e w6 ⟨rfl, rfl⟩
        go_wp2_with fail
        refine (char_any 55296 w5).mono ?_
        rw [show isC 55296 = false by decide]
        rintro e w6 ⟨rfl, rfl⟩
        go_wp2
        go_ret
        exact ⟨rfl, hb5'⟩
      · exact absurd is0 (hN [])
    · exact absurd ⟨all3, txt3.symm⟩ (hN _)
  · exact absurd all3 hN
end Go.Proofs.YthplkkpcpkdbiaaDoor.Utf
