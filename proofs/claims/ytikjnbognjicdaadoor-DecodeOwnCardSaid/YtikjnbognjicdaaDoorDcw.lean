/-
  Contracts of what reads the next value of a list or a map, and of an array, given what the reader's told does. Condition: at most 2^40 bytes are left.
-/
import Derived.Test.YtikjnbognjicdaaDoorDcv
namespace Go.Proofs.YtikjnbognjicdaaDoor.Dec
set_option maxRecDepth 100000
open Go.RowKit Go.Proofs.YtikjnbognjicdaaDoor.Utf Go.Proofs.YtikjnbognjicdaaDoor.Val V

theorem sel_six (s : Bool) : sel s 6 = 6 := by unfold sel; split <;> rfl
theorem kid0_any {F : Nat} (hT : Told F) {w : World} {rb ib B n c it : Nat} {A : Option Addr} {L : List Nat} (h : Rdr w rb ib B A n c L 6 it) (hit : it ≤ 1024) (hF : L.length ≤ F) :
    Calls Tryd.prog 36 #[.pointer (some ⟨rb, 0, none⟩)] w (KidR rb ib B (stepV (toldN F) it L) w) := by
  refine (value_any hT h hit hF).mono ?_
  rw [step_val]
  cases valD (toldN F) it L with
  | error s =>
    intro e w' he
    have he : Fails (sel s 6) rb ib w e w' := he
    rw [sel_six] at he
    exact he
  | ok p =>
    obtain ⟨v, it', r⟩ := p
    exact fun e w' he => he

set_option maxHeartbeats 2000000 in
theorem kid1_any {F : Nat} (hT : Told F) {w : World} {rb ib B n c it G k : Nat} {A : Option Addr} {L : List Nat} {ms : List V} {An : Option Addr} {nn cn : Nat} (h : Rdr w rb ib B A n c L 6 it) (hit : it ≤ 1024) (hF : L.length < F)
    (hb : HBox w G (.slice An nn cn) (.int .u8 (k : Int))) (hGr : G ≠ rb) (hGi : G ≠ ib) (hN : Nms w rb ib ms An nn cn) (hk : k < 256) :
    Calls Tryd.prog 112 #[.pointer (some ⟨rb, 0, none⟩), .pointer (some ⟨G, 0, none⟩)] w (KidR rb ib B (stepA (toldN F) ms k it L) w) := by
  have hlr := h.lr
  have hli := h.li
  have hlow := h.low
  have hGl := hb.lt
  obtain ⟨W0, hW0⟩ : ∃ W0, (w.alloc (.cells #[.int .u8 0, .int .u64 0, .string ⟨#[]⟩, .slice none 0 0] 25)) = W0 := ⟨_, rfl⟩
  have hB0 : Below w.heap.size w W0 := by rw [← hW0]; exact ((Below.refl _ _).alloc (Nat.le_refl _) _)
  have hbr : Box W0.drew w.heap.size (.int .u8 0) (.int .u64 0) (.string ⟨#[]⟩) (.slice none 0 0) := by rw [← hW0]; exact Box.new _ _ _ _ _
  have hs0 : W0.heap.size = w.heap.size + 1 := by rw [← hW0]; simp
  have hRg := (h.call hB0).call (Below.refl _ _).drew
  have hbx : HBox W0.drew G (.slice An nn cn) (.int .u8 (k : Int)) := hb.keep (hB0.block _ hGl)
  have hUg : Up rb ib w W0.drew := Up.of hB0.drew
  have AFTER : ∀ {w3 : World}, Up rb ib W0.drew w3 → Nms w3 rb ib ms An nn cn := fun {w3} hu3 => by
    have e3 := hu3.size
    have e4 : W0.drew.heap.size = W0.heap.size := rfl
    exact ⟨(hN.kids.keep fun i hi => (hu3.block i (by rw [e4]; omega) hi.2.1 hi.2.2).trans (hB0.block _ hi.1)).mono fun i hi => ⟨by omega, hi.2.1, hi.2.2⟩, hN.fl, hN.few⟩
  have hHW := Lib.hid hs0
  unfold stepA
  cases hd : dataD k L with
  | none =>
    simp only
    go_enter Tryd.func112, Tryd.ntmps112
    go_wp2_with fail
    refine wp_region_held_drew (S := fun wx => HBox wx G (.slice An nn cn) (.int .u8 (k : Int))) (by kernel_rfl) (by exact hbx) (fun hHeld => ?_)
    try simp only [Act.put, List.setIfInBounds_toArray, List.set_cons_zero, List.set_cons_succ]
    (refine wpAnyH_take (i := 0) (oi := ⟨some 3, _, _, _, _, _⟩) (v := ?_) rfl (by kernel_rfl) (by kernel_rfl) (by kernel_rfl) (fun _ _ _ h => h) (Or.inl ⟨by kernel_rfl, ?_⟩) (by assumption) ?_; rotate_left 1; (· intro wx hSw; (try dsimp only at hSw); obtain ⟨y0, y1, yf⟩ := HBox.all hSw; go_simp; (try with_reducible rfl)))
    try simp only [Act.put, List.setIfInBounds_toArray, List.set_cons_zero, List.set_cons_succ]
    (refine wpAnyH_take (i := 1) (oi := ⟨some 4, _, _, _, _, _⟩) (v := ?_) rfl (by kernel_rfl) (by kernel_rfl) (by kernel_rfl) (fun _ _ _ h => h) (Or.inl ⟨by kernel_rfl, ?_⟩) (by assumption) ?_; rotate_left 1; (· intro wx hSw; (try dsimp only at hSw); obtain ⟨y0, y1, yf⟩ := HBox.all hSw; go_simp; (try with_reducible rfl)))
    try simp only [Act.put, List.setIfInBounds_toArray, List.set_cons_zero, List.set_cons_succ]
    (refine wpAnyH_take (i := 2) (oi := ⟨some 5, _, _, _, _, _⟩) (v := ?_) rfl (by kernel_rfl) (by kernel_rfl) (by kernel_rfl) (fun _ _ _ h => h) (Or.inl ⟨by kernel_rfl, ?_⟩) (by assumption) ?_; rotate_left 1; (· intro wx hSw; (try dsimp only at hSw); obtain ⟨y0, y1, yf⟩ := HBox.all hSw; go_simp; (try with_reducible rfl)))
    try simp only [Act.put, List.setIfInBounds_toArray, List.set_cons_zero, List.set_cons_succ]
    (refine wpAnyH_ready (rs := [3]) (by kernel_rfl) (by simp) ?_; refine AllReadyH.cons (o := ⟨some 6, _, _, _, _, _⟩) rfl (fun K hK => ?_) AllReadyH.nil; go_simp; (go_at_call 64; refine (data_no hRg k hd).mono ?_; rintro e w3 ⟨rfl, hu3⟩); go_wp2_with fail)
    try simp only [Act.put, List.setIfInBounds_toArray, List.set_cons_zero, List.set_cons_succ]
    exact ⟨rfl, rfl, hUg.trans hu3⟩
    try simp only [Act.put, List.setIfInBounds_toArray, List.set_cons_zero, List.set_cons_succ]
  | some q =>
    obtain ⟨d, r'⟩ := q
    obtain ⟨hdb, hrb', hdl⟩ := data_byte hd h.rd.lim
    simp only
    cases ht : toldN F it ms k d with
    | none =>
      simp only
      go_enter Tryd.func112, Tryd.ntmps112
      go_wp2_with fail
      have hTold : ∀ {w3 : World} {A3 : Option Addr} {m3 c3 : Nat} {A4 : Option Addr} {n4 c4 : Nat}, Rd .u8 256 w3 B A3 m3 d → m3 ≤ c3 → Rdr w3 rb ib B A4 n4 c4 r' 6 it → Up rb ib W0.drew w3 →
          Calls Tryd.prog 63 #[.pointer (some ⟨rb, 0, none⟩), .agg #[.slice An nn cn, .int .u8 (k : Int)], .slice A3 m3 c3] w3 (Fails 6 ib ib w3) := fun {w3 A3 m3 c3 A4 n4 c4} hr3 hm3 hR3 hu3 => by
        have := hT.get w3 rb ib B n4 c4 6 it A4 r' ms An nn cn k d A3 m3 c3 hR3 hit (AFTER hu3) hk hr3 hm3 (by rw [← hr3.len]; have := h.rd.len; have := h.lim; omega) (by omega)
        rw [ht] at this
        exact this
      refine wp_region_held_drew (S := fun wx => HBox wx G (.slice An nn cn) (.int .u8 (k : Int))) (by kernel_rfl) (by exact hbx) (fun hHeld => ?_)
      try simp only [Act.put, List.setIfInBounds_toArray, List.set_cons_zero, List.set_cons_succ]
      (refine wpAnyH_take (i := 0) (oi := ⟨some 3, _, _, _, _, _⟩) (v := ?_) rfl (by kernel_rfl) (by kernel_rfl) (by kernel_rfl) (fun _ _ _ h => h) (Or.inl ⟨by kernel_rfl, ?_⟩) (by assumption) ?_; rotate_left 1; (· intro wx hSw; (try dsimp only at hSw); obtain ⟨y0, y1, yf⟩ := HBox.all hSw; go_simp; (try with_reducible rfl)))
      try simp only [Act.put, List.setIfInBounds_toArray, List.set_cons_zero, List.set_cons_succ]
      (refine wpAnyH_take (i := 1) (oi := ⟨some 4, _, _, _, _, _⟩) (v := ?_) rfl (by kernel_rfl) (by kernel_rfl) (by kernel_rfl) (fun _ _ _ h => h) (Or.inl ⟨by kernel_rfl, ?_⟩) (by assumption) ?_; rotate_left 1; (· intro wx hSw; (try dsimp only at hSw); obtain ⟨y0, y1, yf⟩ := HBox.all hSw; go_simp; (try with_reducible rfl)))
      try simp only [Act.put, List.setIfInBounds_toArray, List.set_cons_zero, List.set_cons_succ]
      (refine wpAnyH_take (i := 2) (oi := ⟨some 5, _, _, _, _, _⟩) (v := ?_) rfl (by kernel_rfl) (by kernel_rfl) (by kernel_rfl) (fun _ _ _ h => h) (Or.inl ⟨by kernel_rfl, ?_⟩) (by assumption) ?_; rotate_left 1; (· intro wx hSw; (try dsimp only at hSw); obtain ⟨y0, y1, yf⟩ := HBox.all hSw; go_simp; (try with_reducible rfl)))
      try simp only [Act.put, List.setIfInBounds_toArray, List.set_cons_zero, List.set_cons_succ]
      (refine wpAnyH_ready (rs := [3]) (by kernel_rfl) (by simp) ?_; refine AllReadyH.cons (o := ⟨some 6, _, _, _, _, _⟩) rfl (fun K hK => ?_) AllReadyH.nil; go_simp; (go_at_call 64; refine (data_ok hRg k hd).mono ?_; rintro e w3 ⟨A3, m3, c3, A4, n4, c4, rfl, hm3, hr3, hR3, hu3⟩; have hbx3 := HBox.up hbx hu3 (show G ≠ rb by omega) (show G ≠ ib by omega)); go_wp2_with fail; refine hK.out _ _ ?_ (fun hHeld => ?_); (· exact hbx3); clear hK K)
      try simp only [Act.put, List.setIfInBounds_toArray, List.set_cons_zero, List.set_cons_succ]
      (refine wpAnyH_ready (rs := [4]) (by kernel_rfl) (by simp) ?_; refine AllReadyH.cons (o := ⟨some 7, _, _, _, _, _⟩) rfl (fun K hK => ?_) AllReadyH.nil; go_simp; (go_at_call 63; refine ((hTold hr3 hm3 hR3 hu3).mono ?_); rintro e w4 ⟨rfl, hu4⟩); go_wp2_with fail)
      try simp only [Act.put, List.setIfInBounds_toArray, List.set_cons_zero, List.set_cons_succ]
      exact ⟨rfl, rfl, (hUg.trans hu3).trans hu4.wide⟩
      try simp only [Act.put, List.setIfInBounds_toArray, List.set_cons_zero, List.set_cons_succ]
    | some q =>
      obtain ⟨v, it'⟩ := q
      simp only
      go_enter Tryd.func112, Tryd.ntmps112
      go_wp2_with fail
      have hTold : ∀ {w3 : World} {A3 : Option Addr} {m3 c3 : Nat} {A4 : Option Addr} {n4 c4 : Nat}, Rd .u8 256 w3 B A3 m3 d → m3 ≤ c3 → Rdr w3 rb ib B A4 n4 c4 r' 6 it → Up rb ib W0.drew w3 →
          Calls Tryd.prog 63 #[.pointer (some ⟨rb, 0, none⟩), .agg #[.slice An nn cn, .int .u8 (k : Int)], .slice A3 m3 c3] w3 (ToldR rb ib B A4 n4 c4 r' 6 (some (v, it')) w3) := fun {w3 A3 m3 c3 A4 n4 c4} hr3 hm3 hR3 hu3 => by
        have := hT.get w3 rb ib B n4 c4 6 it A4 r' ms An nn cn k d A3 m3 c3 hR3 hit (AFTER hu3) hk hr3 hm3 (by rw [← hr3.len]; have := h.rd.len; have := h.lim; omega) (by omega)
        rw [ht] at this
        exact this
      refine wp_region_held_drew (S := fun wx => HBox wx G (.slice An nn cn) (.int .u8 (k : Int))) (by kernel_rfl) (by exact hbx) (fun hHeld => ?_)
      try simp only [Act.put, List.setIfInBounds_toArray, List.set_cons_zero, List.set_cons_succ]
      (refine wpAnyH_take (i := 0) (oi := ⟨some 3, _, _, _, _, _⟩) (v := ?_) rfl (by kernel_rfl) (by kernel_rfl) (by kernel_rfl) (fun _ _ _ h => h) (Or.inl ⟨by kernel_rfl, ?_⟩) (by assumption) ?_; rotate_left 1; (· intro wx hSw; (try dsimp only at hSw); obtain ⟨y0, y1, yf⟩ := HBox.all hSw; go_simp; (try with_reducible rfl)))
      try simp only [Act.put, List.setIfInBounds_toArray, List.set_cons_zero, List.set_cons_succ]
      (refine wpAnyH_take (i := 1) (oi := ⟨some 4, _, _, _, _, _⟩) (v := ?_) rfl (by kernel_rfl) (by kernel_rfl) (by kernel_rfl) (fun _ _ _ h => h) (Or.inl ⟨by kernel_rfl, ?_⟩) (by assumption) ?_; rotate_left 1; (· intro wx hSw; (try dsimp only at hSw); obtain ⟨y0, y1, yf⟩ := HBox.all hSw; go_simp; (try with_reducible rfl)))
      try simp only [Act.put, List.setIfInBounds_toArray, List.set_cons_zero, List.set_cons_succ]
      (refine wpAnyH_take (i := 2) (oi := ⟨some 5, _, _, _, _, _⟩) (v := ?_) rfl (by kernel_rfl) (by kernel_rfl) (by kernel_rfl) (fun _ _ _ h => h) (Or.inl ⟨by kernel_rfl, ?_⟩) (by assumption) ?_; rotate_left 1; (· intro wx hSw; (try dsimp only at hSw); obtain ⟨y0, y1, yf⟩ := HBox.all hSw; go_simp; (try with_reducible rfl)))
      try simp only [Act.put, List.setIfInBounds_toArray, List.set_cons_zero, List.set_cons_succ]
      (refine wpAnyH_ready (rs := [3]) (by kernel_rfl) (by simp) ?_; refine AllReadyH.cons (o := ⟨some 6, _, _, _, _, _⟩) rfl (fun K hK => ?_) AllReadyH.nil; go_simp; (go_at_call 64; refine (data_ok hRg k hd).mono ?_; rintro e w3 ⟨A3, m3, c3, A4, n4, c4, rfl, hm3, hr3, hR3, hu3⟩; have hbx3 := HBox.up hbx hu3 (show G ≠ rb by omega) (show G ≠ ib by omega)); go_wp2_with fail; refine hK.out _ _ ?_ (fun hHeld => ?_); (· exact hbx3); clear hK K)
      try simp only [Act.put, List.setIfInBounds_toArray, List.set_cons_zero, List.set_cons_succ]
      (refine wpAnyH_ready (rs := [4]) (by kernel_rfl) (by simp) ?_; refine AllReadyH.cons (o := ⟨some 7, _, _, _, _, _⟩) rfl (fun K hK => ?_) AllReadyH.nil; go_simp; (go_at_call 63; refine ((hTold hr3 hm3 hR3 hu3).mono ?_); rintro e w4 ⟨⟨Av, lv, cv, rfl, hvk, hvn, hnv⟩, hit4, hR4, hu4⟩; have hbx4 := HBox.up hbx3 hu4 (show G ≠ ib by omega) (show G ≠ ib by omega)); go_wp2_with fail; refine hK.out _ _ ?_ (fun hHeld => ?_); (· exact hbx4); clear hK K)
      try simp only [Act.put, List.setIfInBounds_toArray, List.set_cons_zero, List.set_cons_succ]
      have hbz := Box.up (Box.up hbr hu3 (by omega) (by omega)) hu4 (by omega) (by omega)
      obtain ⟨z0, z1, z2, z3, zf⟩ := hbz.all
      try simp only [Act.put, List.setIfInBounds_toArray, List.set_cons_zero, List.set_cons_succ]
      (refine wpAnyH_ready (rs := [5]) (by kernel_rfl) (by simp) ?_; refine AllReadyH.cons (o := ⟨none, _, _, _, _, _⟩) rfl (fun K hK => ?_) AllReadyH.nil; go_simp; go_wp2_with fail; refine hK.out _ _ ?_ (fun hHeld => ?_); (· exact (HBox.far4 hbx4 (by omega) _ _ _ _)); clear hK K)
      try simp only [Act.put, List.setIfInBounds_toArray, List.set_cons_zero, List.set_cons_succ]
      refine wpAnyH_done (by kernel_rfl) ?_ _
      try simp only [Act.put, List.setIfInBounds_toArray, List.set_cons_zero, List.set_cons_succ]
      go_wp2_with fail
      refine bodyPost_ret (v := .agg #[.int .u8 (v.kind : Int), .int .u64 (v.num : Int), .string v.text, .slice Av lv cv]) (by simp [results, Tryd.results112, go_sem, z0, z1, z2, z3]) rfl ?_
      have e3 := hu3.size
      have e4 : W0.drew.heap.size = W0.heap.size := rfl
      exact ⟨⟨Av, lv, cv, rfl, hvk, hvn, Nw.less (Nw_four hnv (by omega) _ _ _ _) (by omega)⟩, hit4, ⟨A4, n4, c4, hR4.far4 hlow (by omega) (by omega) _ _ _ _⟩, up_set4 ((hUg.trans hu3).trans hu4.wide) (Nat.le_refl _) _ _ _ _⟩
      try simp only [Act.put, List.setIfInBounds_toArray, List.set_cons_zero, List.set_cons_succ]
end Go.Proofs.YtikjnbognjicdaaDoor.Dec
