/-
  Contracts of the reader's value, and of what reads an array's values, given what the reader's told does. Condition: at most 2^40 bytes are left.
-/
import Derived.Test.YtikjnbognjicdaaDoorDch
namespace Go.Proofs.YtikjnbognjicdaaDoor.Dec
set_option maxRecDepth 100000
open Go.RowKit Go.Proofs.YtikjnbognjicdaaDoor.Utf Go.Proofs.YtikjnbognjicdaaDoor.Val V

/-- A value is made, in new memory (from block S on). -/
def GotV (S : Nat) (v : V) (e : Ending) (w' : World) : Prop :=
  ∃ Av lv cv, e = .returned (.agg #[.int .u8 (v.kind : Int), .int .u64 (v.num : Int), .string v.text, .slice Av lv cv]) ∧ v.kind < 256 ∧ v.num < 18446744073709551616 ∧ Nw S w' v.kids Av lv cv
/-- Names: plain values, at most 16, in memory beside the reader's. -/
structure Nms (w : World) (rb ib : Nat) (ns : List V) (An : Option Addr) (nn cn : Nat) : Prop where
  kids : Val.Kids true w (fun i => i < w.heap.size ∧ i ≠ rb ∧ i ≠ ib) ns An nn cn
  fl : ∀ v ∈ ns, Fl v
  few : nn ≤ 16
/-- What is told; the reader has more parts. -/
def ToldR (rb ib B : Nat) (A : Option Addr) (n c : Nat) (L : List Nat) (sh : Nat) (R : Option (V × Nat)) (w : World) (e : Ending) (w' : World) : Prop :=
  match R with
  | none => Fails 6 ib ib w e w'
  | some (v, it') => GotV w.heap.size v e w' ∧ it' ≤ 1024 ∧ Rdr w' rb ib B A n c L sh it' ∧ Up ib ib w w'
/-- What the reader's told does, where so many data are told at most. -/
structure Told (F : Nat) : Prop where
  get : ∀ (w : World) (rb ib B n c sh it : Nat) (A : Option Addr) (L : List Nat) (ns : List V) (An : Option Addr) (nn cn code : Nat) (d : List Nat) (Ad : Option Addr) (nd cd : Nat),
    Rdr w rb ib B A n c L sh it → it ≤ 1024 → Nms w rb ib ns An nn cn → code < 256 → Rd .u8 256 w B Ad nd d → nd ≤ cd → nd ≤ 1099511627776 → d.length < F →
    Calls Tryd.prog 63 #[.pointer (some ⟨rb, 0, none⟩), .agg #[.slice An nn cn, .int .u8 (code : Int)], .slice Ad nd cd] w (ToldR rb ib B A n c L sh (toldN F it ns code d) w)

/-- The next value. -/
def valD (tl : Nat → List V → Nat → List Nat → Option (V × Nat)) (it : Nat) (l : List Nat) : Except Bool (V × Nat × List Nat) :=
  match headD l with
  | .error s => .error s
  | .ok (ns, c, r) => match dataD c r with
    | none => .error true
    | some (d, r') => match tl it (ns.take 16) c d with
      | none => .error false
      | some (v, it') => .ok (v, it', r')
theorem step_val (tl : Nat → List V → Nat → List Nat → Option (V × Nat)) (it : Nat) (l : List Nat) : stepV tl it l = (match valD tl it l with | .error _ => none | .ok x => some x) := by
  unfold stepV valD
  cases headD l with
  | error s => rfl
  | ok p =>
    obtain ⟨ns, c, r⟩ := p
    simp only
    cases dataD c r with
    | none => rfl
    | some q =>
      obtain ⟨d, r'⟩ := q
      simp only
      cases tl it (ns.take 16) c d with
      | none => rfl
      | some q => rfl
/-- The next value is read. -/
def ValR (rb ib B sh : Nat) (R : Except Bool (V × Nat × List Nat)) (w : World) (e : Ending) (w' : World) : Prop :=
  match R with
  | .error s => Fails (sel s sh) rb ib w e w'
  | .ok (v, it', r) => GotV w.heap.size v e w' ∧ it' ≤ 1024 ∧ (∃ A2 n2 c2, Rdr w' rb ib B A2 n2 c2 r sh it') ∧ Up rb ib w w'
/-- The next value of an array is read. -/
def KidR (rb ib B : Nat) (R : Option (V × Nat × List Nat)) (w : World) (e : Ending) (w' : World) : Prop :=
  match R with
  | none => Fails 6 rb ib w e w'
  | some (v, it', r) => GotV w.heap.size v e w' ∧ it' ≤ 1024 ∧ (∃ A2 n2 c2, Rdr w' rb ib B A2 n2 c2 r 6 it') ∧ Up rb ib w w'

theorem Fails.wide {x rb ib : Nat} {w w1 : World} {e : Ending} {w' : World} (h : Fails x ib ib w1 e w') (h0 : Up rb ib w w1) : e = .panicked [{ v := .iface 30 (.int .i64 (x : Int)), recovered := false }] ∧ Up rb ib w w' := ⟨h.1, h0.trans h.2.wide⟩
theorem HBox.new (w : World) (x0 x1 : Value) : HBox (w.alloc (.cells #[x0, x1] 92)) w.heap.size x0 x1 := heap_alloc_new w _
theorem HBox.up {a b g : Nat} {w w' : World} {x0 x1 : Value} (h : HBox w g x0 x1) (hu : Up a b w w') (ha : g ≠ a) (hb : g ≠ b) : HBox w' g x0 x1 := h.keep (hu.block g h.lt ha hb)
theorem HBox.far4 {g g' : Nat} {w : World} {x0 x1 : Value} (h : HBox w g x0 x1) (hp : g ≠ g') (a b c d : Value) : HBox ((((w.setCell ⟨g', 0, none⟩ a).setCell ⟨g', 1, none⟩ b).setCell ⟨g', 2, none⟩ c).setCell ⟨g', 3, none⟩ d) g x0 x1 :=
  (((h.keep (Below.heap_setCell _ _ _ _ hp)).keep (Below.heap_setCell _ _ _ _ hp)).keep (Below.heap_setCell _ _ _ _ hp)).keep (Below.heap_setCell _ _ _ _ hp)
theorem heap_four (w : World) (g : Nat) (a b c d : Value) (i : Nat) (hi : i ≠ g) : ((((w.setCell ⟨g, 0, none⟩ a).setCell ⟨g, 1, none⟩ b).setCell ⟨g, 2, none⟩ c).setCell ⟨g, 3, none⟩ d).heap[i]? = w.heap[i]? := by
  rw [Below.heap_setCell _ _ _ _ hi, Below.heap_setCell _ _ _ _ hi, Below.heap_setCell _ _ _ _ hi, Below.heap_setCell _ _ _ _ hi]
theorem size_four (w : World) (g : Nat) (a b c d : Value) : ((((w.setCell ⟨g, 0, none⟩ a).setCell ⟨g, 1, none⟩ b).setCell ⟨g, 2, none⟩ c).setCell ⟨g, 3, none⟩ d).heap.size = w.heap.size := by simp
theorem Nw_four {S g : Nat} {w : World} {ks : List V} {A : Option Addr} {l c : Nat} (h : Nw S w ks A l c) (hg : g < S) (x y z u : Value) : Nw S ((((w.setCell ⟨g, 0, none⟩ x).setCell ⟨g, 1, none⟩ y).setCell ⟨g, 2, none⟩ z).setCell ⟨g, 3, none⟩ u) ks A l c :=
  (h.keep fun i hi => heap_four w g x y z u i (by omega)).mono fun i hi => ⟨hi.1, by rw [size_four]; exact hi.2⟩
theorem Nms.of {S rb ib : Nat} {w w' : World} {ns : List V} {An : Option Addr} {nn cn : Nat} (h : Nw S w ns An nn cn) (hS : rb < S) (hS' : ib < S) (hk : ∀ i, i < w.heap.size → i ≠ rb → i ≠ ib → w'.heap[i]? = w.heap[i]?) (hs : w.heap.size ≤ w'.heap.size) (hf : ∀ v ∈ ns, Fl v) (h16 : ns.length ≤ 16) : Nms w' rb ib ns An nn cn :=
  ⟨(Val.Kids.keep h fun i hi => hk i hi.2 (by omega) (by omega)).mono fun i hi => ⟨Nat.lt_of_lt_of_le hi.2 hs, by omega, by omega⟩, hf, by rw [h.len]; exact h16⟩

theorem head_fl : ∀ (N : Nat) (l : List Nat) (ns : List V) (c : Nat) (r : List Nat), headN N l = .ok (ns, c, r) → (∀ x ∈ l, x < 256) → (∀ v ∈ ns, Fl v) ∧ c < 256 ∧ (∀ x ∈ r, x < 256) ∧ r.length < l.length
  | 0, _, _, _, _, h, _ => by simp [headN] at h
  | _ + 1, [], _, _, _, h, _ => by simp [headN] at h
  | N + 1, c :: l, ns, c', r, h, hl => by
    rw [headN] at h
    by_cases hc : c = 0
    · rw [if_pos hc] at h
      cases hn : nameD l with
      | error s => rw [hn] at h; cases h
      | ok p =>
        obtain ⟨v, r1⟩ := p
        rw [hn] at h
        obtain ⟨f1, f2, f3⟩ := name_fl hn fun x hx => hl x (by simp [hx])
        simp only at h
        cases h2 : headN N r1 with
        | error s => rw [h2] at h; cases h
        | ok p =>
          obtain ⟨ns2, c2, r2⟩ := p
          rw [h2] at h
          simp only [Except.ok.injEq, Prod.mk.injEq] at h
          obtain ⟨rfl, rfl, rfl⟩ := h
          obtain ⟨g1, g2, g3, g4⟩ := head_fl N r1 _ _ _ h2 f2
          refine ⟨fun x hx => ?_, g2, g3, by simp only [List.length_cons]; omega⟩
          rcases List.mem_cons.1 hx with rfl | hx
          · exact f1
          · exact g1 x hx
    · rw [if_neg hc] at h
      split at h
      · cases h
      · simp only [Except.ok.injEq, Prod.mk.injEq] at h
        obtain ⟨rfl, rfl, rfl⟩ := h
        exact ⟨fun v hv => (by cases hv), hl _ (by simp), fun x hx => hl x (by simp [hx]), by simp⟩

set_option maxHeartbeats 2000000 in
theorem value_any {F : Nat} (hT : Told F) {w : World} {rb ib B n c sh it : Nat} {A : Option Addr} {L : List Nat} (h : Rdr w rb ib B A n c L sh it) (hit : it ≤ 1024) (hF : L.length ≤ F) :
    Calls Tryd.prog 36 #[.pointer (some ⟨rb, 0, none⟩)] w (ValR rb ib B sh (valD (toldN F) it L) w) := by
  have hlr := h.lr
  have hli := h.li
  have hlow := h.low
  obtain ⟨W0, hW0⟩ : ∃ W0, w.alloc (.cells #[.int .u8 0, .int .u64 0, .string ⟨#[]⟩, .slice none 0 0] 25) = W0 := ⟨_, rfl⟩
  have hB0 : Below w.heap.size w W0 := by rw [← hW0]; exact (Below.refl _ _).alloc (Nat.le_refl _) _
  have hbr0 : Box W0 w.heap.size (.int .u8 0) (.int .u64 0) (.string ⟨#[]⟩) (.slice none 0 0) := by rw [← hW0]; exact Box.new _ _ _ _ _
  have hs0 : W0.heap.size = w.heap.size + 1 := by rw [← hW0]; simp
  have h0 := h.call hB0
  have hA := head_any h0
  have hU0 : Up rb ib w W0 := Up.of hB0
  unfold valD
  cases hR : headD L with
  | error s =>
    rw [hR] at hA
    go_enter Tryd.func36, Tryd.ntmps36
    go_wp2_with ((go_at_call 62; refine hA.mono ?_; rintro e w1 ⟨rfl, hu1⟩))
    exact ⟨rfl, rfl, hU0.trans hu1⟩
  | ok p =>
    obtain ⟨ns, k, r⟩ := p
    rw [hR] at hA
    obtain ⟨hfl, hk, hrb, hrl⟩ := head_fl _ _ _ _ _ hR h.rd.lim
    have hfl16 : ∀ v ∈ ns.take 16, Fl v := fun v hv => hfl v (List.mem_of_mem_take hv)
    have hln16 : (ns.take 16).length ≤ 16 := by rw [List.length_take]; omega
    obtain ⟨ms, hms⟩ : ∃ ms, ns.take 16 = ms := ⟨_, rfl⟩
    rw [hms] at hfl16 hln16
    simp only
    rw [hms]
    have HMS := Lib.hid hms
    clear hR hfl hms
    have AFTER : ∀ {w1 w3 : World} {An : Option Addr} {nn cn : Nat}, Up rb ib W0 w1 → Nw W0.heap.size w1 ms An nn cn → Up rb ib (w1.alloc (.cells #[.slice An nn cn, .int .u8 (k : Int)] 92)).drew w3 → Nms w3 rb ib ms An nn cn := fun {w1 w3 An nn cn} hu1 hnw hu3 => by
      have e1 := hu1.size
      have e3 := hu3.size
      simp at e3
      exact Nms.of hnw (by omega) (by omega) (fun i hi ha hb => (hu3.block i (by simp; omega) ha hb).trans (Below.heap_alloc _ _ _ hi)) (by omega) hfl16 hln16
    cases hd : dataD k r with
    | none =>
      go_enter Tryd.func36, Tryd.ntmps36
      go_wp2_with ((go_at_call 62; refine hA.mono ?_; rintro e w1 ⟨An, nn, cn, A2, n2, c2, rfl, hnw, hR1, hu1⟩; rw [HMS.out] at hnw))
      have hbx : HBox (w1.alloc (.cells #[.slice An nn cn, .int .u8 (k : Int)] 92)).drew w1.heap.size (.slice An nn cn) (.int .u8 (k : Int)) := HBox.new w1 (.slice An nn cn) (.int .u8 (k : Int))
      have e1 := hu1.size
      have hRg := hR1.call ((Below.refl _ _).alloc (Nat.le_refl _) (.cells #[.slice An nn cn, .int .u8 (k : Int)] 92)).drew
      have hUg : Up rb ib w _ := (hU0.trans hu1).call ((Below.refl _ _).alloc (Nat.le_refl _) (.cells #[.slice An nn cn, .int .u8 (k : Int)] 92)).drew
      refine wp_region_held_drew (S := fun wx => HBox wx w1.heap.size (.slice An nn cn) (.int .u8 (k : Int))) (by kernel_rfl) (by exact hbx) (fun hHeld => ?_)
      try simp only [Act.put, List.setIfInBounds_toArray, List.set_cons_zero, List.set_cons_succ]
      (refine wpAnyH_take (i := 0) (oi := ⟨some 6, _, _, _, _, _⟩) (v := ?_) rfl (by kernel_rfl) (by kernel_rfl) (by kernel_rfl) (fun _ _ _ h => h) (Or.inl ⟨by kernel_rfl, ?_⟩) (by assumption) ?_; rotate_left 1; (· intro wx hSw; (try dsimp only at hSw); obtain ⟨y0, y1, yf⟩ := HBox.all hSw; go_simp; (try with_reducible rfl)))
      try simp only [Act.put, List.setIfInBounds_toArray, List.set_cons_zero, List.set_cons_succ]
      (refine wpAnyH_take (i := 1) (oi := ⟨some 7, _, _, _, _, _⟩) (v := ?_) rfl (by kernel_rfl) (by kernel_rfl) (by kernel_rfl) (fun _ _ _ h => h) (Or.inl ⟨by kernel_rfl, ?_⟩) (by assumption) ?_; rotate_left 1; (· intro wx hSw; (try dsimp only at hSw); obtain ⟨y0, y1, yf⟩ := HBox.all hSw; go_simp; (try with_reducible rfl)))
      try simp only [Act.put, List.setIfInBounds_toArray, List.set_cons_zero, List.set_cons_succ]
      (refine wpAnyH_take (i := 2) (oi := ⟨some 8, _, _, _, _, _⟩) (v := ?_) rfl (by kernel_rfl) (by kernel_rfl) (by kernel_rfl) (fun _ _ _ h => h) (Or.inl ⟨by kernel_rfl, ?_⟩) (by assumption) ?_; rotate_left 1; (· intro wx hSw; (try dsimp only at hSw); obtain ⟨y0, y1, yf⟩ := HBox.all hSw; go_simp; (try with_reducible rfl)))
      try simp only [Act.put, List.setIfInBounds_toArray, List.set_cons_zero, List.set_cons_succ]
      (refine wpAnyH_take (i := 3) (oi := ⟨some 9, _, _, _, _, _⟩) (v := ?_) rfl (by kernel_rfl) (by kernel_rfl) (by kernel_rfl) (fun _ _ _ h => h) (Or.inl ⟨by kernel_rfl, ?_⟩) (by assumption) ?_; rotate_left 1; (· intro wx hSw; (try dsimp only at hSw); obtain ⟨y0, y1, yf⟩ := HBox.all hSw; go_simp; (try with_reducible rfl)))
      try simp only [Act.put, List.setIfInBounds_toArray, List.set_cons_zero, List.set_cons_succ]
      (refine wpAnyH_take (i := 4) (oi := ⟨some 10, _, _, _, _, _⟩) (v := ?_) rfl (by kernel_rfl) (by kernel_rfl) (by kernel_rfl) (fun _ _ _ h => h) (Or.inl ⟨by kernel_rfl, ?_⟩) (by assumption) ?_; rotate_left 1; (· intro wx hSw; (try dsimp only at hSw); obtain ⟨y0, y1, yf⟩ := HBox.all hSw; go_simp; (try with_reducible rfl)))
      try simp only [Act.put, List.setIfInBounds_toArray, List.set_cons_zero, List.set_cons_succ]
      (refine wpAnyH_ready (rs := [5]) (by kernel_rfl) (by simp) ?_; refine AllReadyH.cons (o := ⟨some 11, _, _, _, _, _⟩) rfl (fun K hK => ?_) AllReadyH.nil; go_simp; (go_at_call 64; refine (data_no hRg k hd).mono ?_; rintro e w3 ⟨rfl, hu3⟩); go_wp2_with fail)
      try simp only [Act.put, List.setIfInBounds_toArray, List.set_cons_zero, List.set_cons_succ]
      exact ⟨rfl, rfl, hUg.trans hu3⟩
      try simp only [Act.put, List.setIfInBounds_toArray, List.set_cons_zero, List.set_cons_succ]
    | some q =>
      obtain ⟨d, r'⟩ := q
      obtain ⟨hdb, hrb', hdl⟩ := data_byte hd hrb
      simp only
      cases ht : toldN F it ms k d with
      | none =>
        go_enter Tryd.func36, Tryd.ntmps36
        go_wp2_with ((go_at_call 62; refine hA.mono ?_; rintro e w1 ⟨An, nn, cn, A2, n2, c2, rfl, hnw, hR1, hu1⟩; rw [HMS.out] at hnw))
        have hbx : HBox (w1.alloc (.cells #[.slice An nn cn, .int .u8 (k : Int)] 92)).drew w1.heap.size (.slice An nn cn) (.int .u8 (k : Int)) := HBox.new w1 (.slice An nn cn) (.int .u8 (k : Int))
        have e1 := hu1.size
        have hRg := hR1.call ((Below.refl _ _).alloc (Nat.le_refl _) (.cells #[.slice An nn cn, .int .u8 (k : Int)] 92)).drew
        have hUg : Up rb ib w _ := (hU0.trans hu1).call ((Below.refl _ _).alloc (Nat.le_refl _) (.cells #[.slice An nn cn, .int .u8 (k : Int)] 92)).drew
        have hTold : ∀ {w3 : World} {A3 : Option Addr} {m3 c3 : Nat} {A4 : Option Addr} {n4 c4 : Nat}, Rd .u8 256 w3 B A3 m3 d → m3 ≤ c3 → Rdr w3 rb ib B A4 n4 c4 r' sh it → Up rb ib (w1.alloc (.cells #[.slice An nn cn, .int .u8 (k : Int)] 92)).drew w3 →
            Calls Tryd.prog 63 #[.pointer (some ⟨rb, 0, none⟩), .agg #[.slice An nn cn, .int .u8 (k : Int)], .slice A3 m3 c3] w3 (Fails 6 ib ib w3) := fun {w3 A3 m3 c3 A4 n4 c4} hr3 hm3 hR3 hu3 => by
          have := hT.get w3 rb ib B n4 c4 sh it A4 r' ms An nn cn k d A3 m3 c3 hR3 hit (AFTER hu1 hnw hu3) hk hr3 hm3 (by rw [← hr3.len]; have := h.rd.len; have := h.lim; omega) (by omega)
          rw [ht] at this
          exact this
        refine wp_region_held_drew (S := fun wx => HBox wx w1.heap.size (.slice An nn cn) (.int .u8 (k : Int))) (by kernel_rfl) (by exact hbx) (fun hHeld => ?_)
        try simp only [Act.put, List.setIfInBounds_toArray, List.set_cons_zero, List.set_cons_succ]
        (refine wpAnyH_take (i := 0) (oi := ⟨some 6, _, _, _, _, _⟩) (v := ?_) rfl (by kernel_rfl) (by kernel_rfl) (by kernel_rfl) (fun _ _ _ h => h) (Or.inl ⟨by kernel_rfl, ?_⟩) (by assumption) ?_; rotate_left 1; (· intro wx hSw; (try dsimp only at hSw); obtain ⟨y0, y1, yf⟩ := HBox.all hSw; go_simp; (try with_reducible rfl)))
        try simp only [Act.put, List.setIfInBounds_toArray, List.set_cons_zero, List.set_cons_succ]
        (refine wpAnyH_take (i := 1) (oi := ⟨some 7, _, _, _, _, _⟩) (v := ?_) rfl (by kernel_rfl) (by kernel_rfl) (by kernel_rfl) (fun _ _ _ h => h) (Or.inl ⟨by kernel_rfl, ?_⟩) (by assumption) ?_; rotate_left 1; (· intro wx hSw; (try dsimp only at hSw); obtain ⟨y0, y1, yf⟩ := HBox.all hSw; go_simp; (try with_reducible rfl)))
        try simp only [Act.put, List.setIfInBounds_toArray, List.set_cons_zero, List.set_cons_succ]
        (refine wpAnyH_take (i := 2) (oi := ⟨some 8, _, _, _, _, _⟩) (v := ?_) rfl (by kernel_rfl) (by kernel_rfl) (by kernel_rfl) (fun _ _ _ h => h) (Or.inl ⟨by kernel_rfl, ?_⟩) (by assumption) ?_; rotate_left 1; (· intro wx hSw; (try dsimp only at hSw); obtain ⟨y0, y1, yf⟩ := HBox.all hSw; go_simp; (try with_reducible rfl)))
        try simp only [Act.put, List.setIfInBounds_toArray, List.set_cons_zero, List.set_cons_succ]
        (refine wpAnyH_take (i := 3) (oi := ⟨some 9, _, _, _, _, _⟩) (v := ?_) rfl (by kernel_rfl) (by kernel_rfl) (by kernel_rfl) (fun _ _ _ h => h) (Or.inl ⟨by kernel_rfl, ?_⟩) (by assumption) ?_; rotate_left 1; (· intro wx hSw; (try dsimp only at hSw); obtain ⟨y0, y1, yf⟩ := HBox.all hSw; go_simp; (try with_reducible rfl)))
        try simp only [Act.put, List.setIfInBounds_toArray, List.set_cons_zero, List.set_cons_succ]
        (refine wpAnyH_take (i := 4) (oi := ⟨some 10, _, _, _, _, _⟩) (v := ?_) rfl (by kernel_rfl) (by kernel_rfl) (by kernel_rfl) (fun _ _ _ h => h) (Or.inl ⟨by kernel_rfl, ?_⟩) (by assumption) ?_; rotate_left 1; (· intro wx hSw; (try dsimp only at hSw); obtain ⟨y0, y1, yf⟩ := HBox.all hSw; go_simp; (try with_reducible rfl)))
        try simp only [Act.put, List.setIfInBounds_toArray, List.set_cons_zero, List.set_cons_succ]
        (refine wpAnyH_ready (rs := [5]) (by kernel_rfl) (by simp) ?_; refine AllReadyH.cons (o := ⟨some 11, _, _, _, _, _⟩) rfl (fun K hK => ?_) AllReadyH.nil; go_simp; (go_at_call 64; refine (data_ok hRg k hd).mono ?_; rintro e w3 ⟨A3, m3, c3, A4, n4, c4, rfl, hm3, hr3, hR3, hu3⟩; have hbx3 := HBox.up hbx hu3 (show w1.heap.size ≠ rb by omega) (show w1.heap.size ≠ ib by omega)); go_wp2_with fail; refine hK.out _ _ ?_ (fun hHeld => ?_); (· exact hbx3); clear hK K)
        try simp only [Act.put, List.setIfInBounds_toArray, List.set_cons_zero, List.set_cons_succ]
        (refine wpAnyH_ready (rs := [6]) (by kernel_rfl) (by simp) ?_; refine AllReadyH.cons (o := ⟨some 12, _, _, _, _, _⟩) rfl (fun K hK => ?_) AllReadyH.nil; go_simp; (go_at_call 63; refine ((hTold hr3 hm3 hR3 hu3).mono ?_); rintro e w4 ⟨rfl, hu4⟩); go_wp2_with fail)
        try simp only [Act.put, List.setIfInBounds_toArray, List.set_cons_zero, List.set_cons_succ]
        exact ⟨rfl, rfl, (hUg.trans hu3).trans hu4.wide⟩
        try simp only [Act.put, List.setIfInBounds_toArray, List.set_cons_zero, List.set_cons_succ]
      | some q =>
        obtain ⟨v, it'⟩ := q
        go_enter Tryd.func36, Tryd.ntmps36
        go_wp2_with ((go_at_call 62; refine hA.mono ?_; rintro e w1 ⟨An, nn, cn, A2, n2, c2, rfl, hnw, hR1, hu1⟩; rw [HMS.out] at hnw))
        have hbx : HBox (w1.alloc (.cells #[.slice An nn cn, .int .u8 (k : Int)] 92)).drew w1.heap.size (.slice An nn cn) (.int .u8 (k : Int)) := HBox.new w1 (.slice An nn cn) (.int .u8 (k : Int))
        have hbr : Box (w1.alloc (.cells #[.slice An nn cn, .int .u8 (k : Int)] 92)).drew w.heap.size (.int .u8 0) (.int .u64 0) (.string ⟨#[]⟩) (.slice none 0 0) := (Box.up hbr0 hu1 (by omega) (by omega)).alloc _
        have e1 := hu1.size
        have hRg := hR1.call ((Below.refl _ _).alloc (Nat.le_refl _) (.cells #[.slice An nn cn, .int .u8 (k : Int)] 92)).drew
        have hUg : Up rb ib w _ := (hU0.trans hu1).call ((Below.refl _ _).alloc (Nat.le_refl _) (.cells #[.slice An nn cn, .int .u8 (k : Int)] 92)).drew
        have hTold : ∀ {w3 : World} {A3 : Option Addr} {m3 c3 : Nat} {A4 : Option Addr} {n4 c4 : Nat}, Rd .u8 256 w3 B A3 m3 d → m3 ≤ c3 → Rdr w3 rb ib B A4 n4 c4 r' sh it → Up rb ib (w1.alloc (.cells #[.slice An nn cn, .int .u8 (k : Int)] 92)).drew w3 →
            Calls Tryd.prog 63 #[.pointer (some ⟨rb, 0, none⟩), .agg #[.slice An nn cn, .int .u8 (k : Int)], .slice A3 m3 c3] w3 (ToldR rb ib B A4 n4 c4 r' sh (some (v, it')) w3) := fun {w3 A3 m3 c3 A4 n4 c4} hr3 hm3 hR3 hu3 => by
          have := hT.get w3 rb ib B n4 c4 sh it A4 r' ms An nn cn k d A3 m3 c3 hR3 hit (AFTER hu1 hnw hu3) hk hr3 hm3 (by rw [← hr3.len]; have := h.rd.len; have := h.lim; omega) (by omega)
          rw [ht] at this
          exact this
        refine wp_region_held_drew (S := fun wx => HBox wx w1.heap.size (.slice An nn cn) (.int .u8 (k : Int))) (by kernel_rfl) (by exact hbx) (fun hHeld => ?_)
        try simp only [Act.put, List.setIfInBounds_toArray, List.set_cons_zero, List.set_cons_succ]
        (refine wpAnyH_take (i := 0) (oi := ⟨some 6, _, _, _, _, _⟩) (v := ?_) rfl (by kernel_rfl) (by kernel_rfl) (by kernel_rfl) (fun _ _ _ h => h) (Or.inl ⟨by kernel_rfl, ?_⟩) (by assumption) ?_; rotate_left 1; (· intro wx hSw; (try dsimp only at hSw); obtain ⟨y0, y1, yf⟩ := HBox.all hSw; go_simp; (try with_reducible rfl)))
        try simp only [Act.put, List.setIfInBounds_toArray, List.set_cons_zero, List.set_cons_succ]
        (refine wpAnyH_take (i := 1) (oi := ⟨some 7, _, _, _, _, _⟩) (v := ?_) rfl (by kernel_rfl) (by kernel_rfl) (by kernel_rfl) (fun _ _ _ h => h) (Or.inl ⟨by kernel_rfl, ?_⟩) (by assumption) ?_; rotate_left 1; (· intro wx hSw; (try dsimp only at hSw); obtain ⟨y0, y1, yf⟩ := HBox.all hSw; go_simp; (try with_reducible rfl)))
        try simp only [Act.put, List.setIfInBounds_toArray, List.set_cons_zero, List.set_cons_succ]
        (refine wpAnyH_take (i := 2) (oi := ⟨some 8, _, _, _, _, _⟩) (v := ?_) rfl (by kernel_rfl) (by kernel_rfl) (by kernel_rfl) (fun _ _ _ h => h) (Or.inl ⟨by kernel_rfl, ?_⟩) (by assumption) ?_; rotate_left 1; (· intro wx hSw; (try dsimp only at hSw); obtain ⟨y0, y1, yf⟩ := HBox.all hSw; go_simp; (try with_reducible rfl)))
        try simp only [Act.put, List.setIfInBounds_toArray, List.set_cons_zero, List.set_cons_succ]
        (refine wpAnyH_take (i := 3) (oi := ⟨some 9, _, _, _, _, _⟩) (v := ?_) rfl (by kernel_rfl) (by kernel_rfl) (by kernel_rfl) (fun _ _ _ h => h) (Or.inl ⟨by kernel_rfl, ?_⟩) (by assumption) ?_; rotate_left 1; (· intro wx hSw; (try dsimp only at hSw); obtain ⟨y0, y1, yf⟩ := HBox.all hSw; go_simp; (try with_reducible rfl)))
        try simp only [Act.put, List.setIfInBounds_toArray, List.set_cons_zero, List.set_cons_succ]
        (refine wpAnyH_take (i := 4) (oi := ⟨some 10, _, _, _, _, _⟩) (v := ?_) rfl (by kernel_rfl) (by kernel_rfl) (by kernel_rfl) (fun _ _ _ h => h) (Or.inl ⟨by kernel_rfl, ?_⟩) (by assumption) ?_; rotate_left 1; (· intro wx hSw; (try dsimp only at hSw); obtain ⟨y0, y1, yf⟩ := HBox.all hSw; go_simp; (try with_reducible rfl)))
        try simp only [Act.put, List.setIfInBounds_toArray, List.set_cons_zero, List.set_cons_succ]
        (refine wpAnyH_ready (rs := [5]) (by kernel_rfl) (by simp) ?_; refine AllReadyH.cons (o := ⟨some 11, _, _, _, _, _⟩) rfl (fun K hK => ?_) AllReadyH.nil; go_simp; (go_at_call 64; refine (data_ok hRg k hd).mono ?_; rintro e w3 ⟨A3, m3, c3, A4, n4, c4, rfl, hm3, hr3, hR3, hu3⟩; have hbx3 := HBox.up hbx hu3 (show w1.heap.size ≠ rb by omega) (show w1.heap.size ≠ ib by omega)); go_wp2_with fail; refine hK.out _ _ ?_ (fun hHeld => ?_); (· exact hbx3); clear hK K)
        try simp only [Act.put, List.setIfInBounds_toArray, List.set_cons_zero, List.set_cons_succ]
        (refine wpAnyH_ready (rs := [6]) (by kernel_rfl) (by simp) ?_; refine AllReadyH.cons (o := ⟨some 12, _, _, _, _, _⟩) rfl (fun K hK => ?_) AllReadyH.nil; go_simp; (go_at_call 63; refine ((hTold hr3 hm3 hR3 hu3).mono ?_); rintro e w4 ⟨⟨Av, lv, cv, rfl, hvk, hvn, hnv⟩, hit4, hR4, hu4⟩; have hbx4 := HBox.up hbx3 hu4 (show w1.heap.size ≠ ib by omega) (show w1.heap.size ≠ ib by omega)); go_wp2_with fail; refine hK.out _ _ ?_ (fun hHeld => ?_); (· exact hbx4); clear hK K)
        try simp only [Act.put, List.setIfInBounds_toArray, List.set_cons_zero, List.set_cons_succ]
        have hbz := Box.up (Box.up hbr hu3 (by omega) (by omega)) hu4 (by omega) (by omega)
        obtain ⟨z0, z1, z2, z3, zf⟩ := hbz.all
        try simp only [Act.put, List.setIfInBounds_toArray, List.set_cons_zero, List.set_cons_succ]
        (refine wpAnyH_ready (rs := [7]) (by kernel_rfl) (by simp) ?_; refine AllReadyH.cons (o := ⟨none, _, _, _, _, _⟩) rfl (fun K hK => ?_) AllReadyH.nil; go_simp; go_wp2_with fail; refine hK.out _ _ ?_ (fun hHeld => ?_); (· exact (HBox.far4 hbx4 (by omega) _ _ _ _)); clear hK K)
        try simp only [Act.put, List.setIfInBounds_toArray, List.set_cons_zero, List.set_cons_succ]
        refine wpAnyH_done (by kernel_rfl) ?_ _
        try simp only [Act.put, List.setIfInBounds_toArray, List.set_cons_zero, List.set_cons_succ]
        go_wp2_with fail
        refine bodyPost_ret (v := .agg #[.int .u8 (v.kind : Int), .int .u64 (v.num : Int), .string v.text, .slice Av lv cv]) (by simp [results, Tryd.results36, go_sem, z0, z1, z2, z3]) rfl ?_
        have e3 := hu3.size
        simp at e3
        exact ⟨⟨Av, lv, cv, rfl, hvk, hvn, Nw.less (Nw_four hnv (by omega) _ _ _ _) (by omega)⟩, hit4, ⟨A4, n4, c4, hR4.far4 hlow (by omega) (by omega) _ _ _ _⟩, up_set4 ((hUg.trans hu3).trans hu4.wide) (Nat.le_refl _) _ _ _ _⟩
        try simp only [Act.put, List.setIfInBounds_toArray, List.set_cons_zero, List.set_cons_succ]
end Go.Proofs.YtikjnbognjicdaaDoor.Dec
