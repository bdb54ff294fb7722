/-
  Contracts of the reader's number, data and name. Condition: at most 2^40 bytes are left.
-/
import Derived.Test.YtikjnbognjicdaaDoorDcq
namespace Go.Proofs.YtikjnbognjicdaaDoor.Dec
set_option maxRecDepth 100000
open Go.RowKit Go.Proofs.YtikjnbognjicdaaDoor.Utf Go.Proofs.YtikjnbognjicdaaDoor.Val V

section
variable {w : World} {rb ib B n c sh it : Nat} {A : Option Addr} {L : List Nat}

/-- A number is taken off. -/
def TookN (rb ib B sh it x : Nat) (L' : List Nat) (w : World) (e : Ending) (w' : World) : Prop :=
  ∃ A2 n2 c2, e = .returned (.int .u64 (x : Int)) ∧ Rdr w' rb ib B A2 n2 c2 L' sh it ∧ Up rb ib w w'
theorem number_ok (h : Rdr w rb ib B A n c L sh it) (m : Nat) (hm : m ≤ L.length) :
    Calls Tryd.prog 88 #[.pointer (some ⟨rb, 0, none⟩), .int .u64 (m : Int)] w (TookN rb ib B sh it (tn (L.take m)) (L.drop m) w) := by
  go_enter Tryd.func88, Tryd.ntmps88
  go_wp2_with (first
    | (go_at_call 83; refine (take_ok h m hm).mono ?_; rintro e w1 ⟨A1, m1, c1, A2, n2, c2, rfl, hm1, hr1, hR1, hu1⟩)
    | (go_at_call 103; refine (tell_any B A1 m1 c1 _ _ hr1).mono ?_; rintro e w' ⟨⟨p, rfl⟩, rfl⟩))
  go_ret
  exact ⟨A2, n2, c2, rfl, hR1, hu1⟩
theorem number_no (h : Rdr w rb ib B A n c L sh it) (m : Nat) (hm : L.length < m) :
    Calls Tryd.prog 88 #[.pointer (some ⟨rb, 0, none⟩), .int .u64 (m : Int)] w (Fails sh rb ib w) := by
  go_enter Tryd.func88, Tryd.ntmps88
  go_wp2_with ((go_at_call 83; refine (take_no h m hm).mono ?_; rintro e w1 ⟨rfl, hu1⟩))
  exact ⟨rfl, rfl, hu1⟩

theorem data_ok (h : Rdr w rb ib B A n c L sh it) (k : Nat) {d r : List Nat} (hd : dataD k L = some (d, r)) :
    Calls Tryd.prog 64 #[.pointer (some ⟨rb, 0, none⟩), .int .u8 (k : Int)] w (Took rb ib B sh it d r w) := by
  unfold dataD at hd
  by_cases hs : sw k = 0
  · rw [if_pos hs] at hd
    by_cases hl : lg k ≤ L.length
    · rw [if_pos hl] at hd
      injection hd with hd
      injection hd with h1 h2
      subst h1
      subst h2
      have HS := Lib.hid hs
      clear hs
      go_enter Tryd.func64, Tryd.ntmps64
      go_wp2_with (first
        | (go_at_call 87; refine (size_any k w).mono ?_; rintro e w' ⟨rfl, rfl⟩; rw [HS.out])
        | (go_at_call 89; refine (long_any k _).mono ?_; rintro e w' ⟨rfl, rfl⟩)
        | (go_at_call 83; refine (take_ok h (lg k) hl).mono ?_; rintro e w1 ⟨A1, m1, c1, A2, n2, c2, rfl, hm1, hr1, hR1, hu1⟩))
      go_ret
      exact ⟨A1, m1, c1, A2, n2, c2, rfl, hm1, hr1, hR1, hu1⟩
    · rw [if_neg hl] at hd
      cases hd
  · rw [if_neg hs] at hd
    by_cases hl : sw k ≤ L.length
    · rw [if_pos hl] at hd
      by_cases ht : tn (L.take (sw k)) ≤ (L.drop (sw k)).length
      · rw [if_pos ht] at hd
        injection hd with hd
        injection hd with h1 h2
        subst h1
        subst h2
        have hp : (0 : Int) < (sw k : Int) := by omega
        clear hs
        go_enter Tryd.func64, Tryd.ntmps64
        go_wp2_with (first
          | (go_at_call 87; refine (size_any k w).mono ?_; rintro e w' ⟨rfl, rfl⟩)
          | (go_at_call 88; refine (number_ok h (sw k) hl).mono ?_; rintro e w1 ⟨A1, n1, c1, rfl, hR1, hu1⟩)
          | (go_at_call 83; refine (take_ok hR1 _ ht).mono ?_; rintro e w2 ⟨A2, m2, c2, A3, n3, c3, rfl, hm2, hr2, hR2, hu2⟩))
        go_ret
        exact ⟨A2, m2, c2, A3, n3, c3, rfl, hm2, hr2, hR2, hu1.trans hu2⟩
      · rw [if_neg ht] at hd
        cases hd
    · rw [if_neg hl] at hd
      cases hd
theorem data_no (h : Rdr w rb ib B A n c L sh it) (k : Nat) (hd : dataD k L = none) :
    Calls Tryd.prog 64 #[.pointer (some ⟨rb, 0, none⟩), .int .u8 (k : Int)] w (Fails sh rb ib w) := by
  unfold dataD at hd
  by_cases hs : sw k = 0
  · rw [if_pos hs] at hd
    by_cases hl : lg k ≤ L.length
    · rw [if_pos hl] at hd
      cases hd
    · have HS := Lib.hid hs
      clear hs hd
      go_enter Tryd.func64, Tryd.ntmps64
      go_wp2_with (first
        | (go_at_call 87; refine (size_any k w).mono ?_; rintro e w' ⟨rfl, rfl⟩; rw [HS.out])
        | (go_at_call 89; refine (long_any k _).mono ?_; rintro e w' ⟨rfl, rfl⟩)
        | (go_at_call 83; refine (take_no h (lg k) (by omega)).mono ?_; rintro e w1 ⟨rfl, hu1⟩))
      exact ⟨rfl, rfl, hu1⟩
  · rw [if_neg hs] at hd
    have hp : (0 : Int) < (sw k : Int) := by omega
    clear hs
    by_cases hl : sw k ≤ L.length
    · rw [if_pos hl] at hd
      by_cases ht : tn (L.take (sw k)) ≤ (L.drop (sw k)).length
      · rw [if_pos ht] at hd
        cases hd
      · clear hd
        go_enter Tryd.func64, Tryd.ntmps64
        go_wp2_with (first
          | (go_at_call 87; refine (size_any k w).mono ?_; rintro e w' ⟨rfl, rfl⟩)
          | (go_at_call 88; refine (number_ok h (sw k) hl).mono ?_; rintro e w1 ⟨A1, n1, c1, rfl, hR1, hu1⟩)
          | (go_at_call 83; refine (take_no hR1 _ (by omega)).mono ?_; rintro e w2 ⟨rfl, hu2⟩))
        exact ⟨rfl, rfl, hu1.trans hu2⟩
    · clear hd
      go_enter Tryd.func64, Tryd.ntmps64
      go_wp2_with (first
        | (go_at_call 87; refine (size_any k w).mono ?_; rintro e w' ⟨rfl, rfl⟩)
        | (go_at_call 88; refine (number_no h (sw k) (by omega)).mono ?_; rintro e w1 ⟨rfl, hu1⟩))
      exact ⟨rfl, rfl, hu1⟩

/-- One byte is taken off. -/
def Took1 (rb ib B sh it x : Nat) (L' : List Nat) (w : World) (e : Ending) (w' : World) : Prop :=
  ∃ b o c1 A2 n2 c2, e = .returned (.slice (some ⟨b, o, none⟩) 1 c1) ∧ w'.cell? ⟨b, o, none⟩ = some (.int .u8 (x : Int)) ∧ x < 256 ∧ 1 ≤ c1 ∧ Rdr w' rb ib B A2 n2 c2 L' sh it ∧ Up rb ib w w'
theorem take1_ok {x : Nat} {l : List Nat} (h : Rdr w rb ib B A n c (x :: l) sh it) :
    Calls Tryd.prog 83 #[.pointer (some ⟨rb, 0, none⟩), .int .u64 1] w (Took1 rb ib B sh it x l w) := by
  refine (take_ok h 1 (by simp)).mono ?_
  rintro e w1 ⟨A1, m1, c1, A2, n2, c2, rfl, hm1, hr1, hR1, hu1⟩
  have h1 : m1 = 1 := by rw [← hr1.len]; rfl
  subst h1
  obtain ⟨b, o, c', rfl, hb, hx, hcc, hc⟩ := hr1.at_ (k := 0) (by omega)
  simp only [List.take_succ_cons, List.take_zero, List.getElem?_cons_zero, Option.some.injEq] at hx
  subst hx
  exact ⟨b, o, c1, A2, n2, c2, rfl, hc, hcc, hm1, hR1, hu1⟩
theorem take1_no (h : Rdr w rb ib B A n c [] sh it) : Calls Tryd.prog 83 #[.pointer (some ⟨rb, 0, none⟩), .int .u64 1] w (Fails sh rb ib w) := take_no h 1 (by simp)

/-- A value without kids is read. -/
def TookV (rb ib B sh it : Nat) (v : V) (L' : List Nat) (w : World) (e : Ending) (w' : World) : Prop :=
  ∃ A2 n2 c2, e = .returned (.agg #[.int .u8 (v.kind : Int), .int .u64 (v.num : Int), .string v.text, .slice none 0 0]) ∧ Rdr w' rb ib B A2 n2 c2 L' sh it ∧ Up rb ib w w'
theorem up_set4 {a b g : Nat} {w w1 : World} (h : Up a b w w1) (hg : w.heap.size ≤ g) (x y z u : Value) : Up a b w ((((w1.setCell ⟨g, 0, none⟩ x).setCell ⟨g, 1, none⟩ y).setCell ⟨g, 2, none⟩ z).setCell ⟨g, 3, none⟩ u) :=
  have k : ∀ (v : World) (j : Nat) (q : Value), Up a b w v → Up a b w (v.setCell ⟨g, j, none⟩ q) := fun v j q hv =>
    ⟨hv.os, hv.tape, hv.output, by simpa using hv.size, fun i hi ha hb => (Below.heap_setCell v ⟨g, j, none⟩ q i (by simp; omega)).trans (hv.block i hi ha hb)⟩
  k _ _ _ (k _ _ _ (k _ _ _ (k _ _ _ h)))
theorem Rdr.far {g j : Nat} (h : Rdr w rb ib B A n c L sh it) (hB : B ≤ g) (h1 : g ≠ rb) (h2 : g ≠ ib) (u : Value) : Rdr (w.setCell ⟨g, j, none⟩ u) rb ib B A n c L sh it :=
  ⟨by rw [World.cell?_setCell_other _ _ _ _ (fun e => by injection e with e1; exact h1 e1)]; exact h.left, by rw [World.cell?_setCell_other _ _ _ _ (fun e => by injection e with e1; exact h1 e1)]; exact h.short, by rw [World.cell?_setCell_other _ _ _ _ (fun e => by injection e with e1; exact h1 e1)]; exact h.ptr,
    by rw [World.cell?_setCell_other _ _ _ _ (fun e => by injection e with e1; exact h2 e1)]; exact h.item, fun j => (World.frozen?_setCell _ _ _ _).trans (h.fr j), fun j => (World.frozen?_setCell _ _ _ _).trans (h.fi j),
    h.rd.keep fun p hp => by rw [World.cell?_setCell_other _ _ _ _ (fun e => by rw [← e] at hp; simp at hp; omega)], h.cap, h.lim, h.hr, h.hi, h.ne, by simpa using h.lr, by simpa using h.li⟩
theorem Rdr.far4 {g : Nat} (h : Rdr w rb ib B A n c L sh it) (hB : B ≤ g) (h1 : g ≠ rb) (h2 : g ≠ ib) (x y z u : Value) : Rdr ((((w.setCell ⟨g, 0, none⟩ x).setCell ⟨g, 1, none⟩ y).setCell ⟨g, 2, none⟩ z).setCell ⟨g, 3, none⟩ u) rb ib B A n c L sh it :=
  (((h.far hB h1 h2 _).far hB h1 h2 _).far hB h1 h2 _).far hB h1 h2 _
theorem Box.up {a b g : Nat} {w w' : World} {x0 x1 x2 x3 : Value} (h : Box w g x0 x1 x2 x3) (hu : Up a b w w') (ha : g ≠ a) (hb : g ≠ b) : Box w' g x0 x1 x2 x3 := (hu.block g h.lt ha hb).trans h

/-- What is wrong: 6, or, where bytes are wanting, a number of its own. -/
def sel (s : Bool) (sh : Nat) : Nat := if s then sh else 6
set_option maxHeartbeats 1000000 in
theorem name_ok (h : Rdr w rb ib B A n c L sh it) {v : V} {r : List Nat} (hv : nameD L = .ok (v, r)) :
    Calls Tryd.prog 84 #[.pointer (some ⟨rb, 0, none⟩)] w (TookV rb ib B sh it v r w) := by
  match L, h, hv with
  | [], _, hv => cases hv
  | k :: l, h, hv =>
    simp only [nameD] at hv
    by_cases hk : kof k = 6 ∨ kof k = 21
    · rw [if_pos hk] at hv
      cases hd : dataD k l with
      | none => rw [hd] at hv; cases hv
      | some q =>
        obtain ⟨d, q⟩ := q
        rw [hd] at hv
        simp only [Except.ok.injEq, Prod.mk.injEq] at hv
        obtain ⟨rfl, rfl⟩ := hv
        have h0 := h.call ((Below.refl _ _).alloc (Nat.le_refl _) (.cells #[.int .u8 0, .int .u64 0, .string ⟨#[]⟩, .slice none 0 0] 25))
        have hb0 : Up rb ib w (w.alloc (.cells #[.int .u8 0, .int .u64 0, .string ⟨#[]⟩, .slice none 0 0] 25)) := Up.of ((Below.refl _ _).alloc (Nat.le_refl _) _)
        have hbx := Box.new w (.int .u8 0) (.int .u64 0) (.string ⟨#[]⟩) (.slice none 0 0)
        have hlr := h.lr
        have hli := h.li
        have hlow := h.low
        rcases hk with hk | hk
        all_goals
          have HK := Lib.hid hk
          clear hk
          go_enter Tryd.func84, Tryd.ntmps84
          go_wp2_with (first
            | (go_at_call 83; refine (take1_ok h0).mono ?_; rintro e w1 ⟨b1, o1, c1, A2, n2, c2, rfl, hc1, hx, h1c, hR1, hu1⟩)
            | (go_at_call 85; refine (kind_any k _).mono ?_; rintro e w' ⟨rfl, rfl⟩; rw [HK.out])
            | (go_at_call 64; refine (data_ok hR1 k hd).mono ?_; rintro e w2 ⟨A3, m3, c3, A4, n4, c4, rfl, hm3, hr3, hR3, hu3⟩)
            | (go_at_call 100; refine (plain_any (cc := c3) hr3 hR3.low).mono ?_; rintro e w3 ⟨rfl, hb3⟩; have hbz := ((Box.up (Box.up hbx hu1 (by omega) (by omega)) hu3 (by omega) (by omega)).call hb3); obtain ⟨y0, y1, y2, y3, yf⟩ := hbz.all))
          exact bodyPost_ret (v := .agg #[.int .u8 ((plainV k d).kind : Int), .int .u64 ((plainV k d).num : Int), .string (plainV k d).text, .slice none 0 0]) (by simp [results, Tryd.results84, go_sem, y0, y1, y2, y3]) rfl
            ⟨A4, n4, c4, rfl, (hR3.call hb3).far4 hlow (by omega) (by omega) _ _ _ _, up_set4 (((hb0.trans hu1).trans hu3).call hb3) (Nat.le_refl _) _ _ _ _⟩
    · rw [if_neg hk] at hv
      cases hv
set_option maxHeartbeats 1000000 in
theorem name_no (h : Rdr w rb ib B A n c L sh it) {s : Bool} (hv : nameD L = .error s) :
    Calls Tryd.prog 84 #[.pointer (some ⟨rb, 0, none⟩)] w (Fails (sel s sh) rb ib w) := by
  have h0 := h.call ((Below.refl _ _).alloc (Nat.le_refl _) (.cells #[.int .u8 0, .int .u64 0, .string ⟨#[]⟩, .slice none 0 0] 25))
  have hb0 : Up rb ib w (w.alloc (.cells #[.int .u8 0, .int .u64 0, .string ⟨#[]⟩, .slice none 0 0] 25)) := Up.of ((Below.refl _ _).alloc (Nat.le_refl _) _)
  match L, h, hv, h0 with
  | [], _, hv, h0 =>
    injection hv with hv
    subst hv
    go_enter Tryd.func84, Tryd.ntmps84
    go_wp2_with ((go_at_call 83; refine (take1_no h0).mono ?_; rintro e w1 ⟨rfl, hu1⟩))
    exact ⟨rfl, rfl, hb0.trans hu1⟩
  | k :: l, h, hv, h0 =>
    simp only [nameD] at hv
    by_cases hk : kof k = 6 ∨ kof k = 21
    · rw [if_pos hk] at hv
      cases hd : dataD k l with
      | some q => rw [hd] at hv; cases hv
      | none =>
        rw [hd] at hv
        injection hv with hv
        subst hv
        rcases hk with hk | hk
        all_goals
          have HK := Lib.hid hk
          clear hk
          go_enter Tryd.func84, Tryd.ntmps84
          go_wp2_with (first
            | (go_at_call 83; refine (take1_ok h0).mono ?_; rintro e w1 ⟨b1, o1, c1, A2, n2, c2, rfl, hc1, hx, h1c, hR1, hu1⟩)
            | (go_at_call 85; refine (kind_any k _).mono ?_; rintro e w' ⟨rfl, rfl⟩; rw [HK.out])
            | (go_at_call 64; refine (data_no hR1 k hd).mono ?_; rintro e w2 ⟨rfl, hu3⟩))
          exact ⟨rfl, rfl, (hb0.trans hu1).trans hu3⟩
    · rw [if_neg hk] at hv
      injection hv with hv
      subst hv
      have d6 : ((kof k : Int) != 6) = true := by simp; omega
      have d21 : ((kof k : Int) != 21) = true := by simp; omega
      clear hk
      go_enter Tryd.func84, Tryd.ntmps84
      go_wp2_with (first
        | (go_at_call 83; refine (take1_ok h0).mono ?_; rintro e w1 ⟨b1, o1, c1, A2, n2, c2, rfl, hc1, hx, h1c, hR1, hu1⟩)
        | (go_at_call 85; refine (kind_any k _).mono ?_; rintro e w' ⟨rfl, rfl⟩))
      exact ⟨rfl, rfl, hb0.trans hu1⟩
end
end Go.Proofs.YtikjnbognjicdaaDoor.Dec
