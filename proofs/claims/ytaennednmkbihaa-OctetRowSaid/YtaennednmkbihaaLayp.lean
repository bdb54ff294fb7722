/-
  Contracts of octet.longest, octet.LayPiece and the document's LayPiece. Condition: fewer than 2^40 bytes come in, each.
-/
import Derived.Test.YtaennednmkbihaaRlay
namespace Go.Proofs.Ytaennednmkbihaa.Oct
open Go.RowKit

theorem room_int (A : Option Addr) (n c : Nat) (k : Int) (l : List UInt8) (w : World) (hr : Rd w w.heap.size A n l) (hn : n ≤ 70368744177664) (h0 : 0 ≤ k) (hk : k ≤ 70368744177664) :
    Calls Try.prog 24 #[.slice A n c, .int .i64 k] w (Gives w.heap.size l w) := by
  obtain ⟨m, rfl⟩ := Int.eq_ofNat_of_zero_le h0
  exact room_any A n c m l w hr hn (by omega)

theorem longest_1 (w : World) : Calls Try.prog 25 #[.int .i64 1] w fun e w' => e = .returned (.tuple #[.int .i64 255, .bool true]) ∧ w = w' := by
  go_enter Try.func25, Try.ntmps25
  go_wp2
  go_ret2
  exact ⟨rfl, rfl⟩
theorem longest_4 (w : World) : Calls Try.prog 25 #[.int .i64 4] w fun e w' => e = .returned (.tuple #[.int .i64 2147483647, .bool true]) ∧ w = w' := by
  go_enter Try.func25, Try.ntmps25
  go_wp2
  go_ret2
  exact ⟨rfl, rfl⟩
theorem longest_no (k : Int) (w : World) (h1 : k ≠ 1) (h4 : k ≠ 4) : Calls Try.prog 25 #[.int .i64 k] w fun e w' => e = .returned (.tuple #[.int .i64 0, .bool false]) ∧ w = w' := by
  have d1 : (k == 1) = false := by simpa using h1
  have d4 : (k == 4) = false := by simpa using h4
  go_enter Try.func25, Try.ntmps25
  go_wp2
  go_ret2
  exact ⟨rfl, rfl⟩

/-- The call answers new memory that holds l, and an error's number. -/
def GivesE (base : Nat) (l : List UInt8) (err : Int) (w : World) (e : Ending) (w' : World) : Prop := ∃ A n c, e = .returned (.tuple #[.slice A n c, .int .i64 err]) ∧ Own w' base A n c l ∧ Below base w w'
theorem GivesE.mk {base n c : Nat} {A : Option Addr} {l l' : List UInt8} {err : Int} {w w' : World} {e : Ending} (he : e = .returned (.tuple #[.slice A n c, .int .i64 err])) (hl : l' = l) (ho : Own w' base A n c l') (hb : Below base w w') : GivesE base l err w e w' := by
  subst hl
  exact ⟨A, n, c, he, ho, hb⟩

/-- May a piece of m bytes be told by a width? -/
def okp (k : Int) (m : Nat) : Prop := k = 1 ∧ m ≤ 255 ∨ k = 4 ∧ m ≤ 2147483647
instance (k : Int) (m : Nat) : Decidable (okp k m) := by unfold okp; exact inferInstance
def layp (l p : List UInt8) (k : Int) : List UInt8 := if okp k p.length then (l ++ be p.length k.toNat) ++ p else []
def laye (p : List UInt8) (k : Int) : Int := if okp k p.length then 0 else 1

theorem layp_no (A A' : Option Addr) (n c n' c' : Nat) (k : Int) (w : World) (base : Nat) (h : ¬ okp k n') :
    Calls Try.prog 18 #[.slice A n c, .slice A' n' c', .int .i64 k] w (GivesE base [] 1 w) := by
  have fin : GivesE base [] 1 w (.returned (.tuple #[.slice none 0 0, .int .i64 1])) w := ⟨none, 0, 0, rfl, World.ownsRow_nil w base 5 1, Below.refl _ _⟩
  have F := Lib.hid fin
  clear fin
  unfold okp at h
  by_cases h1 : k = 1
  · subst h1
    have hn : 255 < n' := by omega
    clear h
    go_enter Try.func18, Try.ntmps18
    go_wp2_with (go_at_call 25; refine (longest_1 _).mono ?_; rintro e w' ⟨rfl, rfl⟩)
    go_ret2
    exact F.out
  by_cases h4 : k = 4
  · subst h4
    have hn : 2147483647 < n' := by omega
    clear h
    go_enter Try.func18, Try.ntmps18
    go_wp2_with (go_at_call 25; refine (longest_4 _).mono ?_; rintro e w' ⟨rfl, rfl⟩)
    go_ret2
    exact F.out
  clear h
  go_enter Try.func18, Try.ntmps18
  go_wp2_with (go_at_call 25; refine (longest_no _ _ h1 h4).mono ?_; rintro e w' ⟨rfl, rfl⟩)
  go_ret2
  exact F.out

theorem layp_yes (A A' : Option Addr) (n c n' c' : Nat) (l p : List UInt8) (k : Int) (w : World) (h : okp k n') (hr : Rd w w.heap.size A n l) (hr' : Rd w w.heap.size A' n' p) (hn : n ≤ 1099511627776) (hn' : n' ≤ 1099511627776) :
    Calls Try.prog 18 #[.slice A n c, .slice A' n' c', .int .i64 k] w (GivesE w.heap.size ((l ++ be n' k.toNat) ++ p) 0 w) := by
  rcases h with ⟨rfl, hm⟩ | ⟨rfl, hm⟩
  · have d : decide (255 < (n' : Int)) = false := by simp; omega
    go_enter Try.func18, Try.ntmps18
    go_wp2_with (first
      | (go_at_call 25; refine (longest_1 _).mono ?_; rintro e w' ⟨rfl, rfl⟩)
      | (go_at_call 24; refine (room_int A n c _ l _ hr (by omega) (by omega) (by omega)).mono ?_; rintro e w1 ⟨A1, n1, c1, rfl, ho, hb⟩; have hl1 := Lib.hid ho.len; have hle1 : n1 ≤ 1099511627776 := (by have := hl1.out; have := hr.len; omega))
      | (go_at_call 23; refine (layn_any w.heap.size A1 n1 c1 l n' 1 w1 ho hb.size (by omega) (by omega)).mono ?_; rintro e w2 ⟨A2, n2, c2, rfl, ho2, hb2⟩; have hl2 := Lib.hid ho2.len; have hle2 : n2 ≤ 1099511627776 + 8 := (by have h1 := hl2.out; have h2 := hl1.out; rw [List.length_append, be_length] at h1; omega); have hr2 := (hr'.below hb).below hb2; have hs2 := (hb.trans hb2).size)
      | (at_builtin; refine wpList_app (l := p) rfl _ _ rfl rfl ho2 rfl hr2 (by omega) hs2 ?_; intro A3 c3 w3 hown3 hgrow3))
    go_ret2
    exact GivesE.mk rfl rfl hown3 ((hb.trans hb2).trans (below_grown ho2 hgrow3 hs2))
  · have d : decide (2147483647 < (n' : Int)) = false := by simp; omega
    go_enter Try.func18, Try.ntmps18
    go_wp2_with (first
      | (go_at_call 25; refine (longest_4 _).mono ?_; rintro e w' ⟨rfl, rfl⟩)
      | (go_at_call 24; refine (room_int A n c _ l _ hr (by omega) (by omega) (by omega)).mono ?_; rintro e w1 ⟨A1, n1, c1, rfl, ho, hb⟩; have hl1 := Lib.hid ho.len; have hle1 : n1 ≤ 1099511627776 := (by have := hl1.out; have := hr.len; omega))
      | (go_at_call 23; refine (layn_any w.heap.size A1 n1 c1 l n' 4 w1 ho hb.size (by omega) (by omega)).mono ?_; rintro e w2 ⟨A2, n2, c2, rfl, ho2, hb2⟩; have hl2 := Lib.hid ho2.len; have hle2 : n2 ≤ 1099511627776 + 8 := (by have h1 := hl2.out; have h2 := hl1.out; rw [List.length_append, be_length] at h1; omega); have hr2 := (hr'.below hb).below hb2; have hs2 := (hb.trans hb2).size)
      | (at_builtin; refine wpList_app (l := p) rfl _ _ rfl rfl ho2 rfl hr2 (by omega) hs2 ?_; intro A3 c3 w3 hown3 hgrow3))
    go_ret2
    exact GivesE.mk rfl rfl hown3 ((hb.trans hb2).trans (below_grown ho2 hgrow3 hs2))

theorem rlayp_no (A A' : Option Addr) (n c n' c' : Nat) (k : Int) (w : World) (base : Nat) (h : ¬ okp k n') :
    Calls Try.prog 19 #[.slice A n c, .slice A' n' c', .int .i64 k] w (GivesE base [] 1 w) := by
  have fin : GivesE base [] 1 w (.returned (.tuple #[.slice none 0 0, .int .i64 1])) w := ⟨none, 0, 0, rfl, World.ownsRow_nil w base 5 1, Below.refl _ _⟩
  have F := Lib.hid fin
  clear fin
  unfold okp at h
  by_cases h1 : k = 1
  · subst h1
    have hn : 255 < n' := by omega
    clear h
    go_enter Try.func19, Try.ntmps19
    go_wp2
    go_ret2
    exact F.out
  by_cases h4 : k = 4
  · subst h4
    have hn : 2147483647 < n' := by omega
    clear h
    go_enter Try.func19, Try.ntmps19
    go_wp2
    go_ret2
    exact F.out
  clear h
  have d1 : (k != 1) = true := by simpa using h1
  have d4 : (k != 4) = true := by simpa using h4
  go_enter Try.func19, Try.ntmps19
  go_wp2
  go_ret2
  exact F.out

theorem rlayp_yes (A A' : Option Addr) (n c n' c' : Nat) (l p : List UInt8) (k : Int) (w : World) (h : okp k n') (hr : Rd w w.heap.size A n l) (hr' : Rd w w.heap.size A' n' p) (hn : n ≤ 1099511627776) (hn' : n' ≤ 1099511627776) :
    Calls Try.prog 19 #[.slice A n c, .slice A' n' c', .int .i64 k] w (GivesE w.heap.size ((l ++ be n' k.toNat) ++ p) 0 w) := by
  rcases h with ⟨rfl, hm⟩ | ⟨rfl, hm⟩
  · have d : decide (255 < (n' : Int)) = false := by simp; omega
    have d' : decide (2147483647 < (n' : Int)) = false := by simp; omega
    go_enter Try.func19, Try.ntmps19
    go_wp2_with (first
      | (go_at_call 14; refine (rlay_any A n c l n' 1 _ hr (by omega) (by omega)).mono ?_; rintro e w2 ⟨A2, n2, c2, rfl, ho2, hb2⟩; have hl2 := Lib.hid ho2.len; have hle2 : n2 ≤ 1099511627776 + 8 := (by have h1 := hl2.out; have h2 := hr.len; rw [List.length_append, be_length] at h1; change _ + 1 = _ at h1; omega); have hr2 := hr'.below hb2; have hs2 := hb2.size)
      | (at_builtin; refine wpList_app (l := p) rfl _ _ rfl rfl ho2 rfl hr2 (by omega) hs2 ?_; intro A3 c3 w3 hown3 hgrow3))
    go_ret2
    exact GivesE.mk rfl rfl hown3 (hb2.trans (below_grown ho2 hgrow3 hs2))
  · have d' : decide (2147483647 < (n' : Int)) = false := by simp; omega
    go_enter Try.func19, Try.ntmps19
    go_wp2_with (first
      | (go_at_call 14; refine (rlay_any A n c l n' 4 _ hr (by omega) (by omega)).mono ?_; rintro e w2 ⟨A2, n2, c2, rfl, ho2, hb2⟩; have hl2 := Lib.hid ho2.len; have hle2 : n2 ≤ 1099511627776 + 8 := (by have h1 := hl2.out; have h2 := hr.len; rw [List.length_append, be_length] at h1; change _ + 4 = _ at h1; omega); have hr2 := hr'.below hb2; have hs2 := hb2.size)
      | (at_builtin; refine wpList_app (l := p) rfl _ _ rfl rfl ho2 rfl hr2 (by omega) hs2 ?_; intro A3 c3 w3 hown3 hgrow3))
    go_ret2
    exact GivesE.mk rfl rfl hown3 (hb2.trans (below_grown ho2 hgrow3 hs2))

end Go.Proofs.Ytaennednmkbihaa.Oct
