/-
  Contract of the reader's alone: a value, whatever it is called, given what the reader's told does. Condition: at most 2^40 bytes.
-/
import Derived.Test.YtikjnbognjicdaaDoorDcx
namespace Go.Proofs.YtikjnbognjicdaaDoor.Dec
set_option maxRecDepth 100000
open Go.RowKit Go.Proofs.YtikjnbognjicdaaDoor.Utf Go.Proofs.YtikjnbognjicdaaDoor.Val V

/-- What is told of a value, whatever it is called. -/
def aloneD (tl : Nat → List V → Nat → List Nat → Option (V × Nat)) (it c : Nat) (d : List Nat) : Option (V × Nat) :=
  if kof c < 22 then some (plainV c d, it)
  else match kidsD tl c it d with
    | none => none
    | some (vs, it') => some (.mk (kof c) 0 ⟨#[]⟩ vs, it')
theorem told_succ (F it : Nat) (ns : List V) (c : Nat) (d : List Nat) : toldN (F + 1) it ns c d = if 1024 < it + 1 + 2 * ns.length then none else match aloneD (toldN F) (it + 1 + 2 * ns.length) c d with
    | none => none
    | some (v, it') => some (calledV ns v, it') := by
  rw [toldN]
  unfold aloneD
  by_cases h : 1024 < it + 1 + 2 * ns.length
  · rw [if_pos h, if_pos h]
  · rw [if_neg h, if_neg h]
    by_cases hk : kof c < 22
    · rw [if_pos hk, if_pos hk]
    · rw [if_neg hk, if_neg hk]
      cases kidsD (toldN F) c (it + 1 + 2 * ns.length) d with
      | none => rfl
      | some p => rfl
/-- What alone answers; there are more parts. -/
def AloneR (ib : Nat) (R : Option (V × Nat)) (w : World) (e : Ending) (w' : World) : Prop :=
  match R with
  | none => Fails 6 ib ib w e w'
  | some (v, it') => GotV w.heap.size v e w' ∧ it' ≤ 1024 ∧ w'.cell? ⟨ib, 0, none⟩ = some (.int .i64 (it' : Int)) ∧ (∀ j, w'.frozen? ⟨ib, j, none⟩ = false) ∧ Up ib ib w w'

theorem cell_far4 {w : World} {g p : Nat} (h : p ≠ g) (a b c d : Value) (j : Nat) : ((((w.setCell ⟨g, 0, none⟩ a).setCell ⟨g, 1, none⟩ b).setCell ⟨g, 2, none⟩ c).setCell ⟨g, 3, none⟩ d).cell? ⟨p, j, none⟩ = w.cell? ⟨p, j, none⟩ :=
  World.cell?_of_block (heap_four w g a b c d p h)
theorem frozen_far4 {w : World} {g p : Nat} (h : p ≠ g) (a b c d : Value) (j : Nat) : ((((w.setCell ⟨g, 0, none⟩ a).setCell ⟨g, 1, none⟩ b).setCell ⟨g, 2, none⟩ c).setCell ⟨g, 3, none⟩ d).frozen? ⟨p, j, none⟩ = w.frozen? ⟨p, j, none⟩ :=
  World.frozen?_of_block (heap_four w g a b c d p h)

set_option maxHeartbeats 2000000 in
theorem alone_any {F : Nat} (hT : Told F) {w : World} {rb ib B n c sh it : Nat} {A : Option Addr} {L : List Nat} (h : Rdr w rb ib B A n c L sh it) (hit : it ≤ 1024) {code nd cd : Nat} {d : List Nat} {Ad : Option Addr}
    (hr : Rd .u8 256 w B Ad nd d) (hc : nd ≤ cd) (hl : nd ≤ 1099511627776) (hF : d.length ≤ F) :
    Calls Tryd.prog 86 #[.pointer (some ⟨rb, 0, none⟩), .int .u8 (code : Int), .slice Ad nd cd] w (AloneR ib (aloneD (toldN F) it code d) w) := by
  have hlr := h.lr
  have hli := h.li
  have hlow := h.low
  obtain ⟨W0, hW0⟩ : ∃ W0, w.alloc (.cells #[.int .u8 0, .int .u64 0, .string ⟨#[]⟩, .slice none 0 0] 25) = W0 := ⟨_, rfl⟩
  have hB0 : Below w.heap.size w W0 := by rw [← hW0]; exact (Below.refl _ _).alloc (Nat.le_refl _) _
  have hbr : Box W0 w.heap.size (.int .u8 0) (.int .u64 0) (.string ⟨#[]⟩) (.slice none 0 0) := by rw [← hW0]; exact Box.new _ _ _ _ _
  have hs0 : W0.heap.size = w.heap.size + 1 := by rw [← hW0]; simp
  have h0 := h.call hB0
  have hr0 := hr.below (hB0.mono hlow)
  have hU0 : Up ib ib w W0 := Up.of hB0
  have HS0 := Lib.hid hs0
  unfold aloneD
  by_cases hk : kof code < 22
  · rw [if_pos hk]
    have hdk : ¬ ((kof code : Int) ≥ 22) := by omega
    have hfl := plain_fl code d hr.lim
    clear hk hs0
    go_enter Tryd.func86, Tryd.ntmps86
    go_wp2_with (first
      | (go_at_call 85; refine (kind_any code _).mono ?_; rintro e w' ⟨rfl, rfl⟩)
      | (go_at_call 100; refine (plain_any (cc := cd) hr0 h0.low).mono ?_; rintro e w3 ⟨rfl, hb3⟩; have hbz := hbr.call hb3; obtain ⟨z0, z1, z2, z3, zf⟩ := hbz.all))
    have hs0 := HS0.out
    have hs3 := hb3.size
    have hr3 := h0.call hb3
    refine bodyPost_ret (v := .agg #[.int .u8 ((plainV code d).kind : Int), .int .u64 ((plainV code d).num : Int), .string (plainV code d).text, .slice none 0 0]) (by simp [results, Tryd.results86, go_sem, z0, z1, z2, z3]) rfl ?_
    exact ⟨⟨none, 0, 0, rfl, hfl.kind, hfl.num, by rw [hfl.kids]; exact Val.Kids.none_ _ _ _ _ _⟩, hit, (cell_far4 (by omega) _ _ _ _ _).trans hr3.item, fun j => (frozen_far4 (by omega) _ _ _ _ _).trans (hr3.fi j), up_set4 (hU0.call hb3) (Nat.le_refl _) _ _ _ _⟩
  · rw [if_neg hk]
    have hdk : (kof code : Int) ≥ 22 := by omega
    have hk24 := kof_le code
    have hA := kids_any hT h0 hit (code := code) hr0 hc hl hF
    clear hk hs0
    cases hR : kidsD (toldN F) code it d with
    | none =>
      rw [hR] at hA
      simp only
      go_enter Tryd.func86, Tryd.ntmps86
      go_wp2_with (first
        | (go_at_call 85; refine (kind_any code _).mono ?_; rintro e w' ⟨rfl, rfl⟩)
        | (go_at_call 102; refine hA.mono ?_; rintro e w3 ⟨rfl, hu3⟩))
      exact ⟨rfl, rfl, hU0.trans hu3⟩
    | some p =>
      obtain ⟨vs, it'⟩ := p
      rw [hR] at hA
      simp only
      go_enter Tryd.func86, Tryd.ntmps86
      go_wp2_with (first
        | (go_at_call 85; refine (kind_any code _).mono ?_; rintro e w' ⟨rfl, rfl⟩)
        | (go_at_call 102; refine hA.mono ?_; rintro e w3 ⟨⟨Ak, nk, ck, rfl, hnw⟩, hit3, hi3, hf3, hu3⟩; have hbz := Box.up hbr hu3 (by omega) (by omega); obtain ⟨z0, z1, z2, z3, zf⟩ := hbz.all))
      have hs0 := HS0.out
      have hs3 := hu3.size
      refine bodyPost_ret (v := .agg #[.int .u8 (kof code : Int), .int .u64 0, .string ⟨#[]⟩, .slice Ak nk ck]) (by simp [results, Tryd.results86, go_sem, z0, z1, z2, z3]) rfl ?_
      exact ⟨⟨Ak, nk, ck, rfl, (by show kof code < 256; omega), (by show 0 < 18446744073709551616; omega), Nw.less (Nw_four hnw (by omega) _ _ _ _) (by omega)⟩, hit3, (cell_far4 (by omega) _ _ _ _ _).trans hi3, fun j => (frozen_far4 (by omega) _ _ _ _ _).trans (hf3 j), up_set4 (hU0.trans hu3) (Nat.le_refl _) _ _ _ _⟩
end Go.Proofs.YtikjnbognjicdaaDoor.Dec
