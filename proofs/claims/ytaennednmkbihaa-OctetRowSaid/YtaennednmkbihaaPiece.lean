/-
  Contracts of octet.cutter's cut, where there is a piece, of octet.Piece and of the document's Piece. Condition: fewer than 2^40 bytes come in.
-/
import Derived.Test.YtaennednmkbihaaLen
namespace Go.Proofs.Ytaennednmkbihaa.Oct
open Go.RowKit

theorem below_of_drew {B : Nat} {w w' : World} (h : Below B w.drew w') : Below B w w' := ⟨h.os, h.tape, h.output, h.size, h.block⟩

theorem cut_good (A : Option Addr) (n c k m : Nat) (l : List UInt8) (w : World) (hr : Rd w w.heap.size A n l) (hk : k ≤ 8) (hkn : k ≤ n) (hnc : n ≤ c) (hn : n ≤ 1099511627776) (hm : m ≤ 2147483647) (t : Nat) (ht : tl (l.take k) = t) (h1 : t ≤ m) (h2 : t ≤ n - k) :
    Calls Try.prog 26 #[.agg #[.slice A n c, .int .i64 k, .int .i64 m], .func (.func 27) #[.agg #[.slice A n c, .int .i64 k, .int .i64 m]] #[]] w (GivesP w.heap.size ((l.drop k).take t) (l.drop (k + t)) 0 w) := by
  have HT := Lib.hid ht
  clear ht
  obtain ⟨A1, c1, g1, g2, s1, s1', r1⟩ := cut_mid A n c k t (by omega) hnc
  obtain ⟨A2, c2, g3, g4, s2, s2', r2⟩ := cut_from A n c (k + t) (by omega) hnc
  have R1 := Lib.hid (r1 w w.heap.size l hr)
  have R2 := Lib.hid (r2 w w.heap.size l hr)
  have q2 : ∀ W : World, (Instr.slice 22 (.slice A n c) (some (.int .i64 ((k : Int) + t))) none none).run Try.prog W = .ok (.slice A2 (n - (k + t)) c2) W := fun W => s2 W _ (by simp)
  have q2' : ∀ W : World, (Instr.sliceAt 22 (.slice A n c) (some (.int .i64 ((k : Int) + t))) none none).run Try.prog W = .ok (.slice A2 (n - (k + t)) c2) W := fun W => s2' W _ (by simp)
  clear s2 s2' r1 r2
  go_enter Try.func26, Try.ntmps26
  go_wp2_with (go_at_call 27; refine (length_any A n c k m l _ ((hr.alloc (Nat.le_refl _) _).mono (by simp)) hk hkn hnc hn hm t HT.out).mono ?_; rw [if_neg (by omega)]; rintro e w1 ⟨rfl, hb⟩; obtain ⟨hc0, hc1, _, hz1, hbw⟩ := box3 hb; clear hb)
  have R1' : Rd w1 w1.heap.size A1 t ((l.drop k).take t) := (R1.out.below hbw).mono (by omega)
  have R2' : Rd w1 w1.heap.size A2 (n - (k + t)) (l.drop (k + t)) := (R2.out.below hbw).mono (by omega)
  clear hr R1 R2
  go_region_held3 (fun w' => w'.cell? ⟨w.heap.size, 0, none⟩ = some (.slice A n c) ∧ w'.cell? ⟨w.heap.size, 1, none⟩ = some (.int .i64 k)) (go_keep)
    (first
      | (go_at_call_of 24 (Value.slice A1 t c1); refine (room_int A1 t c1 0 ((l.drop k).take t) _ (by exact R1') (by omega) (by omega) (by omega)).mono ?_; rintro e w2 ⟨P, np, cp, rfl, hoP, hbP⟩; have hbP' : Below w1.heap.size w1 w2 := below_of_drew hbP; have hk0 : w2.cell? ⟨w.heap.size, 0, none⟩ = some (.slice A n c) := (hbP'.cell (p := ⟨w.heap.size, 0, none⟩) hz1).trans hc0; have hk1 : w2.cell? ⟨w.heap.size, 1, none⟩ = some (.int .i64 k) := (hbP'.cell (p := ⟨w.heap.size, 1, none⟩) hz1).trans hc1; have R2'' : Rd w2 w2.heap.size A2 (n - (k + t)) (l.drop (k + t)) := (R2'.below hbP').mono hbP'.size; clear hbP)
      | (go_at_call_of 24 (Value.slice A2 (n - (k + t)) c2); refine (room_int A2 (n - (k + t)) c2 0 (l.drop (k + t)) _ (by exact R2'') (by omega) (by omega) (by omega)).mono ?_; rintro e w3 ⟨Q, nq, cq, rfl, hoQ, hbQ⟩; have hbQ' : Below w2.heap.size w2 w3 := hbQ; have hj0 : w3.cell? ⟨w.heap.size, 0, none⟩ = some (.slice A n c) := (hbQ'.cell (p := ⟨w.heap.size, 0, none⟩) (Nat.lt_of_lt_of_le hz1 hbP'.size)).trans hk0; have hj1 : w3.cell? ⟨w.heap.size, 1, none⟩ = some (.int .i64 k) := (hbQ'.cell (p := ⟨w.heap.size, 1, none⟩) (Nat.lt_of_lt_of_le hz1 hbP'.size)).trans hk1; clear hbQ))
  have z1 : w.heap.size ≤ w1.drew.heap.size := hbw.size
  have z2 : w.heap.size ≤ w2.heap.size := Nat.le_trans hbw.size hbP'.size
  go_wp2
  go_ret3
  exact ⟨P, np, cp, Q, nq, cq, rfl, (hoP.below hbQ').mono z1, hoQ.mono z2, (hbw.trans (hbP'.mono hbw.size)).trans (hbQ'.mono z2)⟩

/-- Is there a piece? -/
def pgood (l : List UInt8) (k : Int) : Prop := (k = 1 ∨ k = 4) ∧ k.toNat ≤ l.length ∧ tl (l.take k.toNat) ≤ 2147483647 ∧ tl (l.take k.toNat) ≤ l.length - k.toNat
instance (l : List UInt8) (k : Int) : Decidable (pgood l k) := by unfold pgood; exact inferInstance
def perr (l : List UInt8) (k : Int) : Int := if pgood l k then 0 else if k = 1 ∨ k = 4 then 7 else 1
def ppc (l : List UInt8) (k : Int) : List UInt8 := if pgood l k then (l.drop k.toNat).take (tl (l.take k.toNat)) else []
def prs (l : List UInt8) (k : Int) : List UInt8 := if pgood l k then l.drop (k.toNat + tl (l.take k.toNat)) else []

theorem piece_no (A : Option Addr) (n c : Nat) (k : Int) (w : World) (h1 : k ≠ 1) (h4 : k ≠ 4) :
    Calls Try.prog 20 #[.slice A n c, .int .i64 k] w (GivesP w.heap.size [] [] 1 w) := by
  have F : Hid (GivesP w.heap.size [] [] 1 w (.returned (.tuple #[.slice none 0 0, .slice none 0 0, .int .i64 1])) w) := Lib.hid ⟨none, 0, 0, none, 0, 0, rfl, World.ownsRow_nil _ _ 5 1, World.ownsRow_nil _ _ 5 1, Below.refl _ _⟩
  go_enter Try.func20, Try.ntmps20
  go_wp2_with (go_at_call 25; refine (longest_no _ _ h1 h4).mono ?_; rintro e w' ⟨rfl, rfl⟩)
  go_ret3
  exact F.out

theorem piece_1 (A : Option Addr) (n c : Nat) (p r : List UInt8) (err : Int) (w : World)
    (hcut : ∀ W : World, Below w.heap.size w W → Calls Try.prog 26 #[.agg #[.slice A n c, .int .i64 1, .int .i64 255], .func (.func 27) #[.agg #[.slice A n c, .int .i64 1, .int .i64 255]] #[]] W (GivesP W.heap.size p r err W)) :
    Calls Try.prog 20 #[.slice A n c, .int .i64 1] w (GivesP w.heap.size p r err w) := by
  have hmf : ∀ (fn : Fn) (first cap : Array Value) (w : World), (Instr.makeFunc fn first cap).run Try.prog w = .ok (.func fn first cap) w := fun _ _ _ _ => rfl
  have H := Lib.hid hcut
  clear hcut
  have hb0 : Below w.heap.size w (w.alloc (.cells #[.slice A n c, .int .i64 1, .int .i64 255] 50)) := (Below.refl _ _).alloc (Nat.le_refl _) _
  go_enter Try.func20, Try.ntmps20
  go_wp2_with (first
    | (go_at_call 25; refine (longest_1 _).mono ?_; rintro e w' ⟨rfl, rfl⟩)
    | (go_at_call 26; refine (H.out _ hb0).mono ?_; rintro e w1 ⟨P, np, cp, Q, nq, cq, rfl, hoP, hoQ, hb⟩))
  go_ret3
  exact ⟨P, np, cp, Q, nq, cq, rfl, hoP.mono hb0.size, hoQ.mono hb0.size, hb0.trans (hb.mono hb0.size)⟩

theorem piece_4 (A : Option Addr) (n c : Nat) (p r : List UInt8) (err : Int) (w : World)
    (hcut : ∀ W : World, Below w.heap.size w W → Calls Try.prog 26 #[.agg #[.slice A n c, .int .i64 4, .int .i64 2147483647], .func (.func 27) #[.agg #[.slice A n c, .int .i64 4, .int .i64 2147483647]] #[]] W (GivesP W.heap.size p r err W)) :
    Calls Try.prog 20 #[.slice A n c, .int .i64 4] w (GivesP w.heap.size p r err w) := by
  have hmf : ∀ (fn : Fn) (first cap : Array Value) (w : World), (Instr.makeFunc fn first cap).run Try.prog w = .ok (.func fn first cap) w := fun _ _ _ _ => rfl
  have H := Lib.hid hcut
  clear hcut
  have hb0 : Below w.heap.size w (w.alloc (.cells #[.slice A n c, .int .i64 4, .int .i64 2147483647] 50)) := (Below.refl _ _).alloc (Nat.le_refl _) _
  go_enter Try.func20, Try.ntmps20
  go_wp2_with (first
    | (go_at_call 25; refine (longest_4 _).mono ?_; rintro e w' ⟨rfl, rfl⟩)
    | (go_at_call 26; refine (H.out _ hb0).mono ?_; rintro e w1 ⟨P, np, cp, Q, nq, cq, rfl, hoP, hoQ, hb⟩))
  go_ret3
  exact ⟨P, np, cp, Q, nq, cq, rfl, hoP.mono hb0.size, hoQ.mono hb0.size, hb0.trans (hb.mono hb0.size)⟩

theorem tl_1 (l : List UInt8) : tl (l.take 1) ≤ 255 := by
  have h := tl_lt (l.take 1)
  have h1 : (256 : Nat) ^ (l.take 1).length ≤ 256 ^ 1 := Nat.pow_le_pow_right (by omega) (by rw [List.length_take]; omega)
  omega

theorem piece_any (A : Option Addr) (n c : Nat) (l : List UInt8) (k : Int) (w : World) (hr : Rd w w.heap.size A n l) (hnc : n ≤ c) (hn : n ≤ 1099511627776) :
    Calls Try.prog 20 #[.slice A n c, .int .i64 k] w (GivesP w.heap.size (ppc l k) (prs l k) (perr l k) w) := by
  have hl := hr.len
  by_cases h1 : k = 1
  · subst h1
    by_cases hg : pgood l 1
    · have hg' := hg
      obtain ⟨_, g1, g2, g3⟩ := hg'
      unfold ppc prs perr
      rw [if_pos hg, if_pos hg, if_pos hg]
      exact piece_1 A n c _ _ _ w fun W hW => cut_good A n c 1 255 l W ((hr.below hW).mono hW.size) (by omega) (by rw [← hl]; exact g1) hnc hn (by omega) _ rfl (tl_1 l) (by rw [← hl]; exact g3)
    · unfold ppc prs perr
      rw [if_neg hg, if_neg hg, if_neg hg, if_pos (.inl rfl)]
      refine piece_1 A n c _ _ _ w fun W hW => ?_
      by_cases hs : n < 1
      · exact cut_short A n c 1 255 W hs
      · refine cut_bad A n c 1 255 l W ((hr.below hW).mono hW.size) (by omega) (by omega) hnc hn (by omega) _ rfl (.inr ?_)
        have := tl_1 l
        apply Nat.lt_of_not_le
        intro hle
        exact hg ⟨.inl rfl, by rw [hl]; exact Nat.le_of_not_lt hs, Nat.le_trans this (by omega), by rw [hl]; exact hle⟩
  by_cases h4 : k = 4
  · subst h4
    by_cases hg : pgood l 4
    · have hg' := hg
      obtain ⟨_, g1, g2, g3⟩ := hg'
      unfold ppc prs perr
      rw [if_pos hg, if_pos hg, if_pos hg]
      exact piece_4 A n c _ _ _ w fun W hW => cut_good A n c 4 2147483647 l W ((hr.below hW).mono hW.size) (by omega) (by rw [← hl]; exact g1) hnc hn (by omega) _ rfl g2 (by rw [← hl]; exact g3)
    · unfold ppc prs perr
      rw [if_neg hg, if_neg hg, if_neg hg, if_pos (.inr rfl)]
      refine piece_4 A n c _ _ _ w fun W hW => ?_
      by_cases hs : n < 4
      · exact cut_short A n c 4 2147483647 W hs
      · refine cut_bad A n c 4 2147483647 l W ((hr.below hW).mono hW.size) (by omega) (by omega) hnc hn (by omega) _ rfl ?_
        apply Classical.byContradiction
        intro hle
        exact hg ⟨.inr rfl, by rw [hl]; exact Nat.le_of_not_lt hs, Nat.le_of_not_lt fun h => hle (.inl h), by rw [hl]; exact Nat.le_of_not_lt fun h => hle (.inr h)⟩
  have hg : ¬ pgood l k := fun h => by rcases h.1 with h | h <;> contradiction
  unfold ppc prs perr
  rw [if_neg hg, if_neg hg, if_neg hg, if_neg (by omega)]
  exact piece_no A n c k w h1 h4

end Go.Proofs.Ytaennednmkbihaa.Oct
