/-
  Contracts of the laws' helpers Roomy, Kept, CopyBytes and Apart: bytes in memory of their own with eleven others behind them; that all are as they were; a copy; that rows of one's own, in blocks unlike, do not meet (as many as you like). Condition: at most 2^20 bytes (Roomy, Kept).
-/
import Derived.Test.YtdjncacknmejoaaEq
import Derived.Test.YtdjncacknmejoaaApt
import Derived.Laws.OwnMore
namespace Go.Proofs.Ytdjncacknmejoaa.Rm
set_option maxRecDepth 100000
open Go.RowKit Go.Proofs.Ytdjncacknmejoaa.Utf

/-- A row of one's own of n bytes. -/
def Ow (w : World) (base : Nat) (A : Option Addr) (n c : Nat) (l : List Nat) : Prop := (∀ x ∈ l, x < 256) ∧ w.ownsRow base 5 1 (.slice A n c) n (vs .u8 l)
theorem Ow.eqv {w : World} {base n c : Nat} {A : Option Addr} {l m : List Nat} (h : Ow w base A n c l) (e : l = m) : Ow w base A n c m := e ▸ h
theorem Ow.own {w : World} {base n : Nat} {A : Option Addr} {l : List Nat} (h : Ow w base A n n l) : Own .u8 256 5 w base A n n l := by
  refine ⟨h.1, h.2, fun g hg cur e fz hc u hu => ?_⟩
  rcases h.2.2 with ⟨e', _⟩ | ⟨g', cap, cur', e', _, hh, _, _, hs, ht⟩
  · rw [e'] at hg; cases hg
  · injection e' with e1 _ e3
    subst e1
    subst e3
    have : g' = g := by simpa [Value.ownBlock] using hg
    subst this
    rw [hc] at hh
    injection hh with hh
    injection hh with hh _ _
    subst hh
    rw [List.take_of_length_le (by simp; omega)] at ht
    rw [ht] at hu
    exact nb_vs h.1 u hu
/-- The beginning of a row of one's own. -/
theorem own_cut {w : World} {base n m c : Nat} {g : Nat} {l s : List Nat} (h : Own .u8 256 5 w base (some ⟨g, 0, none⟩) n c (l ++ s)) (hm : l.length = m) (hn : m ≤ n) : Own .u8 256 5 w base (some ⟨g, 0, none⟩) m c l := by
  refine ⟨fun x hx => h.1 x (List.mem_append_left _ hx), ⟨by rw [vs_length]; omega, ?_⟩, h.2.2.len⟩
  rcases h.2.1.2 with ⟨e, _⟩ | ⟨g', cap, cur, e, hb, hh, h1, h2, hs, ht⟩
  · injection e with e _ _; cases e
  · injection e with e1 _ e3
    subst e3
    refine .inr ⟨g', c, cur, by rw [← e1], hb, hh, by omega, h2, hs, ?_⟩
    have : cur.toList.take (m * 1) = (cur.toList.take (n * 1)).take (m * 1) := by rw [List.take_take, Nat.min_eq_left (by omega)]
    rw [this, ht, vs_append, List.take_append_of_le_length (by rw [vs_length]; omega), List.take_of_length_le (by rw [vs_length]; omega)]
/-- The eleven behind n bytes. -/
def spare (n : Nat) : List Nat := (List.range 11).map fun i => 3 * (n + i) % 256
theorem spare_at (n i : Nat) (h : i < 11) : (spare n)[i]? = some (3 * (n + i) % 256) := by simp [spare, h]
theorem spare_lim (n : Nat) : ∀ x ∈ spare n, x < 256 := by
  intro x hx
  obtain ⟨i, _, rfl⟩ := List.mem_map.1 hx
  omega

theorem fill_step {m : List Nat} {N j x : Nat} (hj : m[j]? = some x) (hN : j < N) : (m.take j ++ List.replicate (N - j) 0).set j x = m.take (j + 1) ++ List.replicate (N - (j + 1)) 0 := by
  have hl : (m.take j).length = j := by
    rw [List.length_take]
    have := (List.getElem?_eq_some_iff.1 hj).1
    omega
  rw [List.set_append_right j x (by omega), hl, Nat.sub_self, show N - j = (N - (j + 1)) + 1 by omega, List.replicate_succ, List.set_cons_zero, List.take_add_one, hj]
  simp

theorem Ow.stored {w : World} {base g n cap j x : Nat} {L : List Nat} (h : Ow w base (some ⟨g, 0, none⟩) n cap L) (hx : x < 256) :
    Ow (w.setCell ⟨g, j, none⟩ (.int .u8 (x : Int))) base (some ⟨g, 0, none⟩) n cap (L.set j x) := by
  refine ⟨fun y hy => ?_, ?_⟩
  · rcases List.mem_or_eq_of_mem_set hy with h' | rfl
    · exact h.1 y h'
    · exact hx
  · have := (h.2.stored j (.int .u8 (x : Int))).1
    rwa [show (vs .u8 L).set j (.int .u8 (x : Int)) = vs .u8 (L.set j x) by simp [vs, List.map_set]] at this

theorem cut_zero (g m c n : Nat) (hn : n ≤ m) (hm : m ≤ c) (W : World) : (Instr.slice 24 (.slice (some ⟨g, 0, none⟩) m c) (some (.int .i64 0)) (some (.int .i64 (n : Int))) none).run Try.prog W = .ok (.slice (some ⟨g, 0, none⟩) n c) W := by
  rw [run_slice_lh (P := Try.prog) (w := W) 24 _ m c under22 .i64 .i64 (0 : Int) (n : Int) (by omega) (by omega) (by omega), elem22, size5]
  simp [Result.andThen, sliced, Addr.add]
theorem cut_zero' (g m c n : Nat) (hn : n ≤ m) (hm : m ≤ c) (W : World) : (Instr.sliceAt 24 (.slice (some ⟨g, 0, none⟩) m c) (some (.int .i64 0)) (some (.int .i64 (n : Int))) none).run Try.prog W = .ok (.slice (some ⟨g, 0, none⟩) n c) W := by
  rw [run_sliceAt_slice (P := Try.prog) (w := W) 24 _ _ _ _ under22]; exact cut_zero g m c n hn hm W
theorem cut_capv (g m c : Nat) (z : Int) (hz : z = (c : Int)) (W : World) : (Instr.slice 24 (.slice (some ⟨g, 0, none⟩) m c) none (some (.int .i64 z)) none).run Try.prog W = .ok (.slice (some ⟨g, 0, none⟩) c c) W := by
  subst hz
  rw [run_slice_h (P := Try.prog) (w := W) 24 _ m c under22 .i64 (c : Int) (by omega) (by omega), elem22, size5]
  simp [Result.andThen, sliced, Addr.add]
theorem cut_capv' (g m c : Nat) (z : Int) (hz : z = (c : Int)) (W : World) : (Instr.sliceAt 24 (.slice (some ⟨g, 0, none⟩) m c) none (some (.int .i64 z)) none).run Try.prog W = .ok (.slice (some ⟨g, 0, none⟩) c c) W := by
  rw [run_sliceAt_slice (P := Try.prog) (w := W) 24 _ _ _ _ under22]; exact cut_capv g m c z hz W

/-- A roomy row: l, and the eleven within its room. -/
def Room (l : List Nat) (n : Nat) (w : World) (e : Ending) (w' : World) : Prop :=
  ∃ g, e = .returned (.slice (some ⟨g, 0, none⟩) n (n + 11)) ∧ Ow w' w.heap.size (some ⟨g, 0, none⟩) (n + 11) (n + 11) (l ++ spare n) ∧ Below w.heap.size w w'

set_option maxHeartbeats 400000 in
theorem roomy_any (A : Option Addr) (n c : Nat) (l : List Nat) (w : World) (hr : Rd .u8 256 w w.heap.size A n l) (hn : n ≤ 1048576) : Calls Try.prog 13 #[.slice A n c] w (Room l n w) := by
  obtain ⟨i0, hi, hz0, hz1, hz2⟩ := info_parts info5
  have hlen := hr.len
  go_enter Try.func13, Try.ntmps13
  go_wp2_with (at_make; refine wpList_make_full w rfl _ _ 24 rfl w.heap.size 5 i0 (.int .u8 0) 1 Try.underlying24 hi hz0 hz1 .i64 .i64 ((n : Int) + 11) ((n : Int) + 11) (n + 11) rfl rfl (by omega) (by omega) (by rw [hz2]; omega) (by unfold maxLen; omega) (Nat.le_refl _) ?_; intro w1 hown1 hgrow1; have hb1 : Below w.heap.size w w1 := (Below.refl _ _).grown hgrow1 (Nat.le_refl _) (fun _ h => by cases h))
  have ho1 : Ow w1 w.heap.size (some ⟨w.heap.size, 0, none⟩) (n + 11) (n + 11) (List.replicate (n + 11) 0) := by
    refine ⟨fun x hx => by rw [List.eq_of_mem_replicate hx]; omega, ?_⟩
    rw [show vs .u8 (List.replicate (n + 11) 0) = (madeCells (Value.int .u8 0).cells ((n + 11) * 1)).toList from by rw [Nat.mul_one]; show _ = (madeCells #[.int .u8 0] (n + 11)).toList; rw [toList_madeCells_one]; simp [vs]]
    exact hown1
  clear hown1 hgrow1
  generalize hg : w.heap.size = g at *
  go_loopw [5] (fun i wr => ∃ j : Nat, j ≤ n + 11 ∧ i = .int .i64 j ∧ Ow wr g (some ⟨g, 0, none⟩) (n + 11) (n + 11) ((l ++ spare n).take j ++ List.replicate (n + 11 - j) 0) ∧ Below g w wr) (fun i _ => n + 11 - (intOf i).toNat)
  case atStart => exact ⟨0, Nat.zero_le _, rfl, ho1.eqv (by simp), hb1⟩
  case round =>
    clear ho1 hb1
    obtain ⟨j, hj, rfl, ho, hb⟩ := hrel
    have hll : (l ++ spare n).length = n + 11 := by simp [spare, hlen]
    by_cases hlt : j < n + 11
    · have hsl : ((l ++ spare n).take j ++ List.replicate (n + 11 - j) 0).length = n + 11 := by simp [hll]; omega
      obtain ⟨v0, hc0⟩ : ∃ v0, wr.cell? ⟨g, j, none⟩ = some v0 := ⟨_, (ho.2.cellAt j (by omega)).trans (vs_at _ _ j (by omega))⟩
      have hf0 := ho.2.frozenAt j
      obtain ⟨z, hz, hz2⟩ : ∃ z : Nat, (3 * (j : Int)) % 256 = (z : Int) ∧ z = 3 * j % 256 := ⟨3 * j % 256, by omega, rfl⟩
      have hz3 : z < 256 := by omega
      have hf1 : ∀ v, (wr.setCell ⟨g, j, none⟩ v).frozen? ⟨g, j, none⟩ = false := fun v => (ho.2.stored j v).1.frozenAt j
      have hc1 : ∀ v, (wr.setCell ⟨g, j, none⟩ v).cell? ⟨g, j, none⟩ = some v := fun v => World.cell?_setCell_same' _ _ _ (by rw [hc0]; rfl)
      by_cases hjn : j < n
      · obtain ⟨b, o, x, rfl, hbb, hx, hx2, hc⟩ := hr.at_ hjn
        have hcb : ∀ v, (wr.setCell ⟨g, j, none⟩ v).cell? ⟨b, o + j, none⟩ = some (.int .u8 (x : Int)) := fun v => by
          rw [World.cell?_setCell_other _ _ _ _ (by intro e; injection e with e _ _; omega), hb.cell hbb]
          exact hc
        have HX : Hid ((l ++ spare n)[j]? = some x) := Lib.hid (by rw [List.getElem?_append_left (by omega)]; exact hx)
        clear hx hz2 hc hsl hll hlen
        have hjI : (j : Int) < n := by omega
        go_wp2
        go_roundw
        case rel =>
          refine ⟨j + 1, by omega, by go_num, ((ho.stored (j := j) hz3).stored (j := j) hx2).eqv ?_, (hb.setCell (by simp) _).setCell (by simp) _⟩
          rw [List.set_set, fill_step HX.out hlt]
        case measure => simp [intOf]; omega
      · have HX : Hid ((l ++ spare n)[j]? = some z) := Lib.hid (by rw [List.getElem?_append_right (by omega), hlen, spare_at n (j - n) (by omega), hz2]; congr 3; omega)
        clear hz2 hsl hll hlen
        have hjI : decide ((j : Int) < n) = false := by simp; omega
        go_wp2
        go_roundw
        case rel =>
          refine ⟨j + 1, by omega, by go_num, (ho.stored (j := j) hz3).eqv ?_, hb.setCell (by simp) _⟩
          rw [fill_step HX.out hlt]
        case measure => simp [intOf]; omega
    · have HE : Hid ((l ++ spare n).take j ++ List.replicate (n + 11 - j) 0 = l ++ spare n) := Lib.hid (by rw [List.take_of_length_le (by omega), show n + 11 - j = 0 by omega]; simp)
      have q1 := cut_zero g (n + 11) (n + 11) n (by omega) (Nat.le_refl _) wr
      have q2 := cut_zero' g (n + 11) (n + 11) n (by omega) (Nat.le_refl _) wr
      clear hll hlen
      go_wp2
      go_ret
      exact ⟨g, rfl, by rw [hg]; exact ho.eqv HE.out, by rw [hg]; exact hb⟩

/-- Kept, of a roomy row that is as it was. -/
theorem kept_any (g n : Nat) (A : Option Addr) (c : Nat) (l : List Nat) (w : World) (B : Nat) (hr : Rd .u8 256 w B (some ⟨g, 0, none⟩) (n + 11) (l ++ spare n)) (hr' : Rd .u8 256 w B A n l) (hn : n ≤ 1048576) :
    Calls Try.prog 16 #[.slice (some ⟨g, 0, none⟩) n (n + 11), .slice A n c] w fun e w' => e = .returned (.bool true) ∧ w = w' := by
  have hlen := hr'.len
  have hrn : Rd .u8 256 w B (some ⟨g, 0, none⟩) n l := (hr.take (k := n) (by omega)).eqv (by rw [← hlen, List.take_left])
  have hs1 := run_str (n + 11) hrn
  have hs2 := run_str c hr'
  have q1 := fun z hz => cut_capv g n (n + 11) z hz w
  have q2 := fun z hz => cut_capv' g n (n + 11) z hz w
  clear hrn
  go_enter Try.func16, Try.ntmps16
  go_wp2
  go_loop [5] (fun i => ∃ j : Nat, n ≤ j ∧ j ≤ n + 11 ∧ i = .int .i64 j) (fun i => n + 11 - (intOf i).toNat)
  case atStart => exact ⟨n, Nat.le_refl _, by omega, rfl⟩
  case round =>
    obtain ⟨j, hj1, hj2, rfl⟩ := hrel
    by_cases hlt : j < n + 11
    · obtain ⟨b, o, x, e, hbb, hx, hx2, hc⟩ := hr.at_ hlt
      injection e with e
      injection e with e1 e2
      subst e1
      subst e2
      rw [List.getElem?_append_right (by omega), hlen, spare_at n (j - n) (by omega)] at hx
      injection hx with hx
      rw [Nat.zero_add] at hc
      have hz : (3 * (j : Int)) % 256 = (x : Int) := by rw [← hx]; omega
      clear hx hlen
      have hjI : (j : Int) < n + 11 := by omega
      have q1' := q1 ((n : Int) + 11) (by omega)
      have q2' := q2 ((n : Int) + 11) (by omega)
      go_wp2
      exact ⟨⟨j + 1, by omega, by omega, by go_num⟩, by simp [intOf]; omega⟩
    · go_wp2
      go_ret
      exact ⟨rfl, rfl⟩

/-- A roomy row, in this place of its own. -/
structure Rmy (w : World) (base g n : Nat) (l : List Nat) : Prop where
  own : Own .u8 256 5 w base (some ⟨g, 0, none⟩) (n + 11) (n + 11) (l ++ spare n)
  len : l.length = n
theorem Rmy.below {w w' : World} {base g n : Nat} {l : List Nat} (h : Rmy w base g n l) (hb : Below w.heap.size w w') : Rmy w' base g n l := ⟨h.own.below hb, h.len⟩
theorem Rmy.mine {w : World} {base g n : Nat} {l : List Nat} (h : Rmy w base g n l) : Own .u8 256 5 w base (some ⟨g, 0, none⟩) n (n + 11) l := own_cut h.own h.len (by omega)
theorem Rmy.blk {w : World} {base g n : Nat} {l : List Nat} (h : Rmy w base g n l) : base ≤ g ∧ g < w.heap.size := h.own.blk g rfl
def GivesRoom (n : Nat) (l : List Nat) (w : World) (e : Ending) (w' : World) : Prop := ∃ g, e = .returned (.slice (some ⟨g, 0, none⟩) n (n + 11)) ∧ Rmy w' w.heap.size g n l ∧ Below w.heap.size w w'
theorem room (A : Option Addr) (n c : Nat) (l : List Nat) (w : World) (hr : Rd .u8 256 w w.heap.size A n l) (hn : n ≤ 1048576) : Calls Try.prog 13 #[.slice A n c] w (GivesRoom n l w) := (roomy_any A n c l w hr hn).mono fun _ _ ⟨g, he, ho, hb⟩ => ⟨g, he, ⟨ho.own, hr.len⟩, hb⟩
theorem kept (base g n : Nat) (A : Option Addr) (c : Nat) (l : List Nat) (w : World) (h : Rmy w base g n l) (hr : Rd .u8 256 w w.heap.size A n l) (hn : n ≤ 1048576) : Calls Try.prog 16 #[.slice (some ⟨g, 0, none⟩) n (n + 11), .slice A n c] w fun e w' => e = .returned (.bool true) ∧ w = w' := kept_any g n A c l w _ h.own.rd hr hn
end Go.Proofs.Ytdjncacknmejoaa.Rm
