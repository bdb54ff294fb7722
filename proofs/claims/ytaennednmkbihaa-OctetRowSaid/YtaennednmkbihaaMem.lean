/-
  Words for slices of bytes: one that is read ('Rd'), one of the call's own ('Own'), and the laws of append, of cutting and of string(..) over them. 5: the type uint8, 22: the type []uint8 of this seat's program. No other condition.
-/
import Derived.Test.YtaennednmkbihaaRows
import Derived.Test.YtaennednmkbihaaMath
import Derived.WalkKit
import Derived.OwnWalk
import Derived.Below
import Derived.Laws.OwnMore
import Derived.Laws.AppendOwnNone
import Derived.Maps.AppendAt
import Derived.Deep.AppendLies
import Derived.Laws.BytesArg
import Derived.Deep.Draws
import Derived.Lib.Hide
namespace Go.Proofs.Ytaennednmkbihaa.Oct
open Go.RowKit

theorem info5 : (Try.prog.info? 5).map (fun i => (i.zero, i.size, i.bytes)) = some (some (.int .u8 0), 1, 1) := by kernel_rfl

/-- Bytes, as the cells of memory have them. -/
def bs (l : List UInt8) : List Value := l.map fun c => .int .u8 (c.toNat : Int)

theorem bs_length (l : List UInt8) : (bs l).length = l.length := by simp [bs]
theorem bs_append (l m : List UInt8) : bs (l ++ m) = bs l ++ bs m := by simp [bs]
theorem bs_one (l : List UInt8) : ∀ u ∈ bs l, u.oneCell' = true := by
  intro u hu
  obtain ⟨c, _, rfl⟩ := List.mem_map.1 hu
  rfl
theorem bs_at (l : List UInt8) (k : Nat) (h : k < l.length) : (bs l)[k]? = some (.int .u8 (l[k].toNat : Int)) := by
  simp [bs, List.getElem?_eq_getElem h]

/-- A slice of n bytes at A that reads as l, and lies below block B (nil, if there are none). -/
def Rd (w : World) (B : Nat) (A : Option Addr) (n : Nat) (l : List UInt8) : Prop :=
  l.length = n ∧ (0 < n → ∃ b o, A = some ⟨b, o, none⟩ ∧ b < B ∧ ∀ k (h : k < l.length), w.cell? ⟨b, o + k, none⟩ = some (.int .u8 (l[k].toNat : Int)))

/-- A slice that the call itself made, in a block from base on. -/
def Own (w : World) (base : Nat) (A : Option Addr) (n c : Nat) (l : List UInt8) : Prop := w.ownsRow base 5 1 (.slice A n c) n (bs l)

section
variable {w w' : World} {B B' base n c : Nat} {A : Option Addr} {l : List UInt8}

theorem Rd.len (h : Rd w B A n l) : l.length = n := h.1
theorem Rd.zero (w : World) (B : Nat) (A : Option Addr) : Rd w B A 0 [] := ⟨rfl, fun h => absurd h (by omega)⟩
theorem Rd.at_ (h : Rd w B A n l) {k : Nat} (hk : k < n) : ∃ b o c, A = some ⟨b, o, none⟩ ∧ b < B ∧ l[k]? = some c ∧ w.cell? ⟨b, o + k, none⟩ = some (.int .u8 (c.toNat : Int)) := by
  obtain ⟨b, o, e, hb, hc⟩ := h.2 (by omega)
  have hl : k < l.length := by rw [h.1]; exact hk
  exact ⟨b, o, l[k], e, hb, List.getElem?_eq_getElem hl, hc k hl⟩
theorem Rd.keep (h : Rd w B A n l) (hk : ∀ p : Addr, p.block < B → w'.cell? p = w.cell? p) : Rd w' B A n l :=
  ⟨h.1, fun hn => by
    obtain ⟨b, o, e, hb, hc⟩ := h.2 hn
    exact ⟨b, o, e, hb, fun k hk' => (hk ⟨b, o + k, none⟩ hb).trans (hc k hk')⟩⟩
theorem Rd.mono (h : Rd w B A n l) (hB : B ≤ B') : Rd w B' A n l :=
  ⟨h.1, fun hn => by
    obtain ⟨b, o, e, hb, hc⟩ := h.2 hn
    exact ⟨b, o, e, by omega, hc⟩⟩
theorem Rd.below (h : Rd w B A n l) (hb : Below B w w') : Rd w' B A n l := h.keep fun _ hp => hb.cell hp
theorem Rd.alloc (h : Rd w B A n l) (hB : B ≤ w.heap.size) (o : Obj) : Rd (w.alloc o) B A n l := h.below ((Below.refl _ _).alloc hB o)
theorem Rd.take (h : Rd w B A n l) {k : Nat} (hk : k ≤ n) : Rd w B A k (l.take k) := by
  refine ⟨by rw [List.length_take, h.1]; omega, fun hn => ?_⟩
  obtain ⟨b, o, e, hb, hc⟩ := h.2 (by omega)
  refine ⟨b, o, e, hb, fun j hj => ?_⟩
  rw [List.length_take] at hj
  rw [hc j (by omega)]
  simp
theorem Rd.drop (h : Rd w B A n l) {k : Nat} (hk : k ≤ n) (hn : n ≤ c) : Rd w B (if c = k then A else A.map (·.add k)) (n - k) (l.drop k) := by
  refine ⟨by rw [List.length_drop, h.1], fun hp => ?_⟩
  obtain ⟨b, o, rfl, hb, hc⟩ := h.2 (by omega)
  rw [if_neg (by omega)]
  refine ⟨b, o + k, ?_, hb, fun j hj => ?_⟩
  · simp only [Option.map_some, Addr.add]
    split
    · rename_i h0; simp [h0]
    · rfl
  · rw [List.length_drop] at hj
    rw [Nat.add_assoc, hc (k + j) (by omega)]
    simp

theorem Own.len (h : Own w base A n c l) : l.length = n := by have := h.1; rw [bs_length] at this; omega
theorem Own.cap (h : Own w base A n c l) : n ≤ c ∧ c ≤ maxLen := by
  rcases h.2 with ⟨e, h0⟩ | ⟨g, cap, cur, e, _, _, h1, h2, _, _⟩
  · injection e with _ _ e; subst e; subst h0; exact ⟨Nat.le_refl _, by unfold maxLen; omega⟩
  · injection e with _ _ e; subst e; exact ⟨h1, h2⟩
theorem Own.rd (h : Own w base A n c l) : Rd w w.heap.size A n l := by
  refine ⟨h.len, fun hn => ?_⟩
  obtain ⟨g, cap, hv, hb, hlt⟩ := h.form hn
  injection hv with hA _ hc
  subst hA
  subst hc
  refine ⟨g, 0, rfl, hlt, fun k hk => ?_⟩
  have hkn : k < n := by rw [← h.len]; exact hk
  rw [Nat.zero_add, World.ownsRow.cellAt h k (by omega)]
  exact bs_at l k hk
theorem Own.blk (h : Own w base A n c l) : ∀ g, (Value.slice A n c).ownBlock = some g → base ≤ g ∧ g < w.heap.size := h.lt
theorem Own.below (h : Own w base A n c l) (hb : Below w.heap.size w w') : Own w' base A n c l :=
  h.kept (row := none) ⟨hb.os, hb.tape, hb.output, hb.size, fun k hk _ => hb.block k hk⟩ (by
    cases hv : (Value.slice A n c).ownBlock with
    | none => exact .inl rfl
    | some g => exact .inr (by simp))
theorem Own.alloc (h : Own w base A n c l) (o : Obj) : Own (w.alloc o) base A n c l := World.ownsRow.alloc h o
theorem Own.mono {base' : Nat} (h : Own w base A n c l) (hb : base' ≤ base) : Own w base' A n c l := by
  refine ⟨h.1, ?_⟩
  rcases h.2 with h | ⟨g, cap, cur, h1, h2, h3⟩
  · exact .inl h
  · exact .inr ⟨g, cap, cur, h1, by omega, h3⟩
end
theorem own_of_row {w : World} {base n : Nat} {v : Value} {l : List UInt8} (h : w.ownsRow base 5 1 v n (bs l)) : ∃ A c, v = .slice A n c ∧ Own w base A n c l := by
  rcases h.2 with ⟨rfl, rfl⟩ | ⟨g, cap, cur, rfl, _⟩
  · exact ⟨none, 0, rfl, h⟩
  · exact ⟨_, _, rfl, h⟩

theorem below_grown {w w' : World} {base A n c l} (h : Own w base A n c l) (hg : w.grownBy w' (Value.slice A n c).ownBlock) (hb : base ≤ w.heap.size) : Below base w w' :=
  (Below.refl _ _).grown hg hb fun k hk => (h.blk k hk).1

/-- append(x, y...): x of the call's own, y any slice that is read, nil or not. -/
theorem wpList_app {w : World} {ops : Array Oper} {rest : List Oper} {o : Oper} {a : Act} {Q : Exit → Act → World → Prop} (hgd : o.guard = none) (s x : Operand)
    (ho : o.op = .call { callee := .builtin .append, args := #[s, x], argTypes := #[22, 22] })
    {base n c : Nat} {A : Option Addr} {L : List UInt8} (hs : a.eval s = .slice A n c) (hown : Own w base A n c L)
    {B m d : Nat} {A' : Option Addr} {l : List UInt8} (hx : a.eval x = .slice A' m d) (hr : Rd w B A' m l) (hsz : n + m ≤ 140737488355328) (hbase : base ≤ w.heap.size)
    (h : ∀ A2 c2 w', Own w' base A2 (n + m) c2 (L ++ l) → w.grownBy w' (Value.slice A n c).ownBlock → wpList Try.prog ops Q rest (a.put o.dst (.slice A2 (n + m) c2)) w') :
    wpList Try.prog ops Q (o :: rest) a w := by
  obtain ⟨i0, hi, hz0, hz1, hz2⟩ := info_parts info5
  rcases A' with _ | ad
  · have hm : m = 0 := by
      rcases Nat.eq_zero_or_pos m with h0 | h0
      · exact h0
      · obtain ⟨_, _, e, _⟩ := hr.2 h0
        cases e
    subst hm
    have hl : l = [] := List.eq_nil_of_length_eq_zero hr.1
    subst hl
    refine wpList_plain hgd fun K hK => ?_
    have hrun : (Builtin.append_ #[22, 22] o.type #[.slice A n c, .slice none 0 d]).run Try.prog w = .ok (.slice A n c) w := by
      rcases hown.2 with ⟨e, rfl⟩ | ⟨g, cap, cur, e, _, _, hnc, _⟩
      · injection e with e1 _ e3; subst e1; subst e3
        simp [Builtin.append_, run_underlying Try.underlying22, sizeOf, typeInfo, hi, Builtin.lenOf, Builtin.firstCells]
      · injection e with e1 _ e3; subst e1; subst e3
        simp [Builtin.append_, run_underlying Try.underlying22, sizeOf, typeInfo, hi, Builtin.lenOf, Builtin.firstCells, hnc, storeCells]
    unfold Oper.wp execOp
    simp only [ho, resolve, invoke, builtin, Sem.run_bind, Sem.run_pure, Result.andThen_ok, List.map_toArray, List.map_cons, List.map_nil, hs, hx, hrun]
    exact hK _ _ (h A c w (by simpa using hown) (World.grownBy.refl w _))
  · refine wpList_append_own w hgd s x 22 ho base 5 i0 (.int .u8 0) 1 1 Try.underlying22 hi hz0 hz1 hz2 rfl (by decide) (.slice A n c) n (bs L) hs hown ad m d (bs l) hx (by rw [bs_length, hr.1]; omega) ?_ (bs_one l) (by unfold maxLen; omega) (by omega) hbase ?_
    · intro j u hu
      have hj : j < l.length := by
        have := (List.getElem?_eq_some_iff.1 hu).1
        rwa [bs_length] at this
      obtain ⟨b, o', e, _, hc⟩ := hr.2 (by rw [← hr.1]; omega)
      injection e with e
      subst e
      rw [bs_at l j hj] at hu
      injection hu with hu
      subst hu
      have := hc j hj
      rw [← this]
      unfold Addr.add
      split
      · rename_i h0; subst h0; rfl
      · rfl
    · intro v' w' h2 h3 _
      rw [← bs_append] at h2
      obtain ⟨A2, c2, rfl, ho2⟩ := own_of_row h2
      exact h A2 c2 w' ho2 h3

/-- A block of new bytes, as a slice that is read. -/
theorem rd_lit (w : World) (l : List UInt8) (n : Nat) (hn : l.length = n) : Rd (w.alloc (.cells (bs l).toArray 5)) (w.heap.size + 1) (some ⟨w.heap.size, 0, none⟩) n l := by
  refine ⟨hn, fun _ => ⟨w.heap.size, 0, rfl, by omega, fun k hk => ?_⟩⟩
  rw [World.cell?_alloc_at _ _ _ _ rfl]
  simp [bs, List.getElem?_eq_getElem hk]
theorem own_lit (w : World) (base n : Nat) (l : List UInt8) (hn : l.length = n) (hm : n ≤ maxLen) (hb : base ≤ w.heap.size) : Own (w.alloc (.cells (bs l).toArray 5)) base (some ⟨w.heap.size, 0, none⟩) n n l := by
  have h := World.ownsRow_lit (e := 5) (size := 1) (base := base) w (bs l).toArray n hb hm (by simp [bs_length, hn])
  simpa [Own] using h

theorem elem22 : Try.prog.elem 22 = 5 := by kernel_rfl
theorem under22 : Try.prog.underlying 22 = some (.slice (Try.prog.elem 22)) := by rw [elem22]; exact Try.underlying22
theorem size5 (W : World) : (sizeOf 5).run Try.prog W = .ok 1 W := by
  obtain ⟨i0, hi, _, hz1, _⟩ := info_parts info5
  simp [sizeOf, typeInfo, hi, hz1]

/-- x[k:k+t], under a name of its own. -/
theorem cut_mid (A : Option Addr) (n c k t : Nat) (hkt : k + t ≤ n) (hnc : n ≤ c) : ∃ A1 c1, t ≤ c1 ∧ c1 ≤ c ∧
    (∀ W : World, (Instr.slice 22 (.slice A n c) (some (.int .i64 k)) (some (.int .i64 (k + t))) none).run Try.prog W = .ok (.slice A1 t c1) W) ∧ (∀ W : World, (Instr.sliceAt 22 (.slice A n c) (some (.int .i64 k)) (some (.int .i64 (k + t))) none).run Try.prog W = .ok (.slice A1 t c1) W) ∧
    ∀ w B l, Rd w B A n l → Rd w B A1 t ((l.drop k).take t) := by
  have h1 : ∀ W : World, (Instr.slice 22 (.slice A n c) (some (.int .i64 k)) (some (.int .i64 (k + t))) none).run Try.prog W = .ok (.slice (if c = k then A else A.map (·.add k)) t (c - k)) W := fun W => by
    rw [run_slice_lh (P := Try.prog) (w := W) 22 A n c under22 .i64 .i64 (k : Int) (k + t : Int) (by omega) (by omega) (by omega), elem22, size5]
    have e1 : ((k : Int) + t).toNat - k = t := by omega
    simp only [Result.andThen, sliced, e1, Int.toNat_natCast, Nat.mul_one]
  refine ⟨_, _, ?_, ?_, h1, fun W => ?_, fun w B l hr => ?_⟩
  · omega
  · omega
  · rw [run_sliceAt_slice (P := Try.prog) (w := W) 22 _ _ _ _ under22]; exact h1 W
  · exact (hr.drop (c := c) (k := k) (by omega) hnc).take (by omega)

/-- x[k:], under a name of its own. -/
theorem cut_from (A : Option Addr) (n c k : Nat) (hk : k ≤ n) (hnc : n ≤ c) : ∃ A1 c1, n - k ≤ c1 ∧ c1 ≤ c ∧
    (∀ (W : World) (i : Int), i = k → (Instr.slice 22 (.slice A n c) (some (.int .i64 i)) none none).run Try.prog W = .ok (.slice A1 (n - k) c1) W) ∧ (∀ (W : World) (i : Int), i = k → (Instr.sliceAt 22 (.slice A n c) (some (.int .i64 i)) none none).run Try.prog W = .ok (.slice A1 (n - k) c1) W) ∧
    ∀ w B l, Rd w B A n l → Rd w B A1 (n - k) (l.drop k) := by
  have h1 : ∀ (W : World) (i : Int), i = k → (Instr.slice 22 (.slice A n c) (some (.int .i64 i)) none none).run Try.prog W = .ok (.slice (if c = k then A else A.map (·.add k)) (n - k) (c - k)) W := fun W i hi => by
    subst hi
    rw [run_slice_l (P := Try.prog) (w := W) 22 A n c under22 .i64 (k : Int) (by omega) (by omega), elem22, size5]
    simp only [Result.andThen, sliced, Int.toNat_natCast, Nat.mul_one]
  refine ⟨_, _, ?_, ?_, h1, fun W i hi => ?_, fun w B l hr => hr.drop hk hnc⟩
  · omega
  · omega
  · rw [run_sliceAt_slice (P := Try.prog) (w := W) 22 _ _ _ _ under22]; exact h1 W i hi

theorem under5 : Try.prog.underlying 5 = some (.int .u8) := Try.underlying5
theorem under9 : Try.prog.underlying 9 = some .string := Try.underlying9

/-- string(x) of a slice that is read. -/
theorem run_str {w : World} {B n : Nat} {A : Option Addr} {l : List UInt8} (c : Nat) (h : Rd w B A n l) : (convert 22 9 (.slice A n c)).run Try.prog w = .ok (.string ⟨l.toArray⟩) w := by
  rcases A with _ | ad
  · have hn : n = 0 := by
      rcases Nat.eq_zero_or_pos n with h0 | h0
      · exact h0
      · obtain ⟨_, _, e, _⟩ := h.2 h0
        cases e
    subst hn
    have hl : l = [] := List.eq_nil_of_length_eq_zero h.1
    subst hl
    rw [run_convert_bytes_nil w 22 5 Try.underlying22 under5 0 c 9 under9]
    rfl
  · have hld : (loadCells ad n).run Try.prog w = .ok ((l.map fun c => (c.toNat : Int)).map (Value.int .u8)).toArray w := by
      have hh := run_loadCells_list (P := Try.prog) w ad ((l.map fun c => (c.toNat : Int)).map (Value.int .u8)) (fun j v hj => by
        have hjl : j < l.length := by
          have := (List.getElem?_eq_some_iff.1 hj).1
          simpa using this
        obtain ⟨b, o', e, _, hc⟩ := h.2 (by rw [← h.1]; omega)
        injection e with e
        subst e
        have := hc j hjl
        simp [List.getElem?_eq_getElem hjl] at hj
        subst hj
        rw [← this]
        unfold Addr.add
        split
        · rename_i h0; subst h0; rfl
        · rfl)
      rw [List.length_map, List.length_map, h.1] at hh
      exact hh
    rw [run_convert_bytes_string w 22 9 5 (some ad) n c Try.underlying22 under5 under9, run_bytesToString w ad n c _ hld, foldl_push_bytes]
    have e : (l.map fun c => (c.toNat : Int)).map (fun n => UInt8.ofNat n.toNat) = l := by
      rw [List.map_map]
      conv => rhs; rw [← List.map_id l]
      apply List.map_congr_left
      intro x _
      simp
    rw [e]
    simp

end Go.Proofs.Ytaennednmkbihaa.Oct
