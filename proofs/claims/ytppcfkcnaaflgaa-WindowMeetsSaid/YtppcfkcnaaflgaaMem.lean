/-
  Words for slices of bytes and of uint32s: one that is read ('Rd'), one of the call's own ('Own'), the laws of append and of cutting over them, string(..) of bytes, and the table of package utf ('Tab'). No other condition.
-/
import Derived.Test.YtppcfkcnaaflgaaRows
import Derived.Test.YtppcfkcnaaflgaaMath
import Derived.Test.YtppcfkcnaaflgaaTyp
import Derived.WalkKit
import Derived.OwnWalk
import Derived.Below
import Derived.Laws.OwnMore
import Derived.Laws.AppendOwnNone
import Derived.Maps.AppendAt
import Derived.Deep.AppendLies
import Derived.Laws.BytesArg
import Derived.Deep.Draws
import Derived.Lib.Hide
import Derived.Outline
namespace Go.Proofs.Ytppcfkcnaaflgaa.Utf
open Go.RowKit

theorem info5 : (Try.prog.info? 5).map (fun i => (i.zero, i.size, i.bytes)) = some (some (.int .u8 0), 1, 1) := by kernel_rfl
theorem info36 : (Try.prog.info? 22).map (fun i => (i.zero, i.size, i.bytes)) = some (some (.int .u32 0), 1, 4) := by kernel_rfl

/-- Numbers, as the cells of memory have them. -/
def vs (k : IntKind) (l : List Nat) : List Value := l.map fun (c : Nat) => .int k (c : Int)

theorem vs_length (k : IntKind) (l : List Nat) : (vs k l).length = l.length := by simp [vs]
theorem vs_append (k : IntKind) (l m : List Nat) : vs k (l ++ m) = vs k l ++ vs k m := by simp [vs]
theorem vs_one (k : IntKind) (l : List Nat) : ∀ u ∈ vs k l, u.oneCell' = true := by
  intro u hu
  obtain ⟨c, _, rfl⟩ := List.mem_map.1 hu
  rfl
theorem vs_at (k : IntKind) (l : List Nat) (j : Nat) (h : j < l.length) : (vs k l)[j]? = some (.int k (l[j] : Int)) := by
  simp [vs, List.getElem?_eq_getElem h]

/-- A slice of n numbers of kind K, each below M, at A, that reads as l, and lies below block B (nil, if there are none). -/
def Rd (K : IntKind) (M : Nat) (w : World) (B : Nat) (A : Option Addr) (n : Nat) (l : List Nat) : Prop :=
  l.length = n ∧ (∀ x ∈ l, x < M) ∧ (0 < n → ∃ b o, A = some ⟨b, o, none⟩ ∧ b < B ∧ ∀ k (h : k < l.length), w.cell? ⟨b, o + k, none⟩ = some (.int K (l[k] : Int)))

/-- A number of kind K, below M. -/
def Nb (K : IntKind) (M : Nat) (u : Value) : Prop := ∃ x : Nat, x < M ∧ u = .int K (x : Int)
/-- A slice that the call itself made, in a block from base on; all its places, the spare ones too, hold numbers. -/
def Own (K : IntKind) (M : Nat) (T : TypeId) (w : World) (base : Nat) (A : Option Addr) (n c : Nat) (l : List Nat) : Prop := (∀ x ∈ l, x < M) ∧ w.ownsRow base T 1 (.slice A n c) n (vs K l) ∧ Typ (Nb K M) w (.slice A n c)
theorem nb_vs {K : IntKind} {M : Nat} {l : List Nat} (h : ∀ x ∈ l, x < M) : ∀ u ∈ vs K l, Nb K M u := fun u hu => by
  obtain ⟨c, hc, rfl⟩ := List.mem_map.1 hu
  exact ⟨c, h c hc, rfl⟩

section
variable {K : IntKind} {M : Nat} {T : TypeId} {w w' : World} {B B' base n c : Nat} {A : Option Addr} {l : List Nat}

theorem Rd.len (h : Rd K M w B A n l) : l.length = n := h.1
theorem Rd.lim (h : Rd K M w B A n l) : ∀ x ∈ l, x < M := h.2.1
theorem Rd.zero (K : IntKind) (M : Nat) (w : World) (B : Nat) (A : Option Addr) : Rd K M w B A 0 [] := ⟨rfl, fun _ h => (by cases h), fun h => absurd h (by omega)⟩
theorem Rd.at_ (h : Rd K M w B A n l) {k : Nat} (hk : k < n) : ∃ b o c, A = some ⟨b, o, none⟩ ∧ b < B ∧ l[k]? = some c ∧ c < M ∧ w.cell? ⟨b, o + k, none⟩ = some (.int K (c : Int)) := by
  obtain ⟨b, o, e, hb, hc⟩ := h.2.2 (by omega)
  have hl : k < l.length := by rw [h.1]; exact hk
  exact ⟨b, o, l[k], e, hb, List.getElem?_eq_getElem hl, h.2.1 _ (List.getElem_mem hl), hc k hl⟩
theorem Rd.keep (h : Rd K M w B A n l) (hk : ∀ p : Addr, p.block < B → w'.cell? p = w.cell? p) : Rd K M w' B A n l :=
  ⟨h.1, h.2.1, fun hn => by
    obtain ⟨b, o, e, hb, hc⟩ := h.2.2 hn
    exact ⟨b, o, e, hb, fun k hk' => (hk ⟨b, o + k, none⟩ hb).trans (hc k hk')⟩⟩
theorem Rd.mono (h : Rd K M w B A n l) (hB : B ≤ B') : Rd K M w B' A n l :=
  ⟨h.1, h.2.1, fun hn => by
    obtain ⟨b, o, e, hb, hc⟩ := h.2.2 hn
    exact ⟨b, o, e, by omega, hc⟩⟩
theorem Rd.below (h : Rd K M w B A n l) (hb : Below B w w') : Rd K M w' B A n l := h.keep fun _ hp => hb.cell hp
/-- Kept by a call that leaves old memory alone. -/
theorem Rd.call (h : Rd K M w w.heap.size A n l) (hb : Below w.heap.size w w') : Rd K M w' w'.heap.size A n l := (h.below hb).mono hb.size
theorem Rd.alloc (h : Rd K M w B A n l) (hB : B ≤ w.heap.size) (o : Obj) : Rd K M (w.alloc o) B A n l := h.below ((Below.refl _ _).alloc hB o)
theorem Rd.take (h : Rd K M w B A n l) {k : Nat} (hk : k ≤ n) : Rd K M w B A k (l.take k) := by
  refine ⟨by rw [List.length_take, h.1]; omega, fun x hx => h.2.1 x (List.mem_of_mem_take hx), fun hn => ?_⟩
  obtain ⟨b, o, e, hb, hc⟩ := h.2.2 (by omega)
  refine ⟨b, o, e, hb, fun j hj => ?_⟩
  rw [List.length_take] at hj
  rw [hc j (by omega)]
  simp
theorem Rd.drop (h : Rd K M w B A n l) {k : Nat} (hk : k ≤ n) (hn : n ≤ c) : Rd K M w B (if c = k then A else A.map (·.add k)) (n - k) (l.drop k) := by
  refine ⟨by rw [List.length_drop, h.1], fun x hx => h.2.1 x (List.mem_of_mem_drop hx), fun hp => ?_⟩
  obtain ⟨b, o, rfl, hb, hc⟩ := h.2.2 (by omega)
  rw [if_neg (by omega)]
  refine ⟨b, o + k, ?_, hb, fun j hj => ?_⟩
  · simp only [Option.map_some, Addr.add]
    split
    · rename_i h0; simp [h0]
    · rfl
  · rw [List.length_drop] at hj
    rw [Nat.add_assoc, hc (k + j) (by omega)]
    simp
theorem Rd.eqv {m : List Nat} (h : Rd K M w B A n l) (e : l = m) : Rd K M w B A n m := e ▸ h

theorem Own.len (h : Own K M T w base A n c l) : l.length = n := by have := h.2.1.1; rw [vs_length] at this; omega
theorem Own.cap (h : Own K M T w base A n c l) : n ≤ c ∧ c ≤ maxLen := by
  rcases h.2.1.2 with ⟨e, h0⟩ | ⟨g, cap, cur, e, _, _, h1, h2, _, _⟩
  · injection e with _ _ e; subst e; subst h0; exact ⟨Nat.le_refl _, by unfold maxLen; omega⟩
  · injection e with _ _ e; subst e; exact ⟨h1, h2⟩
theorem Own.rd (h : Own K M T w base A n c l) : Rd K M w w.heap.size A n l := by
  refine ⟨h.len, h.1, fun hn => ?_⟩
  obtain ⟨g, cap, hv, hb, hlt⟩ := h.2.1.form hn
  injection hv with hA _ hc
  subst hA
  subst hc
  refine ⟨g, 0, rfl, hlt, fun k hk => ?_⟩
  have hkn : k < n := by rw [← h.len]; exact hk
  rw [Nat.zero_add, World.ownsRow.cellAt h.2.1 k (by omega)]
  exact vs_at K l k hk
theorem Own.blk (h : Own K M T w base A n c l) : ∀ g, (Value.slice A n c).ownBlock = some g → base ≤ g ∧ g < w.heap.size := h.2.1.lt
theorem Own.below (h : Own K M T w base A n c l) (hb : Below w.heap.size w w') : Own K M T w' base A n c l :=
  ⟨h.1, h.2.1.kept (row := none) ⟨hb.os, hb.tape, hb.output, hb.size, fun k hk _ => hb.block k hk⟩ (by
    cases hv : (Value.slice A n c).ownBlock with
    | none => exact .inl rfl
    | some g => exact .inr (by simp)), h.2.2.keep fun g hg => hb.block g (h.blk g hg).2⟩
theorem Own.alloc (h : Own K M T w base A n c l) (o : Obj) : Own K M T (w.alloc o) base A n c l := ⟨h.1, World.ownsRow.alloc h.2.1 o, h.2.2.keep fun g hg => Below.heap_alloc _ _ _ (h.blk g hg).2⟩
theorem Own.mono {base' : Nat} (h : Own K M T w base A n c l) (hb : base' ≤ base) : Own K M T w base' A n c l := by
  refine ⟨h.1, ⟨h.2.1.1, ?_⟩, h.2.2⟩
  rcases h.2.1.2 with h | ⟨g, cap, cur, h1, h2, h3⟩
  · exact .inl h
  · exact .inr ⟨g, cap, cur, h1, by omega, h3⟩
theorem Own.eqv {m : List Nat} (h : Own K M T w base A n c l) (e : l = m) : Own K M T w base A n c m := e ▸ h
theorem Own.nil (K : IntKind) (M : Nat) (T : TypeId) (w : World) (base : Nat) : Own K M T w base none 0 0 [] := ⟨fun _ h => (by cases h), ⟨rfl, .inl ⟨rfl, rfl⟩⟩, Typ.nil _ _ _ _⟩
end
theorem own_of_row {K : IntKind} {M : Nat} {T : TypeId} {w : World} {base n : Nat} {v : Value} {l : List Nat} (hl : ∀ x ∈ l, x < M) (h : w.ownsRow base T 1 v n (vs K l)) (hT : Typ (Nb K M) w v) : ∃ A c, v = .slice A n c ∧ Own K M T w base A n c l := by
  rcases h.2 with ⟨rfl, rfl⟩ | ⟨g, cap, cur, rfl, _⟩
  · exact ⟨none, 0, rfl, hl, h, hT⟩
  · exact ⟨_, _, rfl, hl, h, hT⟩

theorem below_grown {K : IntKind} {M : Nat} {T : TypeId} {w w' : World} {base A n c l} (h : Own K M T w base A n c l) (hg : w.grownBy w' (Value.slice A n c).ownBlock) (hb : base ≤ w.heap.size) : Below base w w' :=
  (Below.refl _ _).grown hg hb fun k hk => (h.blk k hk).1

/-- make([]T, 0, n). -/
theorem wpList_make_nb {P : Program} (w : World) {K : IntKind} {M : Nat} {T : TypeId} {ops : Array Oper} {rest : List Oper} {o : Oper} {a : Act} {Q : Exit → Act → World → Prop}
    (hg : o.guard = none) (l c : Operand) (t : TypeId) (hop : o.op = Op.makeSlice t l c)
    (base : Nat) (i : TypeInfo) (h1 : P.underlying t = some (.slice T)) (h2 : P.info? T = some i) (h3 : i.zero = some (.int K 0)) (hM : 0 < M) (h4 : i.size = 1)
    (kl kc : IntKind) (C : Int) (n : Nat) (hl : a.eval l = .int kl 0) (hc : a.eval c = .int kc C) (hC : C = (n : Int)) (b2 : i.bytes * n ≤ 281474976710656) (b3 : n ≤ maxLen) (b4 : base ≤ w.heap.size)
    (hK : ∀ w', Own K M T w' base (some ⟨w.heap.size, 0, none⟩) 0 n [] → w.grownBy w' none → wpList P ops Q rest (a.put o.dst (.slice (some ⟨w.heap.size, 0, none⟩) 0 n)) w') :
    wpList P ops Q (o :: rest) a w := by
  refine wpList_plain hg fun KK hK' => ?_
  have b5 : (n : Int) ≤ 9223372036854775807 := by
    have h := b3
    simp [maxLen] at h
    omega
  have b6 : (i.bytes : Int) * (n : Int) ≤ 281474976710656 := by
    have h : ((i.bytes * n : Nat) : Int) ≤ 281474976710656 := by omega
    rwa [Int.natCast_mul] at h
  have hr := run_make (P := P) w t T i (.int K 0) h1 h2 h3 kl kc 0 n (Int.le_refl _) (by omega) b6 b5
  simp only [Int.toNat_zero, Int.toNat_natCast] at hr
  subst hC
  unfold Oper.wp
  simp [execOp, hop, hl, hc, hr, Result.andThen]
  exact hK' _ _ (hK _ ⟨fun _ h => (by cases h), World.ownsRow_made w _ n b4 b3 (by rw [size_madeCells, h4]), Typ.new _ _ _ _ _ (made_cells rfl ⟨0, hM, rfl⟩ _)⟩ (World.grownBy_alloc w _ none))
/-- append at a step of a region that draws: numbers that lie in cells. -/
theorem step_own {P : Program} {w : World} {K : IntKind} {M : Nat} {T : TypeId} {ops : Array Oper} {o : Oper} {a : Act} {KK : Act → World → Prop} {Q : Exit → Act → World → Prop} {E : Prop} (hgd : o.guard = none) (s x : Operand) (t : TypeId)
    (ho : o.op = .call { callee := .builtin .append, args := #[s, x], argTypes := #[t, t] }) (i : TypeInfo) (bytes : Nat) (ht : P.underlying t = some (.slice T)) (hi : P.info? T = some i) (hz : i.zero = some (.int K 0)) (hM : 0 < M)
    (hsize : i.size = 1) (hby : i.bytes = bytes) {base n c : Nat} {A : Option Addr} {L : List Nat} (hs : a.eval s = .slice A n c) (hown : Own K M T w base A n c L)
    (ad : Addr) (m d : Nat) (l : List Nat) (hx : a.eval x = .slice (some ad) m d) (hl : l.length = m) (hlim : ∀ y ∈ l, y < M) (hnews : ∀ j u, (vs K l)[j]? = some u → w.cell? (ad.add j) = some u)
    (hm : 0 < m) (h63 : n + m ≤ maxLen) (hbytes : (n + m) * bytes ≤ 140737488355328) (hbase : base ≤ w.heap.size) (H : Nat) (hH : w.heap.size = H)
    (h : ∀ g cap w', Own K M T w' base (some ⟨g, 0, none⟩) (n + m) cap (L ++ l) → w.grownBy w' (Value.slice A n c).ownBlock → ((Value.slice A n c).ownBlock = some g ∨ g = H) → g < w'.heap.size → KK (a.put o.dst (.slice (some ⟨g, 0, none⟩) (n + m) cap)) w') :
    if Region.wanted o (yielded ops a.tmps) = true then Oper.wp P o a w KK Q else E := by
  have hw : Region.wanted o (yielded ops a.tmps) = true := by simp [Region.wanted, hgd]
  rw [if_pos hw]
  have hvl : (vs K l).length = m * 1 := by rw [vs_length, hl]; omega
  obtain ⟨g, cap, w', hr, h2, h3, h4, h5⟩ := run_append_lies (P := P) w t o.type base T i (.int K 0) 1 bytes ht hi hz hsize hby rfl (by omega) (.slice A n c) n (vs K L) hown.2.1 ad m d (vs K l) hvl hnews (vs_one _ _) hm h63 hbytes hbase H hH
  have h6 := typ_append (P := P) (Q := Nb K M) t o.type T i (.int K 0) bytes ht hi hz hsize hby rfl ⟨0, hM, rfl⟩ base (.slice A n c) n (vs K L) hown.2.1 hown.2.2 ad m d (vs K l) hvl hnews (vs_one _ _) (nb_vs hlim) h63 hbytes hr
  rw [← vs_append] at h2
  unfold Oper.wp execOp
  simp only [ho, resolve, invoke, builtin, Sem.run_bind, Sem.run_pure, Result.andThen_ok, List.map_toArray, List.map_cons, List.map_nil, hs, hx, hr]
  exact h g cap w' ⟨fun y hy => (List.mem_append.1 hy).elim (hown.1 y) (hlim y), h2, h6⟩ h3 h4 h5
/-- append in a plain region: numbers that lie in cells. -/
theorem wpList_own {P : Program} {w : World} {K : IntKind} {M : Nat} {T : TypeId} {ops : Array Oper} {rest : List Oper} {o : Oper} {a : Act} {Q : Exit → Act → World → Prop} (hgd : o.guard = none) (s x : Operand) (t : TypeId)
    (ho : o.op = .call { callee := .builtin .append, args := #[s, x], argTypes := #[t, t] }) (i : TypeInfo) (bytes : Nat) (ht : P.underlying t = some (.slice T)) (hi : P.info? T = some i) (hz : i.zero = some (.int K 0)) (hM : 0 < M)
    (hsize : i.size = 1) (hby : i.bytes = bytes) {base n c : Nat} {A : Option Addr} {L : List Nat} (hs : a.eval s = .slice A n c) (hown : Own K M T w base A n c L)
    (ad : Addr) (m d : Nat) (l : List Nat) (hx : a.eval x = .slice (some ad) m d) (hl : l.length = m) (hlim : ∀ y ∈ l, y < M) (hnews : ∀ j u, (vs K l)[j]? = some u → w.cell? (ad.add j) = some u)
    (h63 : n + m ≤ maxLen) (hbytes : (n + m) * bytes ≤ 140737488355328) (hbase : base ≤ w.heap.size)
    (h : ∀ A2 c2 w', Own K M T w' base A2 (n + m) c2 (L ++ l) → w.grownBy w' (Value.slice A n c).ownBlock → wpList P ops Q rest (a.put o.dst (.slice A2 (n + m) c2)) w') :
    wpList P ops Q (o :: rest) a w := by
  refine wpList_plain hgd fun KK hK => ?_
  have hvl : (vs K l).length = m * 1 := by rw [vs_length, hl]; omega
  obtain ⟨v', w', hr, h2, h3, _⟩ := run_append_own (P := P) w base t o.type T i (.int K 0) 1 bytes ht hi hz hsize hby rfl (by omega) (.slice A n c) n (vs K L) hown.2.1 ad m d (vs K l) hvl hnews (vs_one _ _) h63 hbytes hbase
  have h6 := typ_append (P := P) (Q := Nb K M) t o.type T i (.int K 0) bytes ht hi hz hsize hby rfl ⟨0, hM, rfl⟩ base (.slice A n c) n (vs K L) hown.2.1 hown.2.2 ad m d (vs K l) hvl hnews (vs_one _ _) (nb_vs hlim) h63 hbytes hr
  rw [← vs_append] at h2
  obtain ⟨A2, c2, rfl, ho2⟩ := own_of_row (fun y hy => (List.mem_append.1 hy).elim (hown.1 y) (hlim y)) h2 h6
  unfold Oper.wp execOp
  simp only [ho, resolve, invoke, builtin, Sem.run_bind, Sem.run_pure, Result.andThen_ok, List.map_toArray, List.map_cons, List.map_nil, hs, hx, hr]
  exact hK _ _ (h A2 c2 w' ho2 h3)

set_option maxRecDepth 100000 in
/-- append(x, y...): x of the call's own, y any slice that is read, nil or not. -/
theorem wpList_app8 {w : World} {ops : Array Oper} {rest : List Oper} {o : Oper} {a : Act} {Q : Exit → Act → World → Prop} (hgd : o.guard = none) (s x : Operand)
    (ho : o.op = .call { callee := .builtin .append, args := #[s, x], argTypes := #[38, 38] })
    {base n c : Nat} {A : Option Addr} {L : List Nat} (hs : a.eval s = .slice A n c) (hown : Own .u8 256 5 w base A n c L)
    {B m d : Nat} {A' : Option Addr} {l : List Nat} (hx : a.eval x = .slice A' m d) (hr : Rd .u8 256 w B A' m l) (hsz : n + m ≤ 17592186044416) (hbase : base ≤ w.heap.size)
    (h : ∀ A2 c2 w', Own .u8 256 5 w' base A2 (n + m) c2 (L ++ l) → w.grownBy w' (Value.slice A n c).ownBlock → wpList Try.prog ops Q rest (a.put o.dst (.slice A2 (n + m) c2)) w') :
    wpList Try.prog ops Q (o :: rest) a w := by
  obtain ⟨i0, hi, hz0, hz1, hz2⟩ := info_parts info5
  rcases A' with _ | ad
  · have hm : m = 0 := by
      rcases Nat.eq_zero_or_pos m with h0 | h0
      · exact h0
      · obtain ⟨_, _, e, _⟩ := hr.2.2 h0
        cases e
    subst hm
    have hl : l = [] := List.eq_nil_of_length_eq_zero hr.1
    subst hl
    refine wpList_plain hgd fun K hK => ?_
    have hrun : (Builtin.append_ #[38, 38] o.type #[.slice A n c, .slice none 0 d]).run Try.prog w = .ok (.slice A n c) w := by
      rcases hown.2.1.2 with ⟨e, rfl⟩ | ⟨g, cap, cur, e, _, _, hnc, _⟩
      · injection e with e1 _ e3; subst e1; subst e3
        simp [Builtin.append_, run_underlying Try.underlying38, sizeOf, typeInfo, hi, Builtin.lenOf, Builtin.firstCells]
      · injection e with e1 _ e3; subst e1; subst e3
        simp [Builtin.append_, run_underlying Try.underlying38, sizeOf, typeInfo, hi, Builtin.lenOf, Builtin.firstCells, hnc, storeCells]
    unfold Oper.wp execOp
    simp only [ho, resolve, invoke, builtin, Sem.run_bind, Sem.run_pure, Result.andThen_ok, List.map_toArray, List.map_cons, List.map_nil, hs, hx, hrun]
    exact hK _ _ (h A c w (by simpa using hown) (World.grownBy.refl w _))
  · refine wpList_own (P := Try.prog) hgd s x 38 ho i0 1 Try.underlying38 hi hz0 (by omega) hz1 hz2 hs hown ad m d l hx hr.1 hr.2.1 ?_ (by unfold maxLen; omega) (by omega) hbase h
    · intro j u hu
      have hj : j < l.length := by
        have := (List.getElem?_eq_some_iff.1 hu).1
        rwa [vs_length] at this
      obtain ⟨b, o', e, _, hc⟩ := hr.2.2 (by rw [← hr.1]; omega)
      injection e with e
      subst e
      rw [vs_at _ l j hj] at hu
      injection hu with hu
      subst hu
      have := hc j hj
      rw [← this]
      unfold Addr.add
      split
      · rename_i h0; subst h0; rfl
      · rfl

/-- A block of new numbers, as a slice that is read. -/
theorem rd_lit8 (w : World) (l : List Nat) (n : Nat) (hn : l.length = n) (hl : ∀ x ∈ l, x < 256) : Rd .u8 256 (w.alloc (.cells (vs .u8 l).toArray 5)) (w.heap.size + 1) (some ⟨w.heap.size, 0, none⟩) n l := by
  refine ⟨hn, hl, fun _ => ⟨w.heap.size, 0, rfl, by omega, fun k hk => ?_⟩⟩
  rw [World.cell?_alloc_at _ _ _ _ rfl]
  simp [vs, List.getElem?_eq_getElem hk]
theorem own_lit8 (w : World) (base n : Nat) (l : List Nat) (hn : l.length = n) (hl : ∀ x ∈ l, x < 256) (hm : n ≤ maxLen) (hb : base ≤ w.heap.size) : Own .u8 256 5 (w.alloc (.cells (vs .u8 l).toArray 5)) base (some ⟨w.heap.size, 0, none⟩) n n l := by
  have h := World.ownsRow_lit (e := 5) (size := 1) (base := base) w (vs .u8 l).toArray n hb hm (by simp [vs_length, hn])
  exact ⟨hl, by simpa using h, Typ.new _ _ _ _ _ (by simpa using nb_vs hl)⟩

/-- A block of new numbers, as a slice that is read. -/
theorem rd_lit32 (w : World) (l : List Nat) (n : Nat) (hn : l.length = n) (hl : ∀ x ∈ l, x < 4294967296) : Rd .u32 4294967296 (w.alloc (.cells (vs .u32 l).toArray 22)) (w.heap.size + 1) (some ⟨w.heap.size, 0, none⟩) n l := by
  refine ⟨hn, hl, fun _ => ⟨w.heap.size, 0, rfl, by omega, fun k hk => ?_⟩⟩
  rw [World.cell?_alloc_at _ _ _ _ rfl]
  simp [vs, List.getElem?_eq_getElem hk]
theorem own_lit32 (w : World) (base n : Nat) (l : List Nat) (hn : l.length = n) (hl : ∀ x ∈ l, x < 4294967296) (hm : n ≤ maxLen) (hb : base ≤ w.heap.size) : Own .u32 4294967296 22 (w.alloc (.cells (vs .u32 l).toArray 22)) base (some ⟨w.heap.size, 0, none⟩) n n l := by
  have h := World.ownsRow_lit (e := 22) (size := 1) (base := base) w (vs .u32 l).toArray n hb hm (by simp [vs_length, hn])
  exact ⟨hl, by simpa using h, Typ.new _ _ _ _ _ (by simpa using nb_vs hl)⟩
theorem elem22 : Try.prog.elem 38 = 5 := by kernel_rfl
theorem under22 : Try.prog.underlying 38 = some (.slice (Try.prog.elem 38)) := by rw [elem22]; exact Try.underlying38
theorem size5 (W : World) : (sizeOf 5).run Try.prog W = .ok 1 W := by
  obtain ⟨i0, hi, _, hz1, _⟩ := info_parts info5
  simp [sizeOf, typeInfo, hi, hz1]

/-- x[k:k+t], under a name of its own. -/
theorem cut_mid (A : Option Addr) (n c k t : Nat) (hkt : k + t ≤ n) (hnc : n ≤ c) : ∃ A1 c1, t ≤ c1 ∧ c1 ≤ c ∧
    (∀ W : World, (Instr.slice 38 (.slice A n c) (some (.int .i64 k)) (some (.int .i64 (k + t))) none).run Try.prog W = .ok (.slice A1 t c1) W) ∧ (∀ W : World, (Instr.sliceAt 38 (.slice A n c) (some (.int .i64 k)) (some (.int .i64 (k + t))) none).run Try.prog W = .ok (.slice A1 t c1) W) ∧
    ∀ w B l, Rd .u8 256 w B A n l → Rd .u8 256 w B A1 t ((l.drop k).take t) := by
  have h1 : ∀ W : World, (Instr.slice 38 (.slice A n c) (some (.int .i64 k)) (some (.int .i64 (k + t))) none).run Try.prog W = .ok (.slice (if c = k then A else A.map (·.add k)) t (c - k)) W := fun W => by
    rw [run_slice_lh (P := Try.prog) (w := W) 38 A n c under22 .i64 .i64 (k : Int) (k + t : Int) (by omega) (by omega) (by omega), elem22, size5]
    have e1 : ((k : Int) + t).toNat - k = t := by omega
    simp only [Result.andThen, sliced, e1, Int.toNat_natCast, Nat.mul_one]
  refine ⟨_, _, ?_, ?_, h1, fun W => ?_, fun w B l hr => ?_⟩
  · omega
  · omega
  · rw [run_sliceAt_slice (P := Try.prog) (w := W) 38 _ _ _ _ under22]; exact h1 W
  · exact (hr.drop (c := c) (k := k) (by omega) hnc).take (by omega)

/-- x[k:], under a name of its own. -/
theorem cut_from (A : Option Addr) (n c k : Nat) (hk : k ≤ n) (hnc : n ≤ c) : ∃ A1 c1, n - k ≤ c1 ∧ c1 ≤ c ∧
    (∀ (W : World) (i : Int), i = k → (Instr.slice 38 (.slice A n c) (some (.int .i64 i)) none none).run Try.prog W = .ok (.slice A1 (n - k) c1) W) ∧ (∀ (W : World) (i : Int), i = k → (Instr.sliceAt 38 (.slice A n c) (some (.int .i64 i)) none none).run Try.prog W = .ok (.slice A1 (n - k) c1) W) ∧
    ∀ w B l, Rd .u8 256 w B A n l → Rd .u8 256 w B A1 (n - k) (l.drop k) := by
  have h1 : ∀ (W : World) (i : Int), i = k → (Instr.slice 38 (.slice A n c) (some (.int .i64 i)) none none).run Try.prog W = .ok (.slice (if c = k then A else A.map (·.add k)) (n - k) (c - k)) W := fun W i hi => by
    subst hi
    rw [run_slice_l (P := Try.prog) (w := W) 38 A n c under22 .i64 (k : Int) (by omega) (by omega), elem22, size5]
    simp only [Result.andThen, sliced, Int.toNat_natCast, Nat.mul_one]
  refine ⟨_, _, ?_, ?_, h1, fun W i hi => ?_, fun w B l hr => hr.drop hk hnc⟩
  · omega
  · omega
  · rw [run_sliceAt_slice (P := Try.prog) (w := W) 38 _ _ _ _ under22]; exact h1 W i hi


/-- x[:k], under a name of its own. -/
theorem cut_to (A : Option Addr) (n c k : Nat) (hk : k ≤ n) (hnc : n ≤ c) :
    (∀ (W : World) (i : Int), i = k → (Instr.slice 38 (.slice A n c) none (some (.int .i64 i)) none).run Try.prog W = .ok (.slice A k c) W) ∧ (∀ (W : World) (i : Int), i = k → (Instr.sliceAt 38 (.slice A n c) none (some (.int .i64 i)) none).run Try.prog W = .ok (.slice A k c) W) := by
  have h1 : ∀ (W : World) (i : Int), i = k → (Instr.slice 38 (.slice A n c) none (some (.int .i64 i)) none).run Try.prog W = .ok (.slice A k c) W := fun W i hi => by
    subst hi
    rw [run_slice_h (P := Try.prog) (w := W) 38 A n c under22 .i64 (k : Int) (by omega) (by omega), elem22, size5]
    simp only [Result.andThen, sliced]
    cases A <;> simp [Addr.add]
  refine ⟨h1, fun W i hi => ?_⟩
  rw [run_sliceAt_slice (P := Try.prog) (w := W) 38 _ _ _ _ under22]; exact h1 W i hi

theorem under5 : Try.prog.underlying 5 = some (.int .u8) := Try.underlying5
theorem under9 : Try.prog.underlying 9 = some .string := Try.underlying9

/-- The bytes of a string. -/
def sb (l : List Nat) : ByteArray := ⟨(l.map UInt8.ofNat).toArray⟩
theorem sb_inj {l m : List Nat} (hl : ∀ x ∈ l, x < 256) (hm : ∀ x ∈ m, x < 256) (h : sb l = sb m) : l = m := by
  have h1 : l.map UInt8.ofNat = m.map UInt8.ofNat := by
    have := congrArg (fun b => b.data.toList) h
    simpa [sb] using this
  have h2 := congrArg (List.map UInt8.toNat) h1
  rw [List.map_map, List.map_map] at h2
  have back : ∀ k : List Nat, (∀ x ∈ k, x < 256) → k.map (UInt8.toNat ∘ UInt8.ofNat) = k := fun k hk => by
    conv => rhs; rw [← List.map_id k]
    apply List.map_congr_left
    intro x hx
    have := hk x hx
    simp
    omega
  rw [back l hl, back m hm] at h2
  exact h2

/-- string(x) of a slice that is read. -/
theorem run_str {w : World} {B n : Nat} {A : Option Addr} {l : List Nat} (c : Nat) (h : Rd .u8 256 w B A n l) : (convert 38 9 (.slice A n c)).run Try.prog w = .ok (.string (sb l)) w := by
  rcases A with _ | ad
  · have hn : n = 0 := by
      rcases Nat.eq_zero_or_pos n with h0 | h0
      · exact h0
      · obtain ⟨_, _, e, _⟩ := h.2.2 h0
        cases e
    subst hn
    have hl : l = [] := List.eq_nil_of_length_eq_zero h.1
    subst hl
    rw [run_convert_bytes_nil w 38 5 Try.underlying38 under5 0 c 9 under9]
    rfl
  · have hld : (loadCells ad n).run Try.prog w = .ok ((l.map fun (c : Nat) => (c : Int)).map (Value.int .u8)).toArray w := by
      have hh := run_loadCells_list (P := Try.prog) w ad ((l.map fun (c : Nat) => (c : Int)).map (Value.int .u8)) (fun j v hj => by
        have hjl : j < l.length := by
          have := (List.getElem?_eq_some_iff.1 hj).1
          simpa using this
        obtain ⟨b, o', e, _, hc⟩ := h.2.2 (by rw [← h.1]; omega)
        injection e with e
        subst e
        have := hc j hjl
        simp [List.getElem?_eq_getElem hjl] at hj
        subst hj
        rw [← this]
        unfold Addr.add
        split
        · rename_i h0; subst h0; rfl
        · rfl)
      rw [List.length_map, List.length_map, h.1] at hh
      exact hh
    rw [run_convert_bytes_string w 38 9 5 (some ad) n c Try.underlying38 under5 under9, run_bytesToString w ad n c _ hld, foldl_push_bytes]
    have e : (l.map fun (c : Nat) => (c : Int)).map (fun n => UInt8.ofNat n.toNat) = l.map UInt8.ofNat := by
      rw [List.map_map]
      apply List.map_congr_left
      intro x _
      simp
    rw [e]
    simp [sb]

/-- The table of package utf, in memory. -/
def tab : Array Value := #[.int .u32 127, .int .u8 0, .int .u8 127, .int .u32 2047, .int .u8 192, .int .u8 31, .int .u32 65535, .int .u8 224, .int .u8 15, .int .u32 1114111, .int .u8 240, .int .u8 7]
def Tab (w : World) : Prop := ∃ t fr, w.heap[0]? = some (.cells tab t fr)
theorem Tab.pos {w : World} (h : Tab w) : 0 < w.heap.size := by
  obtain ⟨t, fr, h⟩ := h
  exact (Array.getElem?_eq_some_iff.1 h).1
theorem Tab.below {w w' : World} {B : Nat} (h : Tab w) (hb : Below B w w') (h0 : 0 < B) : Tab w' := by
  obtain ⟨t, fr, h⟩ := h
  exact ⟨t, fr, (hb.block 0 h0).trans h⟩
theorem Tab.call {w w' : World} (h : Tab w) (hb : Below w.heap.size w w') : Tab w' := h.below hb h.pos
theorem Tab.cell {w : World} (h : Tab w) (k : Nat) : w.cell? ⟨0, k, none⟩ = tab[k]? := by
  obtain ⟨t, fr, h⟩ := h
  exact cell_of_row w 0 k tab t fr h

end Go.Proofs.Ytppcfkcnaaflgaa.Utf
