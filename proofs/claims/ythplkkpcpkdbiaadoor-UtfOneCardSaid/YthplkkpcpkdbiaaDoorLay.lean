/-
  Contracts of utf.lay and utf.Text: the text of characters in new memory, or that one is none. Memory that was there stays. Condition: at most 2^40 characters.
-/
import Derived.Test.YthplkkpcpkdbiaaDoorChars
import Derived.Deep.RegionHeld3
import Derived.Deep.AppendLies
namespace Go.Proofs.YthplkkpcpkdbiaaDoor.Utf
open Go.RowKit

/-- The further bytes. -/
def tb (c : Nat) : Nat → List Nat
  | 0 => []
  | j + 1 => (128 + c / 64 ^ j % 64) :: tb c j

/-- The first byte's mark. -/
def mk : Nat → Nat
  | 0 => 0
  | 1 => 192
  | 2 => 224
  | _ => 240

theorem en_tb (c : Nat) : en c = (mk (fu c) + c / 64 ^ fu c) :: tb c (fu c) := by
  by_cases h1 : c < 128
  · simp [en, fu, h1, show c ≤ 127 by omega, tb, mk]
  by_cases h2 : c < 2048
  · simp [en, fu, h1, h2, show ¬ c ≤ 127 by omega, show c ≤ 2047 by omega, tb, mk]
  by_cases h3 : c < 65536
  · simp [en, fu, h1, h2, h3, show ¬ c ≤ 127 by omega, show ¬ c ≤ 2047 by omega, show c ≤ 65535 by omega, tb, mk]
  · simp [en, fu, h1, h2, h3, show ¬ c ≤ 127 by omega, show ¬ c ≤ 2047 by omega, show ¬ c ≤ 65535 by omega, tb, mk]

theorem fu_room (c : Nat) (h : c ≤ 1114111) : (fu c = 0 ∧ c < 128) ∨ (fu c = 1 ∧ c / 64 < 32) ∨ (fu c = 2 ∧ c / 4096 < 16) ∨ (fu c = 3 ∧ c / 262144 < 8) := by
  by_cases h1 : c ≤ 127
  · exact .inl ⟨by simp [fu, h1], by omega⟩
  by_cases h2 : c ≤ 2047
  · exact .inr (.inl ⟨by simp [fu, h1, h2], by omega⟩)
  by_cases h3 : c ≤ 65535
  · exact .inr (.inr (.inl ⟨by simp [fu, h1, h2, h3], by omega⟩))
  · exact .inr (.inr (.inr ⟨by simp [fu, h1, h2, h3], by omega⟩))

theorem pow64 (j : Nat) : (2 : Int) ^ (6 * j) = ((64 ^ j : Nat) : Int) := by
  rw [Int.pow_mul]; simp

theorem tail_byte (c j : Nat) : bits .or .u8 128 (bits .and .u8 (((c : Int) / 2 ^ (6 * j)) % 256) 63) = ((128 + c / 64 ^ j % 64 : Nat) : Int) := by
  rw [pow64]
  have e1 : ((c : Int) / ((64 ^ j : Nat) : Int)) % 256 = ((c / 64 ^ j % 256 : Nat) : Int) := by simp
  rw [e1]
  generalize c / 64 ^ j = q
  have e2 : bits .and .u8 ((q % 256 : Nat) : Int) 63 = ((q % 64 : Nat) : Int) := by
    rw [show (63 : Int) = ((63 : Nat) : Int) from rfl, aw (q % 256) 63 (by omega) (by omega)]
    congr 1
    have := Nat.and_two_pow_sub_one_eq_mod (q % 256) 6
    simp at this
    rw [this]
  rw [e2, show (128 : Int) = ((128 : Nat) : Int) from rfl, u8_or_nat _ _ (by omega) (by omega), nat_join 6 128 (q % 64) (by omega) (by omega)]

def GivesB (base : Nat) (l : List Nat) (w : World) (e : Ending) (w' : World) : Prop := ∃ A n c, e = .returned (.slice A n c) ∧ Own .u8 256 5 w' base A n c l ∧ Below base w w'

theorem tb_byte (c : Nat) : ∀ j, ∀ x ∈ tb c j, x < 256
  | 0, _, h => by cases h
  | j + 1, x, h => by
    rcases List.mem_cons.1 h with rfl | h
    · omega
    · exact tb_byte c j x h

/-- append(x, b) as a step of a region that draws its order: x of the call's own, b a new byte. -/
theorem step_app {w : World} {ops : Array Oper} {o : Oper} {a : Act} {K : Act → World → Prop} {Q : Exit → Act → World → Prop} {E : Prop} (hgd : o.guard = none) (s x : Operand)
    (ho : o.op = .call { callee := .builtin .append, args := #[s, x], argTypes := #[22, 22] }) {base n c : Nat} {A : Option Addr} {L : List Nat} (hs : a.eval s = .slice A n c) (hown : Own .u8 256 5 w base A n c L)
    {B m d : Nat} {ad : Addr} {l : List Nat} (hx : a.eval x = .slice (some ad) m d) (hr : Rd .u8 256 w B (some ad) m l) (hm : 0 < m) (hsz : n + m ≤ 17592186044416) (hbase : base ≤ w.heap.size)
    (h : ∀ A2 c2 w', Own .u8 256 5 w' base A2 (n + m) c2 (L ++ l) → w.grownBy w' (Value.slice A n c).ownBlock → K (a.put o.dst (.slice A2 (n + m) c2)) w') :
    if Region.wanted o (yielded ops a.tmps) = true then Oper.wp Tryd.prog o a w K Q else E := by
  obtain ⟨i0, hi, hz0, hz1, hz2⟩ := info_parts info5
  have hbound : ∀ y ∈ L ++ l, y < 256 := fun y hy => by
    rcases List.mem_append.1 hy with h | h
    · exact hown.1 y h
    · exact hr.2.1 y h
  refine step_append_lies w hgd s x 22 ho base 5 i0 (.int .u8 0) 1 1 Tryd.underlying22 hi hz0 hz1 hz2 rfl (by decide) (.slice A n c) n (vs .u8 L) hs hown.2 ad m d (vs .u8 l) hx (by rw [vs_length, hr.1]; omega) ?_ (vs_one _ l) hm (by unfold maxLen; omega) (by omega) hbase _ rfl ?_
  · intro j u hu
    have hj : j < l.length := by
      have := (List.getElem?_eq_some_iff.1 hu).1
      rwa [vs_length] at this
    obtain ⟨b, o', e, _, hc⟩ := hr.2.2 (by omega)
    injection e with e
    subst e
    rw [vs_at _ l j hj] at hu
    injection hu with hu
    subst hu
    have := hc j hj
    rw [← this]
    unfold Addr.add
    split
    · rename_i h0; subst h0; rfl
    · rfl
  · intro g cap w' h2 h3 _ _
    rw [← vs_append] at h2
    exact h _ _ w' ⟨hbound, h2⟩ h3

theorem Own.drew {K : IntKind} {M : Nat} {T : TypeId} {w : World} {base n c : Nat} {A : Option Addr} {l : List Nat} (h : Own K M T w base A n c l) : Own K M T w.drew base A n c l := h
theorem Rd.drew {K : IntKind} {M : Nat} {w : World} {B n : Nat} {A : Option Addr} {l : List Nat} (h : Rd K M w B A n l) : Rd K M w.drew B A n l := h

theorem rd_new (w : World) (z : Int) (b : Nat) (hb : b < 256) (h : z = (b : Int)) : Rd .u8 256 (w.alloc (.cells #[.int .u8 z] 5)) (w.heap.size + 1) (some ⟨w.heap.size, 0, none⟩) 1 [b] := by
  subst h
  exact rd_lit8 w [b] 1 rfl (by simpa using hb)

theorem Tab.alloc {w : World} (h : Tab w) (o : Obj) : Tab (w.alloc o) := h.below ((Below.refl _ _).alloc (Nat.le_refl _) o) h.pos

theorem tail_byte' (c j : Nat) : 128 + (c : Int) / 2 ^ (6 * j) % 64 = ((128 + c / 64 ^ j % 64 : Nat) : Int) := by
  rw [pow64]
  simp

theorem head_byte (M q k : Nat) (hM : M < 256) (hd : M % 2 ^ k = 0) (hq : q < 2 ^ k) (hk : q < 256) : bits .or .u8 (M : Int) (IntKind.u8.wrap (q : Int)) = ((M + q : Nat) : Int) := by
  have e : IntKind.u8.wrap (q : Int) = (q : Int) := by
    rw [IntKind.wrap_u8']
    omega
  rw [e, u8_or_nat _ _ hM hk, nat_join k M q hd hq]

set_option maxHeartbeats 400000 in
theorem lay_0 (base : Nat) (A : Option Addr) (n c : Nat) (l : List Nat) (ch : Nat) (w : World) (hown : Own .u8 256 5 w base A n c l) (hbase : base ≤ w.heap.size) (hn : n ≤ 4398046511104) (ht : Tab w) (h0 : 0 < base) (hf : fu ch = 0) (hq : ch < 128) :
    Calls Tryd.prog 28 #[.slice A n c, .int .u32 ch] w (GivesB base (l ++ en ch) w) := by
  have cm : w.cell? ⟨0, 1, none⟩ = some (.int .u8 0) := ht.cell 1
  have HE : Hid (en ch = (0 + ch) :: tb ch 0) := Lib.hid (by rw [en_tb, hf]; simp [mk])
  obtain ⟨q1, hq1⟩ : ∃ q, IntKind.u8.wrap (ch : Int) = q := ⟨_, rfl⟩
  obtain ⟨q2, hq2⟩ : ∃ q, bits .or .u8 0 q1 = q := ⟨_, rfl⟩
  have HF : Hid (q2 = ((0 + ch : Nat) : Int)) := Lib.hid (by
    have := head_byte 0 (ch) 7 (by omega) (by decide) (by omega) (by omega)
    rw [← hq2, ← hq1]
    simpa using this)
  have hw6 : IntKind.i64.wrap 0 = 0 := rfl
  go_enter Tryd.func28, Tryd.ntmps28
  go_wp2_with fail
  refine (further_any ch w ht).mono ?_
  rw [hf]
  clear hf
  rintro e w1 ⟨rfl, rfl⟩
  go_wp2_with fail
  go_region_held3 (fun w' => w'.cell? ⟨0, 1, none⟩ = some (.int .u8 0)) (first | exact cm | exact (ht.alloc _).cell 1 | exact ht2.cell 1)
    (first | (refine step_app (base := base) (A := A) (n := n) (c := c) (m := 1) (d := 1) (L := l) (l := [0 + ch]) (B := w.heap.size + 1) (by rfl) _ _ (by rfl) (by rfl) (by exact (hown.alloc _).drew) (by rfl) (by exact (rd_new _ _ _ (by omega) HF.out).drew) (by omega) (by omega) (by simp [World.drew]; omega) ?_; intro A2 c2 w2 hown2 hgrow2; have hb2 : Below base w w2 := (((Below.refl _ _).alloc hbase _).drew).trans (below_grown (hown.alloc _).drew hgrow2 (by simp [World.drew]; omega)); have ht2 : Tab w2 := ht.below hb2 h0))
  all_goals
    have HL : Hid ((l ++ [0 + ch]) ++ tb ch 0 = l ++ en ch) := Lib.hid (by rw [HE.out]; simp)
    clear hgrow2 ht2 hq hq1 hq2 HF
    go_wp2
    go_loopw [0, 6] (fun b i wr => ∃ A' n' c' L j, j ≤ 0 ∧ n' + j = n + 1 ∧ b = .slice A' n' c' ∧ i = .int .i64 ((j : Int) - 1) ∧ Own .u8 256 5 wr base A' n' c' L ∧ L ++ tb ch j = l ++ en ch ∧ Below base w wr) (fun _ i _ => (intOf i + 1).toNat)
    case atStart => exact ⟨A2, n + 1, c2, _, 0, by omega, by omega, rfl, rfl, hown2, HL.out, hb2⟩
    case round =>
      obtain ⟨A', n', c', L, j, hj, hnj, rfl, rfl, ho, hL, hb⟩ := hrel
      have HL2 := Lib.hid hL
      have HN := Lib.hid hnj
      have hn' : n' ≤ 5398046511104 := by omega
      clear hL hnj
      by_cases hj0 : j = 0
      · subst hj0
        go_wp2
        go_ret
        exact ⟨A', n', c', rfl, ho.eqv (by simpa [tb] using HL2.out), hb⟩
      · exact absurd hj (by omega)

set_option maxHeartbeats 400000 in
theorem lay_1 (base : Nat) (A : Option Addr) (n c : Nat) (l : List Nat) (ch : Nat) (w : World) (hown : Own .u8 256 5 w base A n c l) (hbase : base ≤ w.heap.size) (hn : n ≤ 4398046511104) (ht : Tab w) (h0 : 0 < base) (hf : fu ch = 1) (hq : ch / 64 < 32) :
    Calls Tryd.prog 28 #[.slice A n c, .int .u32 ch] w (GivesB base (l ++ en ch) w) := by
  have cm : w.cell? ⟨0, 4, none⟩ = some (.int .u8 192) := ht.cell 4
  have HE : Hid (en ch = (192 + ch / 64) :: tb ch 1) := Lib.hid (by rw [en_tb, hf]; simp [mk])
  obtain ⟨q1, hq1⟩ : ∃ q, IntKind.u8.wrap ((ch : Int) / 64) = q := ⟨_, rfl⟩
  obtain ⟨q2, hq2⟩ : ∃ q, bits .or .u8 192 q1 = q := ⟨_, rfl⟩
  have HF : Hid (q2 = ((192 + ch / 64 : Nat) : Int)) := Lib.hid (by
    have := head_byte 192 (ch / 64) 5 (by omega) (by decide) (by omega) (by omega)
    rw [← hq2, ← hq1]
    simpa using this)
  have hw6 : IntKind.i64.wrap 6 = 6 := rfl
  go_enter Tryd.func28, Tryd.ntmps28
  go_wp2_with fail
  refine (further_any ch w ht).mono ?_
  rw [hf]
  clear hf
  rintro e w1 ⟨rfl, rfl⟩
  go_wp2_with fail
  go_region_held3 (fun w' => w'.cell? ⟨0, 4, none⟩ = some (.int .u8 192)) (first | exact cm | exact (ht.alloc _).cell 4 | exact ht2.cell 4)
    (first | (refine step_app (base := base) (A := A) (n := n) (c := c) (m := 1) (d := 1) (L := l) (l := [192 + ch / 64]) (B := w.heap.size + 1) (by rfl) _ _ (by rfl) (by rfl) (by exact (hown.alloc _).drew) (by rfl) (by exact (rd_new _ _ _ (by omega) HF.out).drew) (by omega) (by omega) (by simp [World.drew]; omega) ?_; intro A2 c2 w2 hown2 hgrow2; have hb2 : Below base w w2 := (((Below.refl _ _).alloc hbase _).drew).trans (below_grown (hown.alloc _).drew hgrow2 (by simp [World.drew]; omega)); have ht2 : Tab w2 := ht.below hb2 h0))
  all_goals
    have HL : Hid ((l ++ [192 + ch / 64]) ++ tb ch 1 = l ++ en ch) := Lib.hid (by rw [HE.out]; simp)
    clear hgrow2 ht2 hq hq1 hq2 HF
    go_wp2
    go_loopw [0, 6] (fun b i wr => ∃ A' n' c' L j, j ≤ 1 ∧ n' + j = n + 2 ∧ b = .slice A' n' c' ∧ i = .int .i64 ((j : Int) - 1) ∧ Own .u8 256 5 wr base A' n' c' L ∧ L ++ tb ch j = l ++ en ch ∧ Below base w wr) (fun _ i _ => (intOf i + 1).toNat)
    case atStart => exact ⟨A2, n + 1, c2, _, 1, by omega, by omega, rfl, rfl, hown2, HL.out, hb2⟩
    case round =>
      obtain ⟨A', n', c', L, j, hj, hnj, rfl, rfl, ho, hL, hb⟩ := hrel
      have HL2 := Lib.hid hL
      have HN := Lib.hid hnj
      have hn' : n' ≤ 5398046511104 := by omega
      clear hL hnj
      by_cases hj0 : j = 0
      · subst hj0
        go_wp2
        go_ret
        exact ⟨A', n', c', rfl, ho.eqv (by simpa [tb] using HL2.out), hb⟩
      · obtain ⟨i, rfl⟩ : ∃ i, j = i + 1 := ⟨j - 1, by omega⟩
        have HB := Lib.hid (tail_byte' ch i)
        have hs1 := hb.size
        clear hj0
        go_wp2_with (at_builtin; refine wpList_app8 (l := [128 + ch / 64 ^ i % 64]) (B := wr.heap.size + 1) rfl _ _ rfl rfl (ho.alloc _) rfl (rd_new _ _ _ (by omega) HB.out) (by omega) (by simp; omega) ?_; intro A3 c3 w3 hown3 hgrow3)
        go_roundw
        case rel =>
          have hN := HN.out
          refine ⟨A3, n' + 1, c3, _, i, by omega, by omega, rfl, ?_, hown3, ?_, ?_⟩
          · congr 1
          · rw [← HL2.out, tb, List.append_assoc]; rfl
          · exact (hb.alloc (by omega) _).trans (below_grown (ho.alloc _) hgrow3 (by simp; omega))
        case measure => simp [intOf]

set_option maxHeartbeats 400000 in
theorem lay_2 (base : Nat) (A : Option Addr) (n c : Nat) (l : List Nat) (ch : Nat) (w : World) (hown : Own .u8 256 5 w base A n c l) (hbase : base ≤ w.heap.size) (hn : n ≤ 4398046511104) (ht : Tab w) (h0 : 0 < base) (hf : fu ch = 2) (hq : ch / 4096 < 16) :
    Calls Tryd.prog 28 #[.slice A n c, .int .u32 ch] w (GivesB base (l ++ en ch) w) := by
  have cm : w.cell? ⟨0, 7, none⟩ = some (.int .u8 224) := ht.cell 7
  have HE : Hid (en ch = (224 + ch / 4096) :: tb ch 2) := Lib.hid (by rw [en_tb, hf]; simp [mk])
  obtain ⟨q1, hq1⟩ : ∃ q, IntKind.u8.wrap ((ch : Int) / 4096) = q := ⟨_, rfl⟩
  obtain ⟨q2, hq2⟩ : ∃ q, bits .or .u8 224 q1 = q := ⟨_, rfl⟩
  have HF : Hid (q2 = ((224 + ch / 4096 : Nat) : Int)) := Lib.hid (by
    have := head_byte 224 (ch / 4096) 4 (by omega) (by decide) (by omega) (by omega)
    rw [← hq2, ← hq1]
    simpa using this)
  have hw6 : IntKind.i64.wrap 12 = 12 := rfl
  go_enter Tryd.func28, Tryd.ntmps28
  go_wp2_with fail
  refine (further_any ch w ht).mono ?_
  rw [hf]
  clear hf
  rintro e w1 ⟨rfl, rfl⟩
  go_wp2_with fail
  go_region_held3 (fun w' => w'.cell? ⟨0, 7, none⟩ = some (.int .u8 224)) (first | exact cm | exact (ht.alloc _).cell 7 | exact ht2.cell 7)
    (first | (refine step_app (base := base) (A := A) (n := n) (c := c) (m := 1) (d := 1) (L := l) (l := [224 + ch / 4096]) (B := w.heap.size + 1) (by rfl) _ _ (by rfl) (by rfl) (by exact (hown.alloc _).drew) (by rfl) (by exact (rd_new _ _ _ (by omega) HF.out).drew) (by omega) (by omega) (by simp [World.drew]; omega) ?_; intro A2 c2 w2 hown2 hgrow2; have hb2 : Below base w w2 := (((Below.refl _ _).alloc hbase _).drew).trans (below_grown (hown.alloc _).drew hgrow2 (by simp [World.drew]; omega)); have ht2 : Tab w2 := ht.below hb2 h0))
  all_goals
    have HL : Hid ((l ++ [224 + ch / 4096]) ++ tb ch 2 = l ++ en ch) := Lib.hid (by rw [HE.out]; simp)
    clear hgrow2 ht2 hq hq1 hq2 HF
    go_wp2
    go_loopw [0, 6] (fun b i wr => ∃ A' n' c' L j, j ≤ 2 ∧ n' + j = n + 3 ∧ b = .slice A' n' c' ∧ i = .int .i64 ((j : Int) - 1) ∧ Own .u8 256 5 wr base A' n' c' L ∧ L ++ tb ch j = l ++ en ch ∧ Below base w wr) (fun _ i _ => (intOf i + 1).toNat)
    case atStart => exact ⟨A2, n + 1, c2, _, 2, by omega, by omega, rfl, rfl, hown2, HL.out, hb2⟩
    case round =>
      obtain ⟨A', n', c', L, j, hj, hnj, rfl, rfl, ho, hL, hb⟩ := hrel
      have HL2 := Lib.hid hL
      have HN := Lib.hid hnj
      have hn' : n' ≤ 5398046511104 := by omega
      clear hL hnj
      by_cases hj0 : j = 0
      · subst hj0
        go_wp2
        go_ret
        exact ⟨A', n', c', rfl, ho.eqv (by simpa [tb] using HL2.out), hb⟩
      · obtain ⟨i, rfl⟩ : ∃ i, j = i + 1 := ⟨j - 1, by omega⟩
        have HB := Lib.hid (tail_byte' ch i)
        have hs1 := hb.size
        clear hj0
        go_wp2_with (at_builtin; refine wpList_app8 (l := [128 + ch / 64 ^ i % 64]) (B := wr.heap.size + 1) rfl _ _ rfl rfl (ho.alloc _) rfl (rd_new _ _ _ (by omega) HB.out) (by omega) (by simp; omega) ?_; intro A3 c3 w3 hown3 hgrow3)
        go_roundw
        case rel =>
          have hN := HN.out
          refine ⟨A3, n' + 1, c3, _, i, by omega, by omega, rfl, ?_, hown3, ?_, ?_⟩
          · congr 1
          · rw [← HL2.out, tb, List.append_assoc]; rfl
          · exact (hb.alloc (by omega) _).trans (below_grown (ho.alloc _) hgrow3 (by simp; omega))
        case measure => simp [intOf]

set_option maxHeartbeats 400000 in
theorem lay_3 (base : Nat) (A : Option Addr) (n c : Nat) (l : List Nat) (ch : Nat) (w : World) (hown : Own .u8 256 5 w base A n c l) (hbase : base ≤ w.heap.size) (hn : n ≤ 4398046511104) (ht : Tab w) (h0 : 0 < base) (hf : fu ch = 3) (hq : ch / 262144 < 8) :
    Calls Tryd.prog 28 #[.slice A n c, .int .u32 ch] w (GivesB base (l ++ en ch) w) := by
  have cm : w.cell? ⟨0, 10, none⟩ = some (.int .u8 240) := ht.cell 10
  have HE : Hid (en ch = (240 + ch / 262144) :: tb ch 3) := Lib.hid (by rw [en_tb, hf]; simp [mk])
  obtain ⟨q1, hq1⟩ : ∃ q, IntKind.u8.wrap ((ch : Int) / 262144) = q := ⟨_, rfl⟩
  obtain ⟨q2, hq2⟩ : ∃ q, bits .or .u8 240 q1 = q := ⟨_, rfl⟩
  have HF : Hid (q2 = ((240 + ch / 262144 : Nat) : Int)) := Lib.hid (by
    have := head_byte 240 (ch / 262144) 3 (by omega) (by decide) (by omega) (by omega)
    rw [← hq2, ← hq1]
    simpa using this)
  have hw6 : IntKind.i64.wrap 18 = 18 := rfl
  go_enter Tryd.func28, Tryd.ntmps28
  go_wp2_with fail
  refine (further_any ch w ht).mono ?_
  rw [hf]
  clear hf
  rintro e w1 ⟨rfl, rfl⟩
  go_wp2_with fail
  go_region_held3 (fun w' => w'.cell? ⟨0, 10, none⟩ = some (.int .u8 240)) (first | exact cm | exact (ht.alloc _).cell 10 | exact ht2.cell 10)
    (first | (refine step_app (base := base) (A := A) (n := n) (c := c) (m := 1) (d := 1) (L := l) (l := [240 + ch / 262144]) (B := w.heap.size + 1) (by rfl) _ _ (by rfl) (by rfl) (by exact (hown.alloc _).drew) (by rfl) (by exact (rd_new _ _ _ (by omega) HF.out).drew) (by omega) (by omega) (by simp [World.drew]; omega) ?_; intro A2 c2 w2 hown2 hgrow2; have hb2 : Below base w w2 := (((Below.refl _ _).alloc hbase _).drew).trans (below_grown (hown.alloc _).drew hgrow2 (by simp [World.drew]; omega)); have ht2 : Tab w2 := ht.below hb2 h0))
  all_goals
    have HL : Hid ((l ++ [240 + ch / 262144]) ++ tb ch 3 = l ++ en ch) := Lib.hid (by rw [HE.out]; simp)
    clear hgrow2 ht2 hq hq1 hq2 HF
    go_wp2
    go_loopw [0, 6] (fun b i wr => ∃ A' n' c' L j, j ≤ 3 ∧ n' + j = n + 4 ∧ b = .slice A' n' c' ∧ i = .int .i64 ((j : Int) - 1) ∧ Own .u8 256 5 wr base A' n' c' L ∧ L ++ tb ch j = l ++ en ch ∧ Below base w wr) (fun _ i _ => (intOf i + 1).toNat)
    case atStart => exact ⟨A2, n + 1, c2, _, 3, by omega, by omega, rfl, rfl, hown2, HL.out, hb2⟩
    case round =>
      obtain ⟨A', n', c', L, j, hj, hnj, rfl, rfl, ho, hL, hb⟩ := hrel
      have HL2 := Lib.hid hL
      have HN := Lib.hid hnj
      have hn' : n' ≤ 5398046511104 := by omega
      clear hL hnj
      by_cases hj0 : j = 0
      · subst hj0
        go_wp2
        go_ret
        exact ⟨A', n', c', rfl, ho.eqv (by simpa [tb] using HL2.out), hb⟩
      · obtain ⟨i, rfl⟩ : ∃ i, j = i + 1 := ⟨j - 1, by omega⟩
        have HB := Lib.hid (tail_byte' ch i)
        have hs1 := hb.size
        clear hj0
        go_wp2_with (at_builtin; refine wpList_app8 (l := [128 + ch / 64 ^ i % 64]) (B := wr.heap.size + 1) rfl _ _ rfl rfl (ho.alloc _) rfl (rd_new _ _ _ (by omega) HB.out) (by omega) (by simp; omega) ?_; intro A3 c3 w3 hown3 hgrow3)
        go_roundw
        case rel =>
          have hN := HN.out
          refine ⟨A3, n' + 1, c3, _, i, by omega, by omega, rfl, ?_, hown3, ?_, ?_⟩
          · congr 1
          · rw [← HL2.out, tb, List.append_assoc]; rfl
          · exact (hb.alloc (by omega) _).trans (below_grown (ho.alloc _) hgrow3 (by simp; omega))
        case measure => simp [intOf]

theorem lay_any (base : Nat) (A : Option Addr) (n c : Nat) (l : List Nat) (ch : Nat) (w : World) (hown : Own .u8 256 5 w base A n c l) (hbase : base ≤ w.heap.size) (hn : n ≤ 4398046511104) (hC : ch ≤ 1114111) (ht : Tab w) (h0 : 0 < base) :
    Calls Tryd.prog 28 #[.slice A n c, .int .u32 ch] w (GivesB base (l ++ en ch) w) := by
  rcases fu_room ch hC with ⟨h, hq⟩ | ⟨h, hq⟩ | ⟨h, hq⟩ | ⟨h, hq⟩
  · exact lay_0 base A n c l ch w hown hbase hn ht h0 h hq
  · exact lay_1 base A n c l ch w hown hbase hn ht h0 h hq
  · exact lay_2 base A n c l ch w hown hbase hn ht h0 h hq
  · exact lay_3 base A n c l ch w hown hbase hn ht h0 h hq
end Go.Proofs.YthplkkpcpkdbiaaDoor.Utf
