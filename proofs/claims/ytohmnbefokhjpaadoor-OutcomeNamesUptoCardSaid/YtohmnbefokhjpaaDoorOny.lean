/-
  OutcomeNames: what the calls of its walk answer, and what stays: an outcome is got by its name as by its code; with a field more, or by another's name, it is wrong, or another one. Conditions: the table utf.shapes lies as the program's text lays it; a condition of at most 2^20 bytes.
-/
import Derived.Test.YtohmnbefokhjpaaDoorOcx
import Derived.Laws.Concat
namespace Go.Proofs.YtohmnbefokhjpaaDoor.Sep
set_option maxRecDepth 100000
open Go.RowKit Go.Proofs.YtohmnbefokhjpaaDoor.Utf Go.Proofs.YtohmnbefokhjpaaDoor.Val Go.Proofs.YtohmnbefokhjpaaDoor.Fl Go.Proofs.YtohmnbefokhjpaaDoor.Oc V

/-- A name with a byte more. -/
def sname (k : Nat) : ByteArray := oname k ++ ⟨#[115]⟩
theorem sname_ne {k : Nat} (hk : k ∈ [1, 2, 3, 4, 5]) : ∀ j ∈ [1, 2, 3, 4, 5], sname k ≠ oname j := by
  simp only [List.mem_cons, List.not_mem_nil, or_false] at hk
  intro j hj
  simp only [List.mem_cons, List.not_mem_nil, or_false] at hj
  rcases hk with rfl | rfl | rfl | rfl | rfl <;> rcases hj with rfl | rfl | rfl | rfl | rfl <;> decide
theorem get_named_any {k a b : Nat} {c : ByteArray} (hm : mayO ⟨k, a, b, c⟩ = true) (h0 : k ≠ 0) (us : List V) (hu : trim (tellO ⟨k, a, b, c⟩) = us) (hN : bulkL us ≤ 134217728) (A : Option Addr) (l c' : Nat) (w : World) (hK : Kd w [.mk 21 0 (oname k) [], .mk 22 0 ⟨#[]⟩ us] A l c') (hT : Tab w) :
    Calls Tryd.prog 8 #[.agg #[.int .u8 25, .int .u64 0, .string ⟨#[]⟩, .slice A l c']] w fun e w' => e = .returned (.tuple #[.agg #[.int .u8 (k : Int), .int .u64 (a : Int), .int .u64 (b : Int), .string c], .int .i64 0]) ∧ Below w.heap.size w w' := by
  subst hu
  have hb : (oname k).size ≤ 18 := by
    have := may_five hm h0
    simp only [List.mem_cons, List.not_mem_nil, or_false] at this
    rcases this with h | h | h | h | h <;> rw [h] <;> decide
  have h := oget25 _ A l c' w (by simp only [bulkL, bulk, size_nil]; omega) hK hT
  rw [get_named hm h0] at h
  exact h
theorem get_sname_any {k : Nat} (hk : k ∈ [1, 2, 3, 4, 5]) (us : List V) (hN : bulkL us ≤ 134217728) (A : Option Addr) (l c' : Nat) (w : World) (hK : Kd w [.mk 21 0 (sname k) [], .mk 22 0 ⟨#[]⟩ us] A l c') (hT : Tab w) :
    Calls Tryd.prog 8 #[.agg #[.int .u8 25, .int .u64 0, .string ⟨#[]⟩, .slice A l c']] w fun e w' => e = .returned (.tuple #[.agg #[.int .u8 0, .int .u64 0, .int .u64 0, .string ⟨#[]⟩], .int .i64 6]) ∧ Below w.heap.size w w' := by
  have hb : (sname k).size ≤ 19 := by
    simp only [List.mem_cons, List.not_mem_nil, or_false] at hk
    rcases hk with h | h | h | h | h <;> rw [h] <;> decide
  have h := oget25 _ A l c' w (by simp only [bulkL, bulk, size_nil]; omega) hK hT
  rw [get_other (sname_ne hk)] at h
  exact h
theorem get_long_any {d : Nat} {us : List V} (hl : 4 ≤ us.length) (hN : bulkL us ≤ 134217728) (A : Option Addr) (l c' : Nat) (w : World) (hK : Kd w [.mk 6 d ⟨#[]⟩ [], .mk 22 0 ⟨#[]⟩ us] A l c') (hT : Tab w) :
    Calls Tryd.prog 8 #[.agg #[.int .u8 25, .int .u64 0, .string ⟨#[]⟩, .slice A l c']] w fun e w' => e = .returned (.tuple #[.agg #[.int .u8 0, .int .u64 0, .int .u64 0, .string ⟨#[]⟩], .int .i64 6]) ∧ Below w.heap.size w w' := by
  have h := oget25 _ A l c' w (by simp only [bulkL, bulk, size_nil]; omega) hK hT
  rw [get_long hl] at h
  exact h
/-- By another one's code: what is got is of its kind. -/
theorem get_code_any (q : Nat) (us : List V) (hN : bulkL us ≤ 134217728) (A : Option Addr) (l c' : Nat) (w : World) (hK : Kd w [.mk 6 (34 + q) ⟨#[]⟩ [], .mk 22 0 ⟨#[]⟩ us] A l c') (hT : Tab w) :
    Calls Tryd.prog 8 #[.agg #[.int .u8 25, .int .u64 0, .string ⟨#[]⟩, .slice A l c']] w fun e w' => ∃ (x y z : Nat) (s : ByteArray) (er : Int), e = .returned (.tuple #[.agg #[.int .u8 (x : Int), .int .u64 (y : Int), .int .u64 (z : Int), .string s], .int .i64 er]) ∧ ((er = 0 ∧ x = q) ∨ er = 6) ∧ Below w.heap.size w w' := by
  have h := oget25 _ A l c' w (by simp only [bulkL, bulk, size_nil]; omega) hK hT
  cases hg : getR (.mk 25 0 ⟨#[]⟩ [.mk 6 (34 + q) ⟨#[]⟩ [], .mk 22 0 ⟨#[]⟩ us]) with
  | none =>
    rw [hg] at h
    refine h.mono ?_
    rintro e w' ⟨rfl, hb⟩
    exact ⟨0, 0, 0, ⟨#[]⟩, 6, rfl, .inr rfl, hb⟩
  | some o =>
    have hk := get_kind hg
    rw [hg] at h
    refine h.mono ?_
    rintro e w' ⟨rfl, hb⟩
    exact ⟨o.k, o.a, o.b, o.c, 0, rfl, .inl ⟨rfl, hk⟩, hb⟩
/-- What stays: the outcome's box, a name, the value's box, and its kids, all below E. -/
structure NS (w wi : World) (E k a b : Nat) (c : ByteArray) (gN gV : Nat) (A : Option Addr) (l c' : Nat) (us : List V) : Prop where
  b3 : BxO wi w.heap.size (.int .u8 (k : Int)) (.int .u64 (a : Int)) (.int .u64 (b : Int)) (.string c)
  nm : wi.cell? ⟨gN, k, none⟩ = some (.string (oname k))
  bv : Box wi gV (.int .u8 25) (.int .u64 0) (.string ⟨#[]⟩) (.slice A l c')
  kv : Val.Kids false wi (fun i => i < E) (putL (34 + k) us) A l c'
  low : Below w.heap.size w wi
  le : w.heap.size < E ∧ gN < E ∧ gV < E ∧ E ≤ wi.heap.size
section
variable {w wi w' : World} {E k a b : Nat} {c : ByteArray} {gN gV : Nat} {A : Option Addr} {l c' : Nat} {us : List V}
theorem NS.off (h : NS w wi E k a b c gN gV A l c' us) (hk : ∀ i, i < E → w'.heap[i]? = wi.heap[i]?) (hb : Below E wi w') : NS w w' E k a b c gN gV A l c' us :=
  ⟨(hk _ h.le.1).trans h.b3, (World.cell?_of_block (hk gN h.le.2.1)).trans h.nm, (hk _ h.le.2.2.1).trans h.bv, h.kv.keep hk, h.low.trans (hb.mono (Nat.le_of_lt h.le.1)), h.le.1, h.le.2.1, h.le.2.2.1, Nat.le_trans h.le.2.2.2 hb.size⟩
theorem NS.call (h : NS w wi E k a b c gN gV A l c' us) (hb : Below wi.heap.size wi w') : NS w w' E k a b c gN gV A l c' us := h.off (fun i hi => hb.block i (by have := h.le.2.2.2; omega)) (hb.mono h.le.2.2.2)
theorem NS.alloc (h : NS w wi E k a b c gN gV A l c' us) (o : Obj) : NS w (wi.alloc o) E k a b c gN gV A l c' us := h.call ((Below.refl _ _).alloc (Nat.le_refl _) _)
theorem NS.up {E' : Nat} (h : NS w wi E k a b c gN gV A l c' us) (h1 : E ≤ E') (h2 : E' ≤ wi.heap.size) : NS w wi E' k a b c gN gV A l c' us :=
  ⟨h.b3, h.nm, h.bv, h.kv.mono fun i hi => by omega, h.low, by have := h.le; omega, by have := h.le; omega, by have := h.le; omega, h2⟩
end
/-- Blocks of the copy and of what is made behind it: not the copy's own box. -/
def Pw (E gY : Nat) (w : World) (i : Nat) : Prop := E ≤ i ∧ i < w.heap.size ∧ i ≠ gY
/-- What holds at the loop's head: x, its fields us'. -/
structure LS (w wr : World) (E k a b : Nat) (c : ByteArray) (gN gV : Nat) (A : Option Addr) (c1 : Nat) (us : List V) (gY g cX : Nat) (A0 : Option Addr) (c0 : Nat) (us' : List V) (A' : Option Addr) (l' c' : Nat) : Prop where
  ns : NS w wr E k a b c gN gV A 2 c1 us
  bx : Box wr gY (.int .u8 25) (.int .u64 0) (.string ⟨#[]⟩) (.slice (some ⟨g, 0, none⟩) 2 cX)
  xs : XS wr (Pw E gY wr) g cX 6 (34 + k) ⟨#[]⟩ A0 c0 us' A' l' c'
  ge : E ≤ gY
section
variable {w wr w' : World} {E k a b : Nat} {c : ByteArray} {gN gV : Nat} {A : Option Addr} {c1 : Nat} {us : List V} {gY g cX : Nat} {A0 : Option Addr} {c0 : Nat} {us' us2 : List V} {A' A2 : Option Addr} {l' c' l2 c2 : Nat}
theorem LS.call (h : LS w wr E k a b c gN gV A c1 us gY g cX A0 c0 us' A' l' c') (hb : Below wr.heap.size wr w') : LS w w' E k a b c gN gV A c1 us gY g cX A0 c0 us' A' l' c' :=
  ⟨h.ns.call hb, h.bx.call hb, (h.xs.call hb).mono (fun _ hi => ⟨hi.1, Nat.lt_of_lt_of_le hi.2.1 hb.size, hi.2.2⟩) (fun _ hi => hi.2.1), h.ge⟩
theorem LS.alloc (h : LS w wr E k a b c gN gV A c1 us gY g cX A0 c0 us' A' l' c') (o : Obj) : LS w (wr.alloc o) E k a b c gN gV A c1 us gY g cX A0 c0 us' A' l' c' := h.call ((Below.refl _ _).alloc (Nat.le_refl _) _)
theorem LS.drew (h : LS w wr E k a b c gN gV A c1 us gY g cX A0 c0 us' A' l' c') : LS w wr.drew E k a b c gN gV A c1 us gY g cX A0 c0 us' A' l' c' := h.call (Below.refl _ _).drew
end
theorem box_set4 {w : World} {g : Nat} {x0 x1 x2 x3 : Value} (h : Box w g x0 x1 x2 x3) (y0 y1 y2 y3 : Value) : Box (set4 w g 0 y0 y1 y2 y3) g y0 y1 y2 y3 := h.set4 _ _ _ _
theorem wrap64 {x : Int} (h0 : 0 ≤ x) (h1 : x < 18446744073709551616) : IntKind.u64.wrap x = x := by
  simp [IntKind.wrap, IntKind.signed, IntKind.bits]
  omega
theorem num_code (q : Nat) (w : World) : Calls Tryd.prog 10 #[.int .u8 6, .int .u64 (34 + (q : Int))] w (fun e w' => e = .returned (.agg #[.int .u8 6, .int .u64 (34 + (q : Int)), .string ⟨#[]⟩, .slice none 0 0]) ∧ Below w.heap.size w w') := number_any 6 (34 + q) w
theorem names_at {k gN : Nat} (hk : k ∈ [1, 2, 3, 4, 5]) (W : World) (hW : W.heap.size = gN) : (W.alloc (.cells #[.string ⟨#[]⟩, .string ⟨#[97, 109, 113, 112, 58, 114, 101, 99, 101, 105, 118, 101, 100, 58, 108, 105, 115, 116]⟩, .string ⟨#[97, 109, 113, 112, 58, 97, 99, 99, 101, 112, 116, 101, 100, 58, 108, 105, 115, 116]⟩, .string ⟨#[97, 109, 113, 112, 58, 114, 101, 106, 101, 99, 116, 101, 100, 58, 108, 105, 115, 116]⟩, .string ⟨#[97, 109, 113, 112, 58, 114, 101, 108, 101, 97, 115, 101, 100, 58, 108, 105, 115, 116]⟩, .string ⟨#[97, 109, 113, 112, 58, 109, 111, 100, 105, 102, 105, 101, 100, 58, 108, 105, 115, 116]⟩] 9)).cell? ⟨gN, k, none⟩ = some (.string (oname k)) := by
  subst hW
  simp only [List.mem_cons, List.not_mem_nil, or_false] at hk
  rcases hk with rfl | rfl | rfl | rfl | rfl <;> simp [oname]
theorem sname_add {k : Nat} (hk : k ∈ [1, 2, 3, 4, 5]) (W : World) : (Op.stringOp .add (oname k) ⟨#[115]⟩).run Tryd.prog W = .ok (.string (sname k)) W := by
  refine run_string_add_sum W _ _ ?_
  simp only [List.mem_cons, List.not_mem_nil, or_false] at hk
  rcases hk with rfl | rfl | rfl | rfl | rfl <;> decide
theorem tell_len (o : O) : (tellO o).length ≤ 2 := by
  unfold tellO
  split
  · simp
  · split
    · simp
    · split <;> simp
end Go.Proofs.YtohmnbefokhjpaaDoor.Sep
