/-
  Contracts of the methods of the program's fields: Number, Bool, Text, Value, Symbols, of fields and of none. Memory that was there stays, but for the block of the fields. Condition: values of bulk at most 2^30.
-/
import Derived.Test.YtohmnbefokhjpaaDoorFsy
namespace Go.Proofs.YtohmnbefokhjpaaDoor.Fl
set_option maxRecDepth 100000
open Go.RowKit Go.Proofs.YtohmnbefokhjpaaDoor.Utf Go.Proofs.YtohmnbefokhjpaaDoor.Val V

theorem GivesF.back {T : TypeId} {X : Nat → Prop} {g : Nat} {ls : List V} {A : Option Addr} {l c : Nat} {Q Q' : Value → World → Prop} {sp : Bool} {w w1 w' : World} {e : Ending} (h : GivesF T X g ls A l c Q sp w1 e w') (hb : Below w.heap.size w w1) (hq : ∀ r, Q r w' → Q' r w') : GivesF T X g ls A l c Q' sp w e w' := by
  obtain ⟨r, h1, h2, h3, h4⟩ := h
  exact ⟨r, h1, hq r h2, (Off.of _ hb).trans h3, h4⟩
theorem QV.less {B B' k n : Nat} {t : ByteArray} {ks : List V} {r : Value} {w : World} (h : QV B k n t ks r w) (hb : B' ≤ B) : QV B' k n t ks r w := by
  obtain ⟨A, l, c, rfl, h⟩ := h
  exact ⟨A, l, c, rfl, h.less hb⟩
theorem QL.less {B B' : Nat} {ts : List ByteArray} {r : Value} {w : World} (h : QL B ts r w) (hb : B' ≤ B) : QL B' ts r w := by
  obtain ⟨A, n, c, rfl, h⟩ := h
  exact ⟨A, n, c, rfl, h.mono hb⟩
/-- What a question of one kind answers, and how it stands with the fields then. -/
def oneR {α : Type} (ls : List V) (i : Int) (kind : Nat) (must sp : Bool) (z : α) (f : V → α) : α × Bool :=
  match ask ls i with
  | none => (z, sp || must)
  | some v => if v.kind = kind then (f v, sp) else (z, true)
section
variable {α : Type} {ls : List V} {i : Int} {kind : Nat} {must sp : Bool} {z : α} {f : V → α} {v : V}
theorem oneR_none (h : ask ls i = none) : oneR ls i kind must sp z f = (z, sp || must) := by unfold oneR; rw [h]
theorem oneR_yes (h : ask ls i = some v) (hk : v.kind = kind) : oneR ls i kind must sp z f = (f v, sp) := by unfold oneR; rw [h]; exact if_pos hk
theorem oneR_no (h : ask ls i = some v) (hk : ¬ v.kind = kind) : oneR ls i kind must sp z f = (z, true) := by unfold oneR; rw [h]; exact if_neg hk
end

theorem askU_nil (i : Int) (must : Bool) (z : Nat) (fn : Value) (w : World) :
    Calls Tryd.prog 44 #[.pointer none, .int .i64 i, .bool must, .int .u64 (z : Int), fn] w fun e w' => e = .returned (.int .u64 (z : Int)) ∧ Below w.heap.size w w' := by
  cases must with
  | false =>
    go_enter Tryd.func44, Tryd.ntmps44
    go_wp2_with (go_at_call 53; refine (has_nil i _).mono ?_; rintro e w1 ⟨rfl, hb1⟩)
    go_ret
    exact ⟨rfl, hb1⟩
  | true =>
    go_enter Tryd.func44, Tryd.ntmps44
    go_wp2_with (first
      | (go_at_call 53; refine (has_nil i _).mono ?_; rintro e w1 ⟨rfl, hb1⟩)
      | (go_at_call 39; refine (spoil_nil _).mono ?_; rintro e w2 ⟨⟨v, rfl⟩, rfl⟩))
    go_ret
    exact ⟨rfl, hb1⟩

theorem askS_nil (i : Int) (must : Bool) (z : ByteArray) (fn : Value) (w : World) :
    Calls Tryd.prog 54 #[.pointer none, .int .i64 i, .bool must, .string z, fn] w fun e w' => e = .returned (.string z) ∧ Below w.heap.size w w' := by
  cases must with
  | false =>
    go_enter Tryd.func54, Tryd.ntmps54
    go_wp2_with (go_at_call 53; refine (has_nil i _).mono ?_; rintro e w1 ⟨rfl, hb1⟩)
    go_ret
    exact ⟨rfl, hb1⟩
  | true =>
    go_enter Tryd.func54, Tryd.ntmps54
    go_wp2_with (first
      | (go_at_call 53; refine (has_nil i _).mono ?_; rintro e w1 ⟨rfl, hb1⟩)
      | (go_at_call 39; refine (spoil_nil _).mono ?_; rintro e w2 ⟨⟨v, rfl⟩, rfl⟩))
    go_ret
    exact ⟨rfl, hb1⟩

theorem number_any {X : Nat → Prop} {w : World} {g : Nat} {ls : List V} {A : Option Addr} {l c : Nat} {sp sp' : Bool} (h : Fld 63 X w g ls A l c sp) (i : Int) (kind : Nat) (must : Bool) (z : Nat) (N : Nat) (hq : oneR ls i kind must sp z V.num = (N, sp')) :
    Calls Tryd.prog 35 #[.pointer (some ⟨g, 0, none⟩), .int .i64 i, .int .u8 (kind : Int), .bool must, .int .u64 (z : Int)] w (GivesF 63 X g ls A l c (fun r _ => r = .int .u64 (N : Int)) sp' w) := by
  have hB : Below w.heap.size w (w.alloc (.cells #[.int .u8 (kind : Int)] 5)) := (Below.refl _ _).alloc (Nat.le_refl _) _
  have hkc : (w.alloc (.cells #[.int .u8 (kind : Int)] 5)).cell? ⟨w.heap.size, 0, none⟩ = some (.int .u8 (kind : Int)) := by simp
  have hs : w.heap.size < (w.alloc (.cells #[.int .u8 (kind : Int)] 5)).heap.size := by simp
  have HA : Calls Tryd.prog 44 #[.pointer (some ⟨g, 0, none⟩), .int .i64 i, .bool must, .int .u64 (z : Int), .func (.func 45) #[] #[.pointer (some ⟨w.heap.size, 0, none⟩)]] (w.alloc (.cells #[.int .u8 (kind : Int)] 5)) (GivesF 63 X g ls A l c (fun r _ => r = .int .u64 (N : Int)) sp' (w.alloc (.cells #[.int .u8 (kind : Int)] 5))) := by
    cases ha : ask ls i with
    | none =>
      rw [oneR_none ha] at hq
      injection hq with e1 e2
      subst e1; subst e2
      exact askU_none (h.call hB) i must z ha _
    | some v =>
      obtain ⟨k, n, t, ks⟩ := v
      by_cases hk : k = kind
      · rw [oneR_yes ha hk] at hq
        injection hq with e1 e2
        subst e1; subst e2
        refine (askU_yes (Q := fun r _ => r = .int .u64 (n : Int)) (h.call hB) i must z ha w.heap.size fun A' l' c' w' hb _ _ _ => number1_any k n t A' l' c' w.heap.size kind w' ((hb.cell (p := ⟨w.heap.size, 0, none⟩) hs).trans hkc) (Nat.lt_of_lt_of_le hs hb.size) true (decide_eq_true hk))
      · rw [oneR_no ha hk] at hq
        injection hq with e1 e2
        subst e1; subst e2
        refine (askU_no (Q := fun r _ => r = .int .u64 (n : Int)) (h.call hB) i must z ha w.heap.size fun A' l' c' w' hb _ _ _ => number1_any k n t A' l' c' w.heap.size kind w' ((hb.cell (p := ⟨w.heap.size, 0, none⟩) hs).trans hkc) (Nat.lt_of_lt_of_le hs hb.size) false (decide_eq_false hk))
  have HH := Lib.hid HA
  have HB := Lib.hid hB
  clear HA hB hkc hs h hq
  go_enter Tryd.func35, Tryd.ntmps35
  go_wp2_with fail
  refine HH.out.mono ?_
  rintro e w1 hF
  obtain ⟨r, rfl, rfl, _⟩ := id hF
  have HF := Lib.hid (hF.back (Q' := fun r _ => r = .int .u64 (N : Int)) HB.out fun r hr => hr)
  clear hF
  go_wp2
  go_ret
  exact HF.out
theorem number_nil (i : Int) (kind : Nat) (must : Bool) (z : Nat) (w : World) : Calls Tryd.prog 35 #[.pointer none, .int .i64 i, .int .u8 (kind : Int), .bool must, .int .u64 (z : Int)] w fun e w' => e = .returned (.int .u64 (z : Int)) ∧ Below w.heap.size w w' := by
  have hB : Below w.heap.size w (w.alloc (.cells #[.int .u8 (kind : Int)] 5)) := (Below.refl _ _).alloc (Nat.le_refl _) _
  have HB := Lib.hid hB
  clear hB
  go_enter Tryd.func35, Tryd.ntmps35
  go_wp2_with (go_at_call 44; refine (askU_nil i must z _ _).mono ?_; rintro e w1 ⟨rfl, hb1⟩)
  go_ret
  exact ⟨rfl, below_next HB.out hb1⟩

theorem ftext_any {X : Nat → Prop} {w : World} {g : Nat} {ls : List V} {A : Option Addr} {l c : Nat} {sp sp' : Bool} (h : Fld 63 X w g ls A l c sp) (i : Int) (kind : Nat) (must : Bool) (N : ByteArray) (hq : oneR ls i kind must sp ⟨#[]⟩ V.text = (N, sp')) :
    Calls Tryd.prog 46 #[.pointer (some ⟨g, 0, none⟩), .int .i64 i, .int .u8 (kind : Int), .bool must] w (GivesF 63 X g ls A l c (fun r _ => r = .string N) sp' w) := by
  have hB : Below w.heap.size w (w.alloc (.cells #[.int .u8 (kind : Int)] 5)) := (Below.refl _ _).alloc (Nat.le_refl _) _
  have hkc : (w.alloc (.cells #[.int .u8 (kind : Int)] 5)).cell? ⟨w.heap.size, 0, none⟩ = some (.int .u8 (kind : Int)) := by simp
  have hs : w.heap.size < (w.alloc (.cells #[.int .u8 (kind : Int)] 5)).heap.size := by simp
  have HA : Calls Tryd.prog 54 #[.pointer (some ⟨g, 0, none⟩), .int .i64 i, .bool must, .string ⟨#[]⟩, .func (.func 55) #[] #[.pointer (some ⟨w.heap.size, 0, none⟩)]] (w.alloc (.cells #[.int .u8 (kind : Int)] 5)) (GivesF 63 X g ls A l c (fun r _ => r = .string N) sp' (w.alloc (.cells #[.int .u8 (kind : Int)] 5))) := by
    cases ha : ask ls i with
    | none =>
      rw [oneR_none ha] at hq
      injection hq with e1 e2
      subst e1; subst e2
      exact askS_none (h.call hB) i must ⟨#[]⟩ ha _
    | some v =>
      obtain ⟨k, n, t, ks⟩ := v
      by_cases hk : k = kind
      · rw [oneR_yes ha hk] at hq
        injection hq with e1 e2
        subst e1; subst e2
        refine (askS_yes (Q := fun r _ => r = .string t) (h.call hB) i must ⟨#[]⟩ ha w.heap.size fun A' l' c' w' hb _ _ _ => text1_any k n t A' l' c' w.heap.size kind w' ((hb.cell (p := ⟨w.heap.size, 0, none⟩) hs).trans hkc) (Nat.lt_of_lt_of_le hs hb.size) true (decide_eq_true hk))
      · rw [oneR_no ha hk] at hq
        injection hq with e1 e2
        subst e1; subst e2
        refine (askS_no (Q := fun r _ => r = .string t) (h.call hB) i must ⟨#[]⟩ ha w.heap.size fun A' l' c' w' hb _ _ _ => text1_any k n t A' l' c' w.heap.size kind w' ((hb.cell (p := ⟨w.heap.size, 0, none⟩) hs).trans hkc) (Nat.lt_of_lt_of_le hs hb.size) false (decide_eq_false hk))
  have HH := Lib.hid HA
  have HB := Lib.hid hB
  clear HA hB hkc hs h hq
  go_enter Tryd.func46, Tryd.ntmps46
  go_wp2_with fail
  refine HH.out.mono ?_
  rintro e w1 hF
  obtain ⟨r, rfl, rfl, _⟩ := id hF
  have HF := Lib.hid (hF.back (Q' := fun r _ => r = .string N) HB.out fun r hr => hr)
  clear hF
  go_wp2
  go_ret
  exact HF.out
theorem ftext_nil (i : Int) (kind : Nat) (must : Bool) (w : World) : Calls Tryd.prog 46 #[.pointer none, .int .i64 i, .int .u8 (kind : Int), .bool must] w fun e w' => e = .returned (.string ⟨#[]⟩) ∧ Below w.heap.size w w' := by
  have hB : Below w.heap.size w (w.alloc (.cells #[.int .u8 (kind : Int)] 5)) := (Below.refl _ _).alloc (Nat.le_refl _) _
  have HB := Lib.hid hB
  clear hB
  go_enter Tryd.func46, Tryd.ntmps46
  go_wp2_with (go_at_call 54; refine (askS_nil i must ⟨#[]⟩ _ _).mono ?_; rintro e w1 ⟨rfl, hb1⟩)
  go_ret
  exact ⟨rfl, below_next HB.out hb1⟩
end Go.Proofs.YtohmnbefokhjpaaDoor.Fl
