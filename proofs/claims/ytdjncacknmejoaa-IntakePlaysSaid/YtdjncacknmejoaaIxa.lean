/-
  The document's intake (layer 12): New, Start, Room, spoil, Put. Memory that was there stays, but for its own block and its row's. Condition: at most 2^40 bytes.
-/
import Derived.Test.YtdjncacknmejoaaIwo
import Derived.Test.YtdjncacknmejoaaIfs
namespace Go.Proofs.Ytdjncacknmejoaa.It
set_option maxRecDepth 100000
open Go.RowKit Go.Proofs.Ytdjncacknmejoaa.Utf Go.Proofs.Ytdjncacknmejoaa.Enc Go.Proofs.Ytdjncacknmejoaa.Fr

/-- The document's intake at block g; what it holds lies at A. -/
structure XIn (w : World) (g : Nat) (A : Option Addr) (c : Nat) (s : St) : Prop where
  ok : Ok s
  obj : w.heap[g]? = some (.cells #[.int .u32 (s.most : Int), .slice A s.held.length c, .bool s.went, .bool s.bad] 45 (0, 0))
  row : Row w A s.held.length c s.held
  ne : ¬ Bof A g
  blk : ∀ i, Bof A i → i < w.heap.size
/-- Its blocks. -/
def Xx (g : Nat) (A : Option Addr) (i : Nat) : Prop := i = g ∨ Bof A i
section
variable {w w' : World} {g c : Nat} {A : Option Addr} {s : St} {X : Nat → Prop}
theorem Row.off {n c : Nat} {l : List Nat} (r : Row w A n c l) (ho : Off X w w') (hx : ∀ i, Bof A i → i < w.heap.size ∧ ¬ X i) : Row w' A n c l :=
  ⟨(ho.rd r.rd fun b o e => hx b ⟨o, e⟩).mono ho.size, r.le, r.blk.imp id fun ⟨h, o, R, e, b, hl⟩ => ⟨h, o, R, e, b.off ho (hx h ⟨o, e⟩).2, hl⟩⟩
theorem XIn.glt (i : XIn w g A c s) : g < w.heap.size := (Array.getElem?_eq_some_iff.1 i.obj).1
theorem XIn.off (i : XIn w g A c s) (ho : Off X w w') (h1 : ¬ X g) (h2 : ∀ b, Bof A b → ¬ X b) : XIn w' g A c s :=
  ⟨i.ok, (ho.block g i.glt h1).trans i.obj, i.row.off ho fun b hb => ⟨i.blk b hb, h2 b hb⟩, i.ne, fun b hb => Nat.lt_of_lt_of_le (i.blk b hb) ho.size⟩
theorem XIn.call (i : XIn w g A c s) (hb : Below w.heap.size w w') : XIn w' g A c s := i.off (X := fun _ => False) (Off.of _ hb) (fun h => h) (fun _ _ h => h)
theorem XIn.cells (i : XIn w g A c s) : w.cell? ⟨g, 0, none⟩ = some (.int .u32 (s.most : Int)) ∧ w.cell? ⟨g, 1, none⟩ = some (.slice A s.held.length c) ∧ w.cell? ⟨g, 2, none⟩ = some (.bool s.went) ∧ w.cell? ⟨g, 3, none⟩ = some (.bool s.bad) ∧ ∀ j, w.frozen? ⟨g, j, none⟩ = false := by
  refine ⟨cell_of_row w g 0 _ _ _ i.obj, cell_of_row w g 1 _ _ _ i.obj, cell_of_row w g 2 _ _ _ i.obj, cell_of_row w g 3 _ _ _ i.obj, fun j => ?_⟩
  simp [World.frozen?, i.obj]
end
/-- append(x, y...), wherever it lies: the same block, or a new one. -/
def AppendedX (A : Option Addr) (n m : Nat) (L : List Nat) (w : World) (A2 : Option Addr) (c2 : Nat) (w' : World) : Prop :=
  Row w' A2 (n + m) c2 L ∧ Off (fun i => ∃ o, A = some ⟨i, o, none⟩) w w' ∧ ∀ i o, A2 = some ⟨i, o, none⟩ → (∃ o', A = some ⟨i, o', none⟩) ∨ (w.heap.size ≤ i ∧ i < w'.heap.size)
theorem run_rowx {w : World} {B' n c m d : Nat} {A A' : Option Addr} {L l : List Nat} (ty : TypeId) (r : Row w A n c L) (hr' : Rd .u8 256 w B' A' m l) (hsz : n + m ≤ 17592186044416) :
    ∃ A2 c2 w', (Builtin.append_ #[24, 24] ty #[.slice A n c, .slice A' m d]).run Try.prog w = .ok (.slice A2 (n + m) c2) w' ∧ AppendedX A n m (L ++ l) w A2 c2 w' := by
  have hl := r.rd.1
  have hl' := hr'.1
  by_cases hc : c < n + m
  · obtain ⟨c2, h2, w', hrun, hb, hB⟩ := run_grow8 (d := d) ty r.rd hr' hc hsz
    refine ⟨_, c2, w', hrun, ⟨?_, h2, .inr ⟨_, 0, _, rfl, hB, by simp; omega⟩⟩, Off.of _ hb, fun i o e => ?_⟩
    · have := hB.rd (o := 0) (n := n + m) (B := w'.heap.size) (by simp; omega) hB.lt
      rw [List.drop_zero, List.take_left' (by simp; omega)] at this
      exact this
    · injection e with e
      injection e with e _ _
      have hlt := hB.lt
      exact .inr ⟨by omega, by omega⟩
  · rcases r.blk with h0 | ⟨h, o, R, rfl, hB, hoc⟩
    · -- nothing is appended to nothing
      have hle := r.le
      obtain rfl : m = 0 := by omega
      have e0 : l = [] := List.eq_nil_of_length_eq_zero hl'
      subst e0
      obtain ⟨i0, hi, hz0, hz1, hz2⟩ := info_parts info5
      have hs : Src Try.prog i0.size 24 (.slice A' 0 d) 0 [] w := hz1 ▸ rd_srcs hr'
      refine ⟨A, c, w, run_append_nothing (P := Try.prog) w 24 24 ty 5 i0 Try.underlying24 hi A n c hle _ hs, ⟨by simpa using r.rd, by omega, .inl h0⟩, Off.refl _ _, fun i o e => .inl ⟨o, e⟩⟩
    · have hrun := run_room8 (off := o) (d := d) ty hB hr' (show n + m ≤ c by omega) (by omega)
      have hB' := hB.sets (k := o + n) l hr'.2.1 (by omega)
      refine ⟨_, c, _, hrun, ⟨?_, by omega, .inr ⟨h, o, _, rfl, hB', by rw [length_splice _ _ _ (by omega)]; exact hoc⟩⟩, (Off.sets (X := fun i => i = h) (g := h) rfl _ _ _).mono (fun i _ e => ⟨o, by rw [e]⟩), fun i o' e => .inl ⟨o', e⟩⟩
      have := hB'.rd (o := o) (n := n + m) (B := (w.setCells h (o + n) (vs .u8 l)).heap.size) (by rw [length_splice _ _ _ (by omega)]; omega) hB'.lt
      have e1 : ((splice R (o + n) l).drop o).take (n + m) = L ++ l := by
        have hR : (R.drop o).take n = L := by
          have h1 := hB.rd (o := o) (n := n) (B := w.heap.size) (by omega) hB.lt
          exact rd_same h1 r.rd
        unfold splice
        rw [List.drop_append_of_le_length (by rw [List.length_take]; omega), List.drop_take, show o + n - o = n by omega, hR, ← List.append_assoc, List.take_left' (by simp; omega)]
      rwa [e1] at this
theorem step_rowx {ops : Array Oper} {o : Oper} {a : Act} {w : World} {K : Act → World → Prop} {Q : Exit → Act → World → Prop} {E : Prop} (hgd : o.guard = none) (s x : Operand)
    (ho : o.op = .call { callee := .builtin .append, args := #[s, x], argTypes := #[24, 24] })
    {B n c m d : Nat} {A A' : Option Addr} {L l : List Nat} (hs : a.eval s = .slice A n c) (r : Row w A n c L) (hx : a.eval x = .slice A' m d) (hr : Rd .u8 256 w B A' m l) (hsz : n + m ≤ 17592186044416)
    (hK : ∀ A2 c2 w', AppendedX A n m (L ++ l) w A2 c2 w' → K (a.put o.dst (.slice A2 (n + m) c2)) w') :
    if Region.wanted o (yielded ops a.tmps) = true then Oper.wp Try.prog o a w K Q else E := by
  have hw : Region.wanted o (yielded ops a.tmps) = true := by simp [Region.wanted, hgd]
  rw [if_pos hw]
  obtain ⟨A2, c2, w', hrun, hap⟩ := run_rowx (d := d) o.type r hr hsz
  unfold Oper.wp execOp
  simp only [ho, resolve, invoke, builtin, Sem.run_bind, Sem.run_pure, Result.andThen_ok, List.map_toArray, List.map_cons, List.map_nil, hs, hx, hrun]
  exact hK _ _ _ hap
theorem Row.drew {w : World} {A : Option Addr} {n c : Nat} {l : List Nat} (r : Row w A n c l) : Row w.drew A n c l :=
  ⟨r.rd.below (Below.drew (Below.refl _ _)), r.le, r.blk.imp id fun ⟨h, o, R, e, b, hl⟩ => ⟨h, o, R, e, ⟨b.row, b.lim⟩, hl⟩⟩
theorem Off.fresh {X : Nat → Prop} {w w1 : World} {g j : Nat} {v : Value} (h : Off X w w1) (hg : w.heap.size ≤ g) : Off X w (w1.setCell ⟨g, j, none⟩ v) :=
  ⟨h.os, h.tape, h.output, Nat.le_trans h.size (by simp), fun i hi hn => (Below.heap_setCell w1 ⟨g, j, none⟩ v i (by show i ≠ g; omega)).trans (h.block i hi hn)⟩
theorem Off.snoc {X : Nat → Prop} {w w1 : World} {g j : Nat} {v : Value} (h : Off X w w1) (hx : X g) : Off X w (w1.setCell ⟨g, j, none⟩ v) := h.trans (Off.set _ _ _ hx)
theorem xnew_no (m : Nat) (w : World) (hm : m < 4294967296) (h : ¬ (512 ≤ m ∧ m ≤ 4096)) : Calls Try.prog 12 #[.int .u32 (m : Int)] w fun e w' => e = .returned (.tuple #[.pointer none, .int .i64 1]) ∧ w = w' := by
  by_cases h1 : m < 512
  · have d1 : decide ((m : Int) < 512) = true := by simp; omega
    clear h h1
    go_enter Try.func12, Try.ntmps12
    go_wp2
    refine bodyPost_ret (v := .tuple #[.pointer none, .int .i64 1]) (by simp [results, Try.results12, go_sem]) rfl ?_
    exact ⟨rfl, rfl⟩
  · have d1 : decide ((m : Int) < 512) = false := by simp; omega
    have d2 : decide (4096 < (m : Int)) = true := by simp; omega
    clear h h1
    go_enter Try.func12, Try.ntmps12
    go_wp2
    refine bodyPost_ret (v := .tuple #[.pointer none, .int .i64 1]) (by simp [results, Try.results12, go_sem]) rfl ?_
    exact ⟨rfl, rfl⟩
def GivesXNew (m : Nat) (w : World) (e : Ending) (w' : World) : Prop := ∃ g, e = .returned (.tuple #[.pointer (some ⟨g, 0, none⟩), .int .i64 0]) ∧ XIn w' g none 0 ⟨m, [], false, false⟩ ∧ w.heap.size ≤ g ∧ Below w.heap.size w w'
theorem xnew_yes (m : Nat) (w : World) (h1 : 512 ≤ m) (h2 : m ≤ 4096) : Calls Try.prog 12 #[.int .u32 (m : Int)] w (GivesXNew m w) := by
  have d1 : decide ((m : Int) < 512) = false := by simp; omega
  have d2 : decide (4096 < (m : Int)) = false := by simp; omega
  have HO : Hid ((w.alloc (.cells #[.int .u32 (m : Int), .slice none 0 0, .bool false, .bool false] 45)).heap[w.heap.size]? = some (.cells #[.int .u32 (m : Int), .slice none 0 0, .bool false, .bool false] 45 (0, 0))) := Lib.hid (heap_alloc_new w _)
  have HB := Lib.hid (show Below w.heap.size w (w.alloc (.cells #[.int .u32 (m : Int), .slice none 0 0, .bool false, .bool false] 45)) from ba (Below.refl _ _) _)
  have HK := Lib.hid (new_ok h1 h2)
  clear h1 h2
  go_enter Try.func12, Try.ntmps12
  go_wp2
  refine bodyPost_ret (v := .tuple #[.pointer (some ⟨w.heap.size, 0, none⟩), .int .i64 0]) (by simp [results, Try.results12, go_sem]) rfl ?_
  exact ⟨w.heap.size, rfl, ⟨HK.out, HO.out, Row.nil _, fun ⟨o, e⟩ => (by cases e), fun i ⟨o, e⟩ => (by cases e)⟩, Nat.le_refl _, HB.out⟩
theorem xstart_any (w : World) : Calls Try.prog 31 #[] w (GivesL w.heap.size hdr w) := by
  have HO := Lib.hid (own_lit8 w w.heap.size 8 hdr rfl (by decide) (by unfold maxLen; omega) (Nat.le_refl _))
  have HB := Lib.hid (show Below w.heap.size w (w.alloc (.cells (vs .u8 hdr).toArray 5)) from ba (Below.refl _ _) _)
  go_enter Try.func31, Try.ntmps31
  go_wp2
  go_ret
  exact GivesL.mk rfl rfl HO.out HB.out
theorem xroom_any (g c : Nat) (A : Option Addr) (s : St) (w : World) (i : XIn w g A c s) : Calls Try.prog 22 #[.pointer (some ⟨g, 0, none⟩)] w (Says (.int .i64 (room s : Int)) w) := by
  obtain ⟨c0, c1, c2, c3, cf⟩ := i.cells
  have hhi := i.ok.hi
  have hlen := i.ok.len
  obtain ⟨m, hm⟩ : ∃ m, s.most = m := ⟨_, rfl⟩
  obtain ⟨n, hn⟩ : ∃ n, s.held.length = n := ⟨_, rfl⟩
  rw [hm] at c0 hhi hlen
  rw [hn] at c1 hlen
  obtain ⟨M, hM⟩ : ∃ M, m + 8 = M := ⟨_, rfl⟩
  have hwm : IntKind.i64.wrap (m : Int) = (m : Int) := by rw [IntKind.wrap_i64]; omega
  have hMi : IntKind.i64.wrap ((m : Int) + 8) = (M : Int) := by rw [show (m : Int) + 8 = (M : Int) by omega]; exact IntWalk.i64_in _ (by omega)
  obtain ⟨q, hq⟩ : ∃ q, M - n = q := ⟨_, rfl⟩
  have hqi : (M : Int) - (n : Int) = (q : Int) := by omega
  have hqw : IntKind.i64.wrap ((M : Int) - (n : Int)) = (q : Int) := by rw [hqi]; exact IntWalk.i64_in _ (by omega)
  have hmi : (m : Int) + 8 = (M : Int) := by omega
  rcases hb : s.bad with _ | _
  · have HR : Hid (room s = q) := Lib.hid (by unfold room; rw [hb, hm, hn]; simp; omega)
    rw [hb] at c3
    clear i
    go_enter Try.func22, Try.ntmps22
    go_wp2_with fail
    go_quiet (fail)
    go_wp2
    go_ret
    exact ⟨by rw [HR.out]; rfl, ⟨rfl, rfl, rfl, Nat.le_refl _, fun _ _ => rfl⟩⟩
  · have HR : Hid (room s = 0) := Lib.hid (by unfold room; rw [hb]; rfl)
    rw [hb] at c3
    clear i
    go_enter Try.func22, Try.ntmps22
    go_wp2
    go_ret
    exact ⟨by rw [HR.out]; rfl, ⟨rfl, rfl, rfl, Nat.le_refl _, fun _ _ => rfl⟩⟩
/-- spoil's answer. -/
theorem xspoil_raw (g m n c : Nat) (A : Option Addr) (t : Bool) (w : World) (ho : w.heap[g]? = some (.cells #[.int .u32 (m : Int), .slice A n c, .bool t, .bool false] 45 (0, 0))) :
    Calls Try.prog 32 #[.pointer (some ⟨g, 0, none⟩)] w fun e w' => e = .returned (.tuple #[.int .u8 3, .agg #[.int .u16 0, .slice none 0 0]]) ∧ w'.heap[g]? = some (.cells #[.int .u32 (m : Int), .slice none 0 0, .bool t, .bool true] 45 (0, 0)) ∧ Off (fun i => i = g) w w' := by
  have hgl : g < w.heap.size := (Array.getElem?_eq_some_iff.1 ho).1
  have hgn : g ≠ w.heap.size := by omega
  have hng : w.heap.size ≠ g := by omega
  have hb0 : Below w.heap.size w (w.alloc (.cells #[.int .u16 0, .slice none 0 0] 39)) := ba (Below.refl _ _) _
  have ho0 := (hb0.block g hgl).trans ho
  have hx0 : BxF (w.alloc (.cells #[.int .u16 0, .slice none 0 0] 39)) w.heap.size 0 none 0 0 := heap_alloc_new w _
  obtain ⟨z, hz⟩ : ∃ z, w.heap.size = z := ⟨_, rfl⟩
  obtain ⟨W0, hW0⟩ : ∃ W0, w.alloc (.cells #[.int .u16 0, .slice none 0 0] 39) = W0 := ⟨_, rfl⟩
  have HB0 := Lib.hid hb0
  rw [hW0] at ho0 hx0 hb0
  rw [hz] at hgn hng hx0
  have c1 : W0.cell? ⟨g, 1, none⟩ = some (.slice A n c) := cell_of_row _ g 1 _ _ _ ho0
  have c3 : W0.cell? ⟨g, 3, none⟩ = some (.bool false) := cell_of_row _ g 3 _ _ _ ho0
  have cf : ∀ j, W0.frozen? ⟨g, j, none⟩ = false := fun j => by simp [World.frozen?, ho0]
  obtain ⟨x0, x1, xf, _⟩ := hx0.all
  have HO0 := Lib.hid ho0
  clear ho ho0 hb0 hx0 hgl
  go_enter Try.func32, Try.ntmps32
  go_wp2_with fail
  refine bodyPost_ret (v := .tuple #[.int .u8 3, .agg #[.int .u16 0, .slice none 0 0]]) (by simp [results, Try.results32, go_sem, x0, x1]) rfl ?_
  refine ⟨rfl, ?_, ?_⟩
  · rw [Below.heap_setCell _ _ _ _ (by show g ≠ z; exact hgn), Below.heap_setCell _ _ _ _ (by show g ≠ z; exact hgn)]
    simp [World.setCell, Array.getElem?_modify, HO0.out]
  · exact (((((hW0 ▸ Off.of _ HB0.out : Off (fun i => i = g) w W0).snoc rfl).snoc rfl).fresh (by omega)).fresh (by omega))
/-- What is bad, and so stays. -/
def GivesXSpoil (g : Nat) (A : Option Addr) (s : St) (w : World) (e : Ending) (w' : World) : Prop :=
  e = .returned (.tuple #[.int .u8 3, .agg #[.int .u16 0, .slice none 0 0]]) ∧ XIn w' g none 0 { s with held := [], bad := true } ∧ Off (Xx g A) w w'
theorem xspoil_any (g c : Nat) (A : Option Addr) (s : St) (w : World) (i : XIn w g A c s) (hb : s.bad = false) : Calls Try.prog 32 #[.pointer (some ⟨g, 0, none⟩)] w (GivesXSpoil g A s w) := by
  have ho := i.obj
  rw [hb] at ho
  refine (xspoil_raw g s.most _ c A s.went w ho).mono fun e w' ⟨he, hg, hf⟩ => ⟨he, ⟨⟨i.ok.lo, i.ok.hi, by simp, fun x hx => (by cases hx), fun _ => rfl⟩, hg, Row.nil _, fun ⟨o, e⟩ => (by cases e), fun i ⟨o, e⟩ => (by cases e)⟩, hf.mono fun i _ e => Or.inl e⟩
/-- Put's answer. -/
def GivesXPut (g : Nat) (A : Option Addr) (s : St) (n : Nat) (l : List Nat) (w : World) (e : Ending) (w' : World) : Prop :=
  ∃ A2 c2, e = .returned (.int .i64 (min n (room s) : Nat)) ∧ XIn w' g A2 c2 (put s l) ∧ (∀ i, Bof A2 i → Bof A i ∨ w.heap.size ≤ i) ∧ Off (Xx g A) w w'
theorem XIn.putIn {w w1 w2 : World} {g c c2 q : Nat} {A A2 : Option Addr} {s : St} {l : List Nat} (i : XIn w g A c s) (hb : Below w.heap.size w w1) (hl : ∀ x ∈ l, x < 256) (hll : (l.take (room s)).length = q) (hap : AppendedX A s.held.length q (s.held ++ l.take (room s)) w1.drew A2 c2 w2) :
    XIn (w2.setCell ⟨g, 1, none⟩ (.slice A2 (s.held.length + q) c2)) g A2 c2 (put s l) ∧ (∀ i, Bof A2 i → Bof A i ∨ w.heap.size ≤ i) ∧ Off (Xx g A) w (w2.setCell ⟨g, 1, none⟩ (.slice A2 (s.held.length + q) c2)) := by
  obtain ⟨hrow, hof, hbl⟩ := hap
  have hf : Off (Xx g A) w w2 := ((Off.of _ hb).drew).trans (hof.mono fun i _ h => Or.inr h)
  have hg := i.glt
  have hs1 : w.heap.size ≤ w1.heap.size := hb.size
  have hobj : w2.heap[g]? = w.heap[g]? := (hof.block g (by show g < w1.heap.size; omega) i.ne).trans (hb.block g hg)
  have hne : ¬ Bof A2 g := fun ⟨o, e⟩ => by
    rcases hbl g o e with h | h
    · exact i.ne h
    · have : w1.heap.size ≤ g := h.1
      omega
  have hlen : (s.held ++ l.take (room s)).length = s.held.length + q := by rw [List.length_append, hll]
  have hsize : w1.heap.size ≤ w2.heap.size := hof.size
  have hA2 : ∀ b, Bof A2 b → b < w2.heap.size := fun b ⟨o, e⟩ => by
    rcases hbl b o e with h | h
    · have := i.blk b h
      omega
    · exact h.2
  refine ⟨⟨i.ok.put hl, ?_, ?_, hne, fun b h => ?_⟩, fun b ⟨o, e⟩ => ?_, hf.snoc (Or.inl rfl)⟩
  · show _ = some (Obj.cells #[.int .u32 (s.most : Int), .slice A2 (s.held ++ l.take (room s)).length c2, .bool s.went, .bool s.bad] 45 (0, 0))
    rw [hlen]
    simp [World.setCell, Array.getElem?_modify, hobj, i.obj]
  · have := hrow.off (X := fun i => i = g) (Off.set w2 1 (.slice A2 (s.held.length + q) c2) (g := g) rfl) fun b h => ⟨hA2 b h, fun e => hne (e ▸ h)⟩
    show Row _ A2 (s.held ++ l.take (room s)).length c2 (s.held ++ l.take (room s))
    rw [hlen]
    exact this
  · have := hA2 b h
    simpa using this
  · rcases hbl b o e with h | h
    · exact .inl h
    · have : w1.heap.size ≤ b := h.1
      exact .inr (by omega)
theorem xput_any (g c : Nat) (A : Option Addr) (s : St) (B : Option Addr) (n d : Nat) (l : List Nat) (w : World) (i : XIn w g A c s) (hr : Rd .u8 256 w w.heap.size B n l) (hnc : n ≤ d) (hn : n ≤ 9223372036854775807) : Calls Try.prog 15 #[.pointer (some ⟨g, 0, none⟩), .slice B n d] w (GivesXPut g A s n l w) := by
  have hrm := xroom_any g c A s w i
  have hle := room_le i.ok
  have hl := hr.len
  have hlim := hr.lim
  have hk := i.ok.len
  have hk2 := i.ok.hi
  obtain ⟨r, hr0⟩ : ∃ r, room s = r := ⟨_, rfl⟩
  obtain ⟨q, hq⟩ : ∃ q, min n r = q := ⟨_, rfl⟩
  have hm : (r < n ∧ r = q) ∨ (¬ r < n ∧ n = q) := by omega
  have HTK : Hid ((l.take (room s)).length = q) := Lib.hid (by rw [hr0, List.length_take]; omega)
  have htk : l.take q = l.take (room s) := by
    rw [hr0]
    by_cases hnr : n ≤ r
    · rw [List.take_of_length_le (by omega), List.take_of_length_le (by omega)]
    · congr 1; omega
  rw [hr0] at hrm hle
  have hqn : q ≤ n := by omega
  obtain ⟨k, hkk⟩ : ∃ k, s.held.length = k := ⟨_, rfl⟩
  have HC : Hid (∀ wx : World, Below w.heap.size w wx → wx.cell? ⟨g, 1, none⟩ = some (.slice A k c) ∧ (∀ j, wx.frozen? ⟨g, j, none⟩ = false) ∧ Row wx.drew A k c s.held ∧ Rd .u8 256 wx.drew wx.heap.size B q (l.take (room s))) := Lib.hid fun wx hb => by
    have i2 := i.call hb
    obtain ⟨_, c1, _, _, cf⟩ := i2.cells
    rw [hkk] at c1
    have hrow := i2.row.drew
    rw [hkk] at hrow
    exact ⟨c1, cf, hrow, htk ▸ (((hr.call hb).take hqn).below (Below.drew (Below.refl _ _)))⟩
  have hsz : k + q ≤ 17592186044416 := by omega
  have HQ : Hid (min n (room s) = q) := Lib.hid (by rw [hr0]; exact hq)
  have HI := Lib.hid i
  have HKK := Lib.hid hkk
  have HL := Lib.hid hlim
  have HRM := Lib.hid hrm
  obtain ⟨p1, p2⟩ := cut_to B n d q hqn hnc
  have p1' := fun W => p1 W q rfl
  have p2' := fun W => p2 W q rfl
  have hd : decide ((r : Int) < (n : Int)) = decide (r < n) := by simp
  have HG : Hid (∀ A2 c2 w1 w2, Below w.heap.size w w1 → AppendedX A k q (s.held ++ l.take (room s)) w1.drew A2 c2 w2 → w2.cell? ⟨g, 1, none⟩ = some (.slice A k c) ∧ ∀ j, w2.frozen? ⟨g, j, none⟩ = false) := Lib.hid fun A2 c2 w1 w2 hb ⟨_, hof, _⟩ => by
    have hx := (hof.block g (by show g < w1.heap.size; have := i.glt; have := hb.size; omega) i.ne).trans ((i.call hb).obj)
    rw [hkk] at hx
    exact ⟨cell_of_row _ g 1 _ _ _ hx, fun j => by simp [World.frozen?, hx]⟩
  clear hrm i hr hr0 hq htk hkk hlim hl hk hk2 hle p1 p2
  have HF : Hid (∀ A2 c2 w1 w2, Below w.heap.size w w1 → AppendedX A k q (s.held ++ l.take (room s)) w1.drew A2 c2 w2 → GivesXPut g A s n l w (.returned (.int .i64 (q : Int))) (w2.setCell ⟨g, 1, none⟩ (.slice A2 (k + q) c2))) := by
    refine Lib.hid fun A2 c2 w1 w2 hb hap => ?_
    rw [← HKK.out] at hap ⊢
    obtain ⟨h1, h2, h3⟩ := XIn.putIn HI.out hb HL.out HTK.out hap
    exact ⟨A2, c2, by rw [HQ.out], h1, h2, h3⟩
  have HQN := Lib.hid hqn
  clear hqn
  rcases hm with ⟨hlt, rfl⟩ | ⟨hlt, rfl⟩
  · go_enter Try.func15, Try.ntmps15
    go_wp2_with (first
      | (go_at_call 22; (with_reducible refine HRM.out.mono ?_); rintro e w1 ⟨rfl, hb1⟩)
      | fail)
    obtain ⟨c1, cf, hrow, hrd⟩ := HC.out w1 hb1
    go_region_law (refine step_rowx (L := s.held) (l := l.take (room s)) (n := k) (c := c) (m := r) (d := d) rfl _ _ rfl rfl hrow rfl hrd hsz ?_; intro A2 c2 w2 hap; obtain ⟨c1', cf'⟩ := HG.out _ _ _ _ hb1 hap)
    all_goals go_wp2
    all_goals (go_ret; exact HF.out _ _ _ _ hb1 (by assumption))
  · go_enter Try.func15, Try.ntmps15
    go_wp2_with (first
      | (go_at_call 22; (with_reducible refine HRM.out.mono ?_); rintro e w1 ⟨rfl, hb1⟩)
      | fail)
    obtain ⟨c1, cf, hrow, hrd⟩ := HC.out w1 hb1
    go_region_law (refine step_rowx (L := s.held) (l := l.take (room s)) (n := k) (c := c) (m := n) (d := d) rfl _ _ rfl rfl hrow rfl hrd hsz ?_; intro A2 c2 w2 hap; obtain ⟨c1', cf'⟩ := HG.out _ _ _ _ hb1 hap)
    all_goals go_wp2
    all_goals (go_ret; exact HF.out _ _ _ _ hb1 (by assumption))
end Go.Proofs.Ytdjncacknmejoaa.It
