/-
  Contracts of package intake, first part: an intake in memory; Start, Held, Room, spoil, slices.Delete from the beginning. Memory that was there stays, but for the intake's own two blocks. No other condition.
-/
import Derived.Test.YtdjncacknmejoaaItq
import Derived.Test.YtdjncacknmejoaaItb
import Derived.Test.YtdjncacknmejoaaApt
import Derived.Laws.EntriesVeiled
import Derived.BigQuiet
import Derived.Lib.SlBytesConst
import Derived.Deep.QuietTactic
namespace Go.Proofs.Ytdjncacknmejoaa.It
set_option maxRecDepth 100000
open Go.RowKit Go.Proofs.Ytdjncacknmejoaa.Utf Go.Proofs.Ytdjncacknmejoaa.Enc Go.Proofs.Ytdjncacknmejoaa.Fr

/-- What is held, as a slice; what tells next. -/
def hv (s : St) (h : Nat) : Value := if s.bad then .slice none 0 0 else .slice (some ⟨h, 0, none⟩) s.held.length (s.most + 8)
def tv (went : Bool) (g : Nat) : Value := .func (.func (if went then 39 else 28)) #[.pointer (some ⟨g, 0, none⟩)] #[]
/-- An intake at block g; what it holds lies in block h. -/
structure In (w : World) (g h : Nat) (s : St) : Prop where
  ok : Ok s
  obj : w.heap[g]? = some (.cells #[.int .u32 (s.most : Int), hv s h, .bool s.bad, tv s.went g] 62 (0, 0))
  row : s.bad = false → ∃ R, Blk w h R ∧ R.length = s.most + 8 ∧ R.take s.held.length = s.held
  ne : g ≠ h
  lt : h < w.heap.size
/-- The blocks of an intake. -/
def Xi (g h : Nat) (i : Nat) : Prop := i = g ∨ i = h
section
variable {w w' : World} {g h : Nat} {s : St} {X : Nat → Prop}
theorem In.glt (i : In w g h s) : g < w.heap.size := (Array.getElem?_eq_some_iff.1 i.obj).1
theorem In.off (i : In w g h s) (ho : Off X w w') (h1 : ¬ X g) (h2 : ¬ X h) : In w' g h s :=
  ⟨i.ok, (ho.block g i.glt h1).trans i.obj, fun hb => by obtain ⟨R, b, hl, ht⟩ := i.row hb; exact ⟨R, b.off ho h2, hl, ht⟩, i.ne, Nat.lt_of_lt_of_le i.lt ho.size⟩
theorem In.call (i : In w g h s) (hb : Below w.heap.size w w') : In w' g h s := i.off (X := fun _ => False) (Off.of _ hb) (fun h => h) (fun h => h)
theorem In.drew (i : In w g h s) : In w.drew g h s := i.off (X := fun _ => False) (Off.drew (Off.refl _ _)) (fun h => h) (fun h => h)
theorem In.cells (i : In w g h s) : w.cell? ⟨g, 0, none⟩ = some (.int .u32 (s.most : Int)) ∧ w.cell? ⟨g, 1, none⟩ = some (hv s h) ∧ w.cell? ⟨g, 2, none⟩ = some (.bool s.bad) ∧ w.cell? ⟨g, 3, none⟩ = some (tv s.went g) ∧ ∀ j, w.frozen? ⟨g, j, none⟩ = false := by
  refine ⟨cell_of_row w g 0 _ _ _ i.obj, cell_of_row w g 1 _ _ _ i.obj, cell_of_row w g 2 _ _ _ i.obj, cell_of_row w g 3 _ _ _ i.obj, fun j => ?_⟩
  simp [World.frozen?, i.obj]
theorem In.rd (i : In w g h s) (hb : s.bad = false) : Rd .u8 256 w w.heap.size (some ⟨h, 0, none⟩) s.held.length s.held := by
  obtain ⟨R, b, hl, ht⟩ := i.row hb
  have := b.rd (o := 0) (n := s.held.length) (B := w.heap.size) (by have := i.ok.len; omega) b.lt
  rwa [List.drop_zero, ht] at this
end
theorem hv_ok {s : St} {h : Nat} (hb : s.bad = false) : hv s h = .slice (some ⟨h, 0, none⟩) s.held.length (s.most + 8) := by unfold hv; rw [hb]; rfl
theorem hv_bad {s : St} {h : Nat} (hb : s.bad = true) : hv s h = .slice none 0 0 := by unfold hv; rw [hb]; rfl

/-- The header's bytes in a block, as the program's text lays them. -/
def Hb (w : World) (g : Nat) : Prop := w.heap[g]? = some (.cells (vs .u8 hdr).toArray 5 (8, 9))
theorem Hb.lt {w : World} {g : Nat} (h : Hb w g) : g < w.heap.size := (Array.getElem?_eq_some_iff.1 h).1
theorem Hb.call {w w' : World} {g : Nat} (h : Hb w g) (hb : Below w.heap.size w w') : Hb w' g := (hb.block g h.lt).trans h
theorem Hb.cell {w : World} {g j y : Nat} (h : Hb w g) (hj : hdr[j]? = some y) : w.cell? ⟨g, j, none⟩ = some (.int .u8 (y : Int)) := by
  rw [cell_of_row w g j _ _ _ h]
  simp [vs, hj]
theorem Hb.rd {w : World} {g : Nat} (h : Hb w g) : Rd .u8 256 w w.heap.size (some ⟨g, 0, none⟩) 8 hdr :=
  ⟨rfl, by decide, fun _ => ⟨g, 0, rfl, h.lt, fun k hk => by rw [Nat.zero_add]; exact h.cell (List.getElem?_eq_getElem hk)⟩⟩
def GivesStart (w : World) (e : Ending) (w' : World) : Prop := ∃ g, e = .returned (.slice (some ⟨g, 0, none⟩) 8 8) ∧ Hb w' g ∧ w.heap.size ≤ g ∧ Below w.heap.size w w'
theorem start_any (w : World) : Calls Try.prog 24 #[] w (GivesStart w) := by
  have hcv : (convert 24 24 (.slice (some ⟨w.heap.size, 0, none⟩) 8 8)).run Try.prog (w.alloc (.cells #[.int .u8 65, .int .u8 77, .int .u8 81, .int .u8 80, .int .u8 0, .int .u8 1, .int .u8 0, .int .u8 0] 5)) = .ok (.slice (some ⟨w.heap.size, 0, none⟩) 8 8) (w.alloc (.cells #[.int .u8 65, .int .u8 77, .int .u8 81, .int .u8 80, .int .u8 0, .int .u8 1, .int .u8 0, .int .u8 0] 5 (8, 9))) := Lib.run_convert_bytes_const w 24 5 #[.int .u8 65, .int .u8 77, .int .u8 81, .int .u8 80, .int .u8 0, .int .u8 1, .int .u8 0, .int .u8 0] 8 8 Try.underlying24 Try.underlying5
  have hx : Hb (w.alloc (.cells #[.int .u8 65, .int .u8 77, .int .u8 81, .int .u8 80, .int .u8 0, .int .u8 1, .int .u8 0, .int .u8 0] 5 (8, 9))) w.heap.size := heap_alloc_new w _
  have hb : Below w.heap.size w (w.alloc (.cells #[.int .u8 65, .int .u8 77, .int .u8 81, .int .u8 80, .int .u8 0, .int .u8 1, .int .u8 0, .int .u8 0] 5 (8, 9))) := (Below.refl _ _).alloc (Nat.le_refl _) _
  have HX := Lib.hid hx
  have HB := Lib.hid hb
  clear hx hb
  go_enter Try.func24, Try.ntmps24
  go_wp2
  go_ret
  exact ⟨_, rfl, HX.out, Nat.le_refl _, HB.out⟩
theorem held_any (g h : Nat) (s : St) (w : World) (i : In w g h s) : Calls Try.prog 20 #[.pointer (some ⟨g, 0, none⟩)] w fun e w' => e = .returned (.int .i64 (s.held.length : Int)) ∧ w = w' := by
  obtain ⟨c0, c1, c2, c3, cf⟩ := i.cells
  have hbad := i.ok.bad
  rcases hb : s.bad with _ | _
  · rw [hv_ok hb] at c1
    clear i hbad
    go_enter Try.func20, Try.ntmps20
    go_wp2
    go_ret
    exact ⟨rfl, rfl⟩
  · rw [hv_bad hb] at c1
    rw [hbad hb]
    clear i hbad
    go_enter Try.func20, Try.ntmps20
    go_wp2
    go_ret
    exact ⟨rfl, rfl⟩
/-- Room, of what stands in its cells. -/
theorem room_raw (g m n c : Nat) (A : Option Addr) (bad : Bool) (w : World) (hm : m ≤ 4096) (hn : n ≤ m + 8) (c0 : w.cell? ⟨g, 0, none⟩ = some (.int .u32 (m : Int))) (c1 : w.cell? ⟨g, 1, none⟩ = some (.slice A n c)) (c2 : w.cell? ⟨g, 2, none⟩ = some (.bool bad)) :
    Calls Try.prog 21 #[.pointer (some ⟨g, 0, none⟩)] w fun e w' => e = .returned (.int .i64 ((if bad then 0 else m + 8 - n : Nat) : Int)) ∧ Below w.heap.size w w' := by
  have hwm : IntKind.i64.wrap (m : Int) = (m : Int) := by rw [IntKind.wrap_i64]; omega
  obtain ⟨M, hM⟩ : ∃ M, m + 8 = M := ⟨_, rfl⟩
  have hMi : IntKind.i64.wrap ((m : Int) + 8) = (M : Int) := by rw [show (m : Int) + 8 = (M : Int) by omega]; exact IntWalk.i64_in _ (by omega)
  obtain ⟨q, hq⟩ : ∃ q, M - n = q := ⟨_, rfl⟩
  have hqi : (M : Int) - (n : Int) = (q : Int) := by omega
  have hqw : IntKind.i64.wrap ((M : Int) - (n : Int)) = (q : Int) := by rw [hqi]; exact IntWalk.i64_in _ (by omega)
  have hmi : (m : Int) + 8 = (M : Int) := by omega
  rw [hM, hq]
  cases bad
  · go_enter Try.func21, Try.ntmps21
    go_wp2_with fail
    go_quiet (fail)
    go_wp2
    go_ret
    exact ⟨rfl, ⟨rfl, rfl, rfl, Nat.le_refl _, fun _ _ => rfl⟩⟩
  · go_enter Try.func21, Try.ntmps21
    go_wp2
    go_ret
    exact ⟨rfl, Below.refl _ _⟩
theorem room_any (g h : Nat) (s : St) (w : World) (i : In w g h s) : Calls Try.prog 21 #[.pointer (some ⟨g, 0, none⟩)] w fun e w' => e = .returned (.int .i64 (room s : Int)) ∧ Below w.heap.size w w' := by
  obtain ⟨c0, c1, c2, c3, cf⟩ := i.cells
  rcases hb : s.bad with _ | _
  · rw [hv_ok hb] at c1
    have := room_raw g s.most s.held.length _ _ s.bad w i.ok.hi i.ok.len c0 c1 c2
    unfold room
    exact this
  · rw [hv_bad hb] at c1
    have := room_raw g s.most 0 _ _ s.bad w i.ok.hi (by omega) c0 c1 c2
    unfold room
    rw [hb] at this ⊢
    exact this
theorem nil_room (w : World) : Calls Try.prog 21 #[.pointer none] w fun e w' => e = .returned (.int .i64 0) ∧ w = w' := by
  go_enter Try.func21, Try.ntmps21
  go_wp2
  go_ret
  exact ⟨rfl, rfl⟩
theorem nil_held (w : World) : Calls Try.prog 20 #[.pointer none] w fun e w' => e = .returned (.int .i64 0) ∧ w = w' := by
  go_enter Try.func20, Try.ntmps20
  go_wp2
  go_ret
  exact ⟨rfl, rfl⟩
end Go.Proofs.Ytdjncacknmejoaa.It
