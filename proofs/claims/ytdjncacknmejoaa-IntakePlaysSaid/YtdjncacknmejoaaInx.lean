/-
  Contracts of package intake, third part: what tells next (first, further), spoil. Memory that was there stays, but for the intake's own blocks. No other condition.
-/
import Derived.Test.YtdjncacknmejoaaItd
namespace Go.Proofs.Ytdjncacknmejoaa.It
set_option maxRecDepth 100000
open Go.RowKit Go.Proofs.Ytdjncacknmejoaa.Utf Go.Proofs.Ytdjncacknmejoaa.Enc Go.Proofs.Ytdjncacknmejoaa.Fr

theorem spoil_raw (g m : Nat) (v : Value) (t : Value) (w : World) (ho : w.heap[g]? = some (.cells #[.int .u32 (m : Int), v, .bool false, t] 62 (0, 0))) :
    Calls Try.prog 29 #[.pointer (some ⟨g, 0, none⟩)] w fun e w' => e = .returned (.tuple #[]) ∧ w'.heap[g]? = some (.cells #[.int .u32 (m : Int), .slice none 0 0, .bool true, t] 62 (0, 0)) ∧ Off (fun i => i = g) w w' := by
  have c1 : (w.cell? ⟨g, 1, none⟩) = some v := cell_of_row w g 1 _ _ _ ho
  have c2 : w.cell? ⟨g, 2, none⟩ = some (.bool false) := cell_of_row w g 2 _ _ _ ho
  have cf : ∀ j, w.frozen? ⟨g, j, none⟩ = false := fun j => by simp [World.frozen?, ho]
  have HO : Hid (((w.setCell ⟨g, 2, none⟩ (.bool true)).setCell ⟨g, 1, none⟩ (.slice none 0 0)).heap[g]? = some (.cells #[.int .u32 (m : Int), .slice none 0 0, .bool true, t] 62 (0, 0))) := Lib.hid (by simp [World.setCell, Array.getElem?_modify, ho])
  have HF : Hid (Off (fun i => i = g) w ((w.setCell ⟨g, 2, none⟩ (.bool true)).setCell ⟨g, 1, none⟩ (.slice none 0 0))) := Lib.hid ((Off.set (X := fun i => i = g) (g := g) w 2 _ rfl).trans (Off.set (X := fun i => i = g) (g := g) _ 1 _ rfl))
  clear ho
  go_enter Try.func29, Try.ntmps29
  go_wp2
  go_end0
  exact ⟨rfl, HO.out, HF.out⟩
theorem extract_sb (n : Nat) (hn : n ≤ 8) : (⟨#[65, 77, 81, 80, 0, 1, 0, 0]⟩ : ByteArray).extract 0 n = sb (hdr.take n) := by
  have : n = 0 ∨ n = 1 ∨ n = 2 ∨ n = 3 ∨ n = 4 ∨ n = 5 ∨ n = 6 ∨ n = 7 ∨ n = 8 := by omega
  rcases this with rfl | rfl | rfl | rfl | rfl | rfl | rfl | rfl | rfl <;> rfl
theorem hdr_lt : ∀ x ∈ hdr, x < 256 := by decide
theorem sb_ne {l m : List Nat} (hl : ∀ x ∈ l, x < 256) (hm : ∀ x ∈ m, x < 256) (h : ¬ l = m) : ((sb l).toList == (sb m).toList) = false := by
  rw [beq_eq_false_iff_ne]
  intro e
  refine h (sb_inj hl hm ?_)
  rw [ByteArray.toList_eq, ByteArray.toList_eq] at e
  exact congrArg ByteArray.mk (Array.toList_inj.1 e)
/-- first's answer: nothing, the header, or that it is bad; where it told the header, further is what tells next. -/
def GivesFirst (k g : Nat) (w : World) (e : Ending) (w' : World) : Prop :=
  e = .returned (.tuple #[.int .u8 (k : Int), .agg #[.int .u16 0, .slice none 0 0], .int .i64 (if k = 1 then 8 else 0)]) ∧
  Off (fun i => k = 1 ∧ i = g) w w' ∧ (k = 1 → w'.heap[g]? = (w.setCell ⟨g, 3, none⟩ (.func (.func 39) #[.pointer (some ⟨g, 0, none⟩)] #[])).heap[g]?)
theorem GivesFirst.mk0 {g : Nat} {w w1 : World} (h : Below w.heap.size w w1) : GivesFirst 0 g w (.returned (.tuple #[.int .u8 0, .agg #[.int .u16 0, .slice none 0 0], .int .i64 0])) w1.drew := ⟨rfl, (Off.of _ h).drew, fun h => by cases h⟩
theorem GivesFirst.mk3 {g : Nat} {w w1 : World} (h : Below w.heap.size w w1) : GivesFirst 3 g w (.returned (.tuple #[.int .u8 3, .agg #[.int .u16 0, .slice none 0 0], .int .i64 0])) w1.drew := ⟨rfl, (Off.of _ h).drew, fun h => by cases h⟩
theorem GivesFirst.mk1 {g : Nat} {w : World} (o : Obj) (hg : g < w.heap.size) : GivesFirst 1 g w (.returned (.tuple #[.int .u8 1, .agg #[.int .u16 0, .slice none 0 0], .int .i64 8])) ((w.setCell ⟨g, 3, none⟩ (.func (.func 39) #[.pointer (some ⟨g, 0, none⟩)] #[])).alloc o).drew :=
  ⟨rfl, ((Off.set _ _ _ ⟨rfl, rfl⟩).alloc o).drew, fun _ => Below.heap_alloc _ o g (by simpa using hg)⟩
set_option maxHeartbeats 1000000 in
theorem first_bad1 (g : Nat) (A : Option Addr) (len c : Nat) (l : List Nat) (t : Value) (w : World) (hg : g < w.heap.size) (c1 : w.cell? ⟨g, 1, none⟩ = some (.slice A len c)) (c3 : w.cell? ⟨g, 3, none⟩ = some t) (cf : ∀ j, w.frozen? ⟨g, j, none⟩ = false) (hr : Rd .u8 256 w w.heap.size A len l) (hlc : len ≤ c) (hlt : len ≤ 8) (hxy : ¬ l.take 8 = hdr.take len) :
    Calls Try.prog 28 #[.pointer (some ⟨g, 0, none⟩)] w (GivesFirst 3 g w) := by
    have hb0 : Below w.heap.size w (w.alloc (.cells #[.int .u16 0, .slice none 0 0] 39)) := ba (Below.refl _ _) _
    have hr0 := hr.call hb0
    have c1' := (hb0.cell (p := ⟨g, 1, none⟩) hg).trans c1
    have c3' := (hb0.cell (p := ⟨g, 3, none⟩) hg).trans c3
    have cf' : ∀ j, (w.alloc (.cells #[.int .u16 0, .slice none 0 0] 39)).drew.frozen? ⟨g, j, none⟩ = false := fun j => (World.frozen?_of_block (a := ⟨g, j, none⟩) (hb0.block g hg)).trans (cf j)
    have hll := hr.len
    have hmf : ∀ (fn : Fn) (first cap : Array Value) (w : World), (Instr.makeFunc fn first cap).run Try.prog w = .ok (.func fn first cap) w := fun _ _ _ _ => rfl
    have HX0 := Lib.hid (show BxF (w.alloc (.cells #[.int .u16 0, .slice none 0 0] 39)) w.heap.size 0 none 0 0 from heap_alloc_new w _)
    obtain ⟨p1, p2⟩ := cut_to A len c len (by omega) hlc
    have p1' := fun W => p1 W len rfl
    have p2' := fun W => p2 W len rfl
    obtain ⟨Y, hY⟩ : ∃ Y, sb (hdr.take len) = Y := ⟨_, rfl⟩
    have x1 : ∀ W : World, (Instr.slice 9 (.string ⟨#[65, 77, 81, 80, 0, 1, 0, 0]⟩) none (some (.int .i64 (len : Int))) none).run Try.prog W = .ok (.string Y) W := fun W => by
      rw [run_slice_string_h W 9 _ under9 .i64 (len : Int) (by omega) (by show (len : Int) ≤ 8; omega), ← hY, ← extract_sb len (by omega)]
      rfl
    have x2 : ∀ W : World, (Instr.sliceAt 9 (.string ⟨#[65, 77, 81, 80, 0, 1, 0, 0]⟩) none (some (.int .i64 (len : Int))) none).run Try.prog W = .ok (.string Y) W := fun W => by
      rw [run_sliceAt_string (P := Try.prog) W 9 _ _ _ _ under9]; exact x1 W
    obtain ⟨X, hX⟩ : ∃ X, sb (l.take len) = X := ⟨_, rfl⟩
    have hs0 : (convert 24 9 (.slice A len c)).run Try.prog (w.alloc (.cells #[.int .u16 0, .slice none 0 0] 39)).drew = .ok (.string X) (w.alloc (.cells #[.int .u16 0, .slice none 0 0] 39)).drew := by
      have := run_str c ((hr0.below (Below.drew (Below.refl _ _))).take (k := len) (by omega))
      rwa [hX] at this
    have hl8 : ¬ l.take len = hdr.take len := fun e => hxy (by rw [← e, List.take_of_length_le (by omega), List.take_of_length_le (by omega)])
    have exy : (X.toList == Y.toList) = false := by rw [← hX, ← hY]; exact sb_ne (fun x hx => hr.lim x (List.mem_of_mem_take hx)) (fun x hx => hdr_lt x (List.mem_of_mem_take hx)) hl8
    have hlt' : ¬ 8 < (len : Int) := by omega
    have hgne : g ≠ w.heap.size := by omega
    have HB0 := Lib.hid hb0
    clear hr hr0 p1 p2 hX hY hxy hl8 hb0 hll
    go_enter Try.func28, Try.ntmps28
    go_wp2_with fail
    all_goals
      go_region_held3 (fun wx => wx.cell? ⟨g, 1, none⟩ = some (.slice A len c) ∧ (convert 24 9 (.slice A len c)).run Try.prog wx = .ok (.string X) wx) (exact ⟨c1', hs0⟩) (fail)
    all_goals
      go_wp2
      refine bodyPost_ret (v := .tuple #[.int .u8 3, .agg #[.int .u16 0, .slice none 0 0], .int .i64 0]) (by simp [results, Try.results28, go_sem]) rfl ?_
      exact GivesFirst.mk3 HB0.out
set_option maxHeartbeats 1000000 in
theorem first_bad2 (g : Nat) (A : Option Addr) (len c : Nat) (l : List Nat) (t : Value) (w : World) (hg : g < w.heap.size) (c1 : w.cell? ⟨g, 1, none⟩ = some (.slice A len c)) (c3 : w.cell? ⟨g, 3, none⟩ = some t) (cf : ∀ j, w.frozen? ⟨g, j, none⟩ = false) (hr : Rd .u8 256 w w.heap.size A len l) (hlc : len ≤ c) (hlt : 8 < len) (hxy : ¬ l.take 8 = hdr.take len) :
    Calls Try.prog 28 #[.pointer (some ⟨g, 0, none⟩)] w (GivesFirst 3 g w) := by
    have hb0 : Below w.heap.size w (w.alloc (.cells #[.int .u16 0, .slice none 0 0] 39)) := ba (Below.refl _ _) _
    have hr0 := hr.call hb0
    have c1' := (hb0.cell (p := ⟨g, 1, none⟩) hg).trans c1
    have c3' := (hb0.cell (p := ⟨g, 3, none⟩) hg).trans c3
    have cf' : ∀ j, (w.alloc (.cells #[.int .u16 0, .slice none 0 0] 39)).drew.frozen? ⟨g, j, none⟩ = false := fun j => (World.frozen?_of_block (a := ⟨g, j, none⟩) (hb0.block g hg)).trans (cf j)
    have hll := hr.len
    have hmf : ∀ (fn : Fn) (first cap : Array Value) (w : World), (Instr.makeFunc fn first cap).run Try.prog w = .ok (.func fn first cap) w := fun _ _ _ _ => rfl
    have HX0 := Lib.hid (show BxF (w.alloc (.cells #[.int .u16 0, .slice none 0 0] 39)) w.heap.size 0 none 0 0 from heap_alloc_new w _)
    obtain ⟨p1, p2⟩ := cut_to A len c 8 (by omega) hlc
    have p1' := fun W => p1 W 8 rfl
    have p2' := fun W => p2 W 8 rfl
    obtain ⟨Y, hY⟩ : ∃ Y, sb (hdr.take 8) = Y := ⟨_, rfl⟩
    have x1 : ∀ W : World, (Instr.slice 9 (.string ⟨#[65, 77, 81, 80, 0, 1, 0, 0]⟩) none (some (.int .i64 8)) none).run Try.prog W = .ok (.string Y) W := fun W => by
      rw [run_slice_string_h W 9 _ under9 .i64 8 (by omega) (by show 8 ≤ 8; omega), ← hY, ← extract_sb 8 (by omega)]
      rfl
    have x2 : ∀ W : World, (Instr.sliceAt 9 (.string ⟨#[65, 77, 81, 80, 0, 1, 0, 0]⟩) none (some (.int .i64 8)) none).run Try.prog W = .ok (.string Y) W := fun W => by
      rw [run_sliceAt_string (P := Try.prog) W 9 _ _ _ _ under9]; exact x1 W
    obtain ⟨X, hX⟩ : ∃ X, sb (l.take 8) = X := ⟨_, rfl⟩
    have hs0 : (convert 24 9 (.slice A 8 c)).run Try.prog (w.alloc (.cells #[.int .u16 0, .slice none 0 0] 39)).drew = .ok (.string X) (w.alloc (.cells #[.int .u16 0, .slice none 0 0] 39)).drew := by
      have := run_str c ((hr0.below (Below.drew (Below.refl _ _))).take (k := 8) (by omega))
      rwa [hX] at this
    have hl8 : ¬ l.take 8 = hdr.take 8 := fun e => hxy (by rw [e, List.take_of_length_le (l := hdr) (i := len) (by show 8 ≤ _; omega)]; rfl)
    have exy : (X.toList == Y.toList) = false := by rw [← hX, ← hY]; exact sb_ne (fun x hx => hr.lim x (List.mem_of_mem_take hx)) (fun x hx => hdr_lt x (List.mem_of_mem_take hx)) hl8
    have hlt' : 8 < (len : Int) := by omega
    have hln : (8 : Int) ≤ (len : Int) := by omega
    have hlc8 : (8 : Int) ≤ (c : Int) := by omega
    have hgne : g ≠ w.heap.size := by omega
    have HB0 := Lib.hid hb0
    clear hr hr0 p1 p2 hX hY hxy hl8 hb0 hll
    go_enter Try.func28, Try.ntmps28
    go_wp2_with fail
    all_goals
      go_region_held3 (fun wx => wx.cell? ⟨g, 1, none⟩ = some (.slice A len c) ∧ (convert 24 9 (.slice A 8 c)).run Try.prog wx = .ok (.string X) wx) (exact ⟨c1', hs0⟩) (fail)
    all_goals
      go_wp2
      refine bodyPost_ret (v := .tuple #[.int .u8 3, .agg #[.int .u16 0, .slice none 0 0], .int .i64 0]) (by simp [results, Try.results28, go_sem]) rfl ?_
      exact GivesFirst.mk3 HB0.out
set_option maxHeartbeats 1000000 in
theorem first_none (g : Nat) (A : Option Addr) (len c : Nat) (l : List Nat) (t : Value) (w : World) (hg : g < w.heap.size) (c1 : w.cell? ⟨g, 1, none⟩ = some (.slice A len c)) (c3 : w.cell? ⟨g, 3, none⟩ = some t) (cf : ∀ j, w.frozen? ⟨g, j, none⟩ = false) (hr : Rd .u8 256 w w.heap.size A len l) (hlc : len ≤ c) (hlt : len < 8) (hxy : l.take 8 = hdr.take len) :
    Calls Try.prog 28 #[.pointer (some ⟨g, 0, none⟩)] w (GivesFirst 0 g w) := by
    have hb0 : Below w.heap.size w (w.alloc (.cells #[.int .u16 0, .slice none 0 0] 39)) := ba (Below.refl _ _) _
    have hr0 := hr.call hb0
    have c1' := (hb0.cell (p := ⟨g, 1, none⟩) hg).trans c1
    have c3' := (hb0.cell (p := ⟨g, 3, none⟩) hg).trans c3
    have cf' : ∀ j, (w.alloc (.cells #[.int .u16 0, .slice none 0 0] 39)).drew.frozen? ⟨g, j, none⟩ = false := fun j => (World.frozen?_of_block (a := ⟨g, j, none⟩) (hb0.block g hg)).trans (cf j)
    have hll := hr.len
    have hmf : ∀ (fn : Fn) (first cap : Array Value) (w : World), (Instr.makeFunc fn first cap).run Try.prog w = .ok (.func fn first cap) w := fun _ _ _ _ => rfl
    have HX0 := Lib.hid (show BxF (w.alloc (.cells #[.int .u16 0, .slice none 0 0] 39)) w.heap.size 0 none 0 0 from heap_alloc_new w _)
    obtain ⟨p1, p2⟩ := cut_to A len c len (by omega) hlc
    have p1' := fun W => p1 W len rfl
    have p2' := fun W => p2 W len rfl
    obtain ⟨Y, hY⟩ : ∃ Y, sb (hdr.take len) = Y := ⟨_, rfl⟩
    have x1 : ∀ W : World, (Instr.slice 9 (.string ⟨#[65, 77, 81, 80, 0, 1, 0, 0]⟩) none (some (.int .i64 (len : Int))) none).run Try.prog W = .ok (.string Y) W := fun W => by
      rw [run_slice_string_h W 9 _ under9 .i64 (len : Int) (by omega) (by show (len : Int) ≤ 8; omega), ← hY, ← extract_sb len (by omega)]
      rfl
    have x2 : ∀ W : World, (Instr.sliceAt 9 (.string ⟨#[65, 77, 81, 80, 0, 1, 0, 0]⟩) none (some (.int .i64 (len : Int))) none).run Try.prog W = .ok (.string Y) W := fun W => by
      rw [run_sliceAt_string (P := Try.prog) W 9 _ _ _ _ under9]; exact x1 W
    obtain ⟨X, hX⟩ : ∃ X, sb (l.take len) = X := ⟨_, rfl⟩
    have hs0 : (convert 24 9 (.slice A len c)).run Try.prog (w.alloc (.cells #[.int .u16 0, .slice none 0 0] 39)).drew = .ok (.string X) (w.alloc (.cells #[.int .u16 0, .slice none 0 0] 39)).drew := by
      have := run_str c ((hr0.below (Below.drew (Below.refl _ _))).take (k := len) (by omega))
      rwa [hX] at this
    have hl8 : l.take len = hdr.take len := by rw [← hxy, List.take_of_length_le (by omega), List.take_of_length_le (by omega)]
    have exy : (X.toList == Y.toList) = true := by rw [← hX, ← hY, hl8]; simp
    have hlt' : (len : Int) < 8 := by omega
    have hgne : g ≠ w.heap.size := by omega
    have HB0 := Lib.hid hb0
    clear hr hr0 p1 p2 hX hY hxy hl8 hb0 hll
    go_enter Try.func28, Try.ntmps28
    go_wp2_with fail
    all_goals
      go_region_held3 (fun wx => wx.cell? ⟨g, 1, none⟩ = some (.slice A len c) ∧ (convert 24 9 (.slice A len c)).run Try.prog wx = .ok (.string X) wx) (exact ⟨c1', hs0⟩) (fail)
    all_goals
      go_wp2
      refine bodyPost_ret (v := .tuple #[.int .u8 0, .agg #[.int .u16 0, .slice none 0 0], .int .i64 0]) (by simp [results, Try.results28, go_sem]) rfl ?_
      exact GivesFirst.mk0 HB0.out
set_option maxHeartbeats 1000000 in
theorem first_head (g : Nat) (A : Option Addr) (len c : Nat) (l : List Nat) (t : Value) (w : World) (hg : g < w.heap.size) (c1 : w.cell? ⟨g, 1, none⟩ = some (.slice A len c)) (c3 : w.cell? ⟨g, 3, none⟩ = some t) (cf : ∀ j, w.frozen? ⟨g, j, none⟩ = false) (hr : Rd .u8 256 w w.heap.size A len l) (hlc : len ≤ c) (hlt : 8 < len) (hxy : l.take 8 = hdr.take len) :
    Calls Try.prog 28 #[.pointer (some ⟨g, 0, none⟩)] w (GivesFirst 1 g w) := by
    have hb0 : Below w.heap.size w (w.alloc (.cells #[.int .u16 0, .slice none 0 0] 39)) := ba (Below.refl _ _) _
    have hr0 := hr.call hb0
    have c1' := (hb0.cell (p := ⟨g, 1, none⟩) hg).trans c1
    have c3' := (hb0.cell (p := ⟨g, 3, none⟩) hg).trans c3
    have cf' : ∀ j, (w.alloc (.cells #[.int .u16 0, .slice none 0 0] 39)).drew.frozen? ⟨g, j, none⟩ = false := fun j => (World.frozen?_of_block (a := ⟨g, j, none⟩) (hb0.block g hg)).trans (cf j)
    have hll := hr.len
    have hmf : ∀ (fn : Fn) (first cap : Array Value) (w : World), (Instr.makeFunc fn first cap).run Try.prog w = .ok (.func fn first cap) w := fun _ _ _ _ => rfl
    have HX0 := Lib.hid (show BxF (w.alloc (.cells #[.int .u16 0, .slice none 0 0] 39)) w.heap.size 0 none 0 0 from heap_alloc_new w _)
    obtain ⟨p1, p2⟩ := cut_to A len c 8 (by omega) hlc
    have p1' := fun W => p1 W 8 rfl
    have p2' := fun W => p2 W 8 rfl
    obtain ⟨Y, hY⟩ : ∃ Y, sb (hdr.take 8) = Y := ⟨_, rfl⟩
    have x1 : ∀ W : World, (Instr.slice 9 (.string ⟨#[65, 77, 81, 80, 0, 1, 0, 0]⟩) none (some (.int .i64 8)) none).run Try.prog W = .ok (.string Y) W := fun W => by
      rw [run_slice_string_h W 9 _ under9 .i64 8 (by omega) (by show 8 ≤ 8; omega), ← hY, ← extract_sb 8 (by omega)]
      rfl
    have x2 : ∀ W : World, (Instr.sliceAt 9 (.string ⟨#[65, 77, 81, 80, 0, 1, 0, 0]⟩) none (some (.int .i64 8)) none).run Try.prog W = .ok (.string Y) W := fun W => by
      rw [run_sliceAt_string (P := Try.prog) W 9 _ _ _ _ under9]; exact x1 W
    obtain ⟨X, hX⟩ : ∃ X, sb (l.take 8) = X := ⟨_, rfl⟩
    have hs0 : (convert 24 9 (.slice A 8 c)).run Try.prog (w.alloc (.cells #[.int .u16 0, .slice none 0 0] 39)).drew = .ok (.string X) (w.alloc (.cells #[.int .u16 0, .slice none 0 0] 39)).drew := by
      have := run_str c ((hr0.below (Below.drew (Below.refl _ _))).take (k := 8) (by omega))
      rwa [hX] at this
    have hl8 : l.take 8 = hdr.take 8 := by rw [hxy, List.take_of_length_le (by show 8 ≤ _; omega)]; rfl
    have exy : (X.toList == Y.toList) = true := by rw [← hX, ← hY, hl8]; simp
    have hlt' : 8 < (len : Int) := by omega
    have hln : (8 : Int) ≤ (len : Int) := by omega
    have hlc8 : (8 : Int) ≤ (c : Int) := by omega
    have hgne : g ≠ w.heap.size := by omega
    have HB0 := Lib.hid hb0
    clear hr hr0 p1 p2 hX hY hxy hl8 hb0 hll
    go_enter Try.func28, Try.ntmps28
    go_wp2_with fail
    all_goals
      go_region_held3 (fun wx => wx.cell? ⟨g, 1, none⟩ = some (.slice A len c) ∧ (convert 24 9 (.slice A 8 c)).run Try.prog wx = .ok (.string X) wx) (exact ⟨c1', hs0⟩) (fail)
    all_goals
      go_wp2
      refine bodyPost_ret (v := .tuple #[.int .u8 1, .agg #[.int .u16 0, .slice none 0 0], .int .i64 8]) (by simp [results, Try.results28, go_sem]) rfl ?_
      exact GivesFirst.mk1 _ hg
set_option maxHeartbeats 1000000 in
theorem first_head8 (g : Nat) (A : Option Addr) (c : Nat) (l : List Nat) (t : Value) (w : World) (hg : g < w.heap.size) (c1 : w.cell? ⟨g, 1, none⟩ = some (.slice A 8 c)) (c3 : w.cell? ⟨g, 3, none⟩ = some t) (cf : ∀ j, w.frozen? ⟨g, j, none⟩ = false) (hr : Rd .u8 256 w w.heap.size A 8 l) (hlc : 8 ≤ c)  (hxy : l.take 8 = hdr.take 8) :
    Calls Try.prog 28 #[.pointer (some ⟨g, 0, none⟩)] w (GivesFirst 1 g w) := by
    have hb0 : Below w.heap.size w (w.alloc (.cells #[.int .u16 0, .slice none 0 0] 39)) := ba (Below.refl _ _) _
    have hr0 := hr.call hb0
    have c1' := (hb0.cell (p := ⟨g, 1, none⟩) hg).trans c1
    have c3' := (hb0.cell (p := ⟨g, 3, none⟩) hg).trans c3
    have cf' : ∀ j, (w.alloc (.cells #[.int .u16 0, .slice none 0 0] 39)).drew.frozen? ⟨g, j, none⟩ = false := fun j => (World.frozen?_of_block (a := ⟨g, j, none⟩) (hb0.block g hg)).trans (cf j)
    have hll := hr.len
    have hmf : ∀ (fn : Fn) (first cap : Array Value) (w : World), (Instr.makeFunc fn first cap).run Try.prog w = .ok (.func fn first cap) w := fun _ _ _ _ => rfl
    have HX0 := Lib.hid (show BxF (w.alloc (.cells #[.int .u16 0, .slice none 0 0] 39)) w.heap.size 0 none 0 0 from heap_alloc_new w _)
    obtain ⟨p1, p2⟩ := cut_to A 8 c 8 (by omega) hlc
    have p1' := fun W => p1 W 8 rfl
    have p2' := fun W => p2 W 8 rfl
    obtain ⟨Y, hY⟩ : ∃ Y, sb (hdr.take 8) = Y := ⟨_, rfl⟩
    have x1 : ∀ W : World, (Instr.slice 9 (.string ⟨#[65, 77, 81, 80, 0, 1, 0, 0]⟩) none (some (.int .i64 8)) none).run Try.prog W = .ok (.string Y) W := fun W => by
      rw [run_slice_string_h W 9 _ under9 .i64 8 (by omega) (by show 8 ≤ 8; omega), ← hY, ← extract_sb 8 (by omega)]
      rfl
    have x2 : ∀ W : World, (Instr.sliceAt 9 (.string ⟨#[65, 77, 81, 80, 0, 1, 0, 0]⟩) none (some (.int .i64 8)) none).run Try.prog W = .ok (.string Y) W := fun W => by
      rw [run_sliceAt_string (P := Try.prog) W 9 _ _ _ _ under9]; exact x1 W
    obtain ⟨X, hX⟩ : ∃ X, sb (l.take 8) = X := ⟨_, rfl⟩
    have hs0 : (convert 24 9 (.slice A 8 c)).run Try.prog (w.alloc (.cells #[.int .u16 0, .slice none 0 0] 39)).drew = .ok (.string X) (w.alloc (.cells #[.int .u16 0, .slice none 0 0] 39)).drew := by
      have := run_str c ((hr0.below (Below.drew (Below.refl _ _))).take (k := 8) (by omega))
      rwa [hX] at this
    have hl8 : l.take 8 = hdr.take 8 := by exact hxy
    have exy : (X.toList == Y.toList) = true := by rw [← hX, ← hY, hl8]; simp
    have hlc8 : (8 : Int) ≤ (c : Int) := by omega
    have hgne : g ≠ w.heap.size := by omega
    have HB0 := Lib.hid hb0
    clear hr hr0 p1 p2 hX hY hxy hl8 hb0 hll
    go_enter Try.func28, Try.ntmps28
    go_wp2_with fail
    all_goals
      go_region_held3 (fun wx => wx.cell? ⟨g, 1, none⟩ = some (.slice A 8 c) ∧ (convert 24 9 (.slice A 8 c)).run Try.prog wx = .ok (.string X) wx) (exact ⟨c1', hs0⟩) (fail)
    all_goals
      go_wp2
      refine bodyPost_ret (v := .tuple #[.int .u8 1, .agg #[.int .u16 0, .slice none 0 0], .int .i64 8]) (by simp [results, Try.results28, go_sem]) rfl ?_
      exact GivesFirst.mk1 _ hg
end Go.Proofs.Ytdjncacknmejoaa.It
