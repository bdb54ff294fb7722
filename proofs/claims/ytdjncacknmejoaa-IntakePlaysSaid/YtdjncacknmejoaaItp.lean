/-
  Contracts of package intake, second part: New, Put. Memory that was there stays, but for the intake's own two blocks. No other condition.
-/
import Derived.Test.YtdjncacknmejoaaIta
namespace Go.Proofs.Ytdjncacknmejoaa.It
set_option maxRecDepth 100000
open Go.RowKit Go.Proofs.Ytdjncacknmejoaa.Utf Go.Proofs.Ytdjncacknmejoaa.Enc Go.Proofs.Ytdjncacknmejoaa.Fr

theorem new_no (m : Nat) (w : World) (hm : m < 4294967296) (h : ¬ (512 ≤ m ∧ m ≤ 4096)) : Calls Try.prog 11 #[.int .u32 (m : Int)] w fun e w' => e = .returned (.tuple #[.pointer none, .int .i64 1]) ∧ w = w' := by
  by_cases h1 : m < 512
  · have d1 : decide ((m : Int) < 512) = true := by simp; omega
    clear h h1
    go_enter Try.func11, Try.ntmps11
    go_wp2
    refine bodyPost_ret (v := .tuple #[.pointer none, .int .i64 1]) (by simp [results, Try.results11, go_sem]) rfl ?_
    exact ⟨rfl, rfl⟩
  · have d1 : decide ((m : Int) < 512) = false := by simp; omega
    have d2 : decide (4096 < (m : Int)) = true := by simp; omega
    clear h h1
    go_enter Try.func11, Try.ntmps11
    go_wp2
    refine bodyPost_ret (v := .tuple #[.pointer none, .int .i64 1]) (by simp [results, Try.results11, go_sem]) rfl ?_
    exact ⟨rfl, rfl⟩
def GivesNew (m : Nat) (w : World) (e : Ending) (w' : World) : Prop := ∃ g h, e = .returned (.tuple #[.pointer (some ⟨g, 0, none⟩), .int .i64 0]) ∧ In w' g h ⟨m, [], false, false⟩ ∧ w.heap.size ≤ g ∧ w.heap.size ≤ h ∧ Below w.heap.size w w'
set_option maxHeartbeats 1000000 in
theorem new_yes (m : Nat) (w : World) (h1 : 512 ≤ m) (h2 : m ≤ 4096) : Calls Try.prog 11 #[.int .u32 (m : Int)] w (GivesNew m w) := by
  have d1 : decide ((m : Int) < 512) = false := by simp; omega
  have d2 : decide (4096 < (m : Int)) = false := by simp; omega
  obtain ⟨i0, hi, hz0, hz1, hz2⟩ := info_parts info5
  have hmf : ∀ (fn : Fn) (first cap : Array Value) (w : World), (Instr.makeFunc fn first cap).run Try.prog w = .ok (.func fn first cap) w := fun _ _ _ _ => rfl
  have hx0 : (w.alloc (.cells #[.int .u32 (m : Int), .slice none 0 0, .bool false, .nilFunc] 62)).heap[w.heap.size]? = some (.cells #[.int .u32 (m : Int), .slice none 0 0, .bool false, .nilFunc] 62 (0, 0)) := heap_alloc_new w _
  have hb0 : Below w.heap.size w (w.alloc (.cells #[.int .u32 (m : Int), .slice none 0 0, .bool false, .nilFunc] 62)) := ba (Below.refl _ _) _
  have hr0 := room_raw w.heap.size m 0 0 none false (w.alloc (.cells #[.int .u32 (m : Int), .slice none 0 0, .bool false, .nilFunc] 62)) h2 (by omega) (cell_of_row _ _ 0 _ _ _ hx0) (cell_of_row _ _ 1 _ _ _ hx0) (cell_of_row _ _ 2 _ _ _ hx0)
  simp only [Bool.false_eq_true, if_false, Nat.sub_zero] at hr0
  have hgl : w.heap.size < (w.alloc (.cells #[.int .u32 (m : Int), .slice none 0 0, .bool false, .nilFunc] 62)).heap.size := by simp
  obtain ⟨M, hM⟩ : ∃ M, m + 8 = M := ⟨_, rfl⟩
  rw [hM] at hr0
  have HX0 := Lib.hid hx0
  have HB0 := Lib.hid hb0
  have HR0 := Lib.hid hr0
  have HM := Lib.hid hM
  have hMl : M ≤ 4104 := by omega
  clear hx0 hb0 hr0 hM
  go_enter Try.func11, Try.ntmps11
  go_wp2_with fail
  obtain ⟨W0, hW0⟩ : ∃ W0, w.alloc (.cells #[.int .u32 (m : Int), .slice none 0 0, .bool false, .nilFunc] 62) = W0 := ⟨_, rfl⟩
  rw [hW0] at HX0 HB0 HR0 hgl ⊢
  generalize hg : w.heap.size = g at *
  (with_reducible refine HR0.out.mono ?_)
  rintro e w1 ⟨rfl, hb1⟩
  have hx1 := (hb1.block g hgl).trans HX0.out
  have hb01 := HB0.out.trans (hb1.mono (show g ≤ W0.heap.size by omega))
  have hgl1 : g < w1.heap.size := (Array.getElem?_eq_some_iff.1 hx1).1
  have HX1 := Lib.hid hx1
  have HB1 := Lib.hid hb01
  clear hb1 hx1 hb01 HR0 HX0 HB0 hW0
  go_wp2_with (first
    | (refine wpList_make_nb w1 rfl _ _ 24 rfl w1.heap.size i0 Try.underlying24 hi hz0 (M := 256) (by omega) hz1 .i64 .i64 (M : Int) M rfl rfl rfl (by rw [hz2]; omega) (by unfold maxLen; omega) (Nat.le_refl _) ?_; intro w2 ho2 hg2; have hx2 := (hg2.block g hgl1 (by simp)).trans HX1.out; have k1 := cell_of_row w2 g 1 _ _ _ hx2; have k3 := cell_of_row w2 g 3 _ _ _ hx2; have kf : ∀ j, w2.frozen? ⟨g, j, none⟩ = false := fun j => (by simp [World.frozen?, hx2]))
    | fail)
  refine bodyPost_ret (v := .tuple #[.pointer (some ⟨g, 0, none⟩), .int .i64 0]) (by simp [results, Try.results11, go_sem]) rfl ?_
  have hne : g ≠ w1.heap.size := by omega
  have hall := Apt.own_all ho2
  rcases hall with ⟨e, _⟩ | ⟨h, R, e, hR, hRl, hRlim⟩
  · cases e
  injection e with e
  injection e with e _
  subst e
  have hgl2 : g < w2.heap.size := (Array.getElem?_eq_some_iff.1 hx2).1
  have hobj : ((w2.setCell ⟨g, 1, none⟩ (.slice (some ⟨w1.heap.size, 0, none⟩) 0 M)).setCell ⟨g, 3, none⟩ (.func (.func 28) #[.pointer (some ⟨g, 0, none⟩)] #[])).heap[g]? = some (.cells #[.int .u32 (m : Int), .slice (some ⟨w1.heap.size, 0, none⟩) 0 M, .bool false, .func (.func 28) #[.pointer (some ⟨g, 0, none⟩)] #[]] 62 (0, 0)) := by
    simp [World.setCell, Array.getElem?_modify, hx2]
  have hoth : ((w2.setCell ⟨g, 1, none⟩ (.slice (some ⟨w1.heap.size, 0, none⟩) 0 M)).setCell ⟨g, 3, none⟩ (.func (.func 28) #[.pointer (some ⟨g, 0, none⟩)] #[])).heap[w1.heap.size]? = w2.heap[w1.heap.size]? := by
    rw [Below.heap_setCell _ _ _ _ (by show w1.heap.size ≠ g; omega), Below.heap_setCell _ _ _ _ (by show w1.heap.size ≠ g; omega)]
  have hbl : Below g w w2 := HB1.out.grown hg2 (by omega) (fun k hk => by cases hk)
  refine ⟨g, w1.heap.size, rfl, ⟨new_ok h1 h2, ?_, fun _ => ⟨R, ⟨hoth.trans hR, hRlim⟩, ?_, by simp⟩, hne, ?_⟩, by omega, by omega, ?_⟩
  · rw [hobj, ← HM.out]
    rfl
  · rw [hRl, ← HM.out]
  · have := (Array.getElem?_eq_some_iff.1 hR).1
    simpa using this
  · rw [hg]
    exact (hbl.setCell (Nat.le_refl _) _).setCell (Nat.le_refl _) _
end Go.Proofs.Ytdjncacknmejoaa.It
