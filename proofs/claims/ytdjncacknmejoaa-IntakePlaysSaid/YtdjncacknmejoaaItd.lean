/-
  Contract of slices.Delete at bytes, from the beginning: the first so many go. Memory that was there stays, but for the row's own block. No other condition.
-/
import Derived.Test.YtdjncacknmejoaaIta
namespace Go.Proofs.Ytdjncacknmejoaa.It
set_option maxRecDepth 100000
open Go.RowKit Go.Proofs.Ytdjncacknmejoaa.Utf Go.Proofs.Ytdjncacknmejoaa.Enc Go.Proofs.Ytdjncacknmejoaa.Fr

def GivesDel (h n c k : Nat) (R : List Nat) (w : World) (e : Ending) (w' : World) : Prop :=
  ∃ R', e = .returned (.slice (some ⟨h, 0, none⟩) (n - k) c) ∧ Blk w' h R' ∧ R'.length = R.length ∧ R'.take (n - k) = (R.take n).drop k ∧ Off (fun i => i = h) w w'
theorem replicate_vs (k : Nat) : List.replicate k (Value.int .u8 0) = vs .u8 (List.replicate k 0) := by simp [vs]
theorem zero_u8 (w : World) : (zeroValue 5).run Try.prog w = .ok (.int .u8 0) w := by
  obtain ⟨i0, hi, hz0, hz1, hz2⟩ := info_parts info5
  simp [zeroValue, typeInfo, hi, hz0]
set_option maxHeartbeats 1000000 in
theorem del_any (h n c k : Nat) (R : List Nat) (w : World) (b : Blk w h R) (hc : c ≤ R.length) (hn : n ≤ c) (hk : k ≤ n) :
    Calls Try.prog 30 #[.slice (some ⟨h, 0, none⟩) n c, .int .i64 0, .int .i64 (k : Int)] w (GivesDel h n c k R w) := by
  by_cases hk0 : k = 0
  · subst hk0
    have HB := Lib.hid b
    clear b
    go_enter Try.func30, Try.ntmps30
    go_wp2
    go_ret
    exact ⟨R, rfl, HB.out, rfl, by simp, Off.refl _ _⟩
  · obtain ⟨A1, c1, hc1, hc1', q1, q2, hcut⟩ := cut_from (some ⟨h, 0, none⟩) n c k hk hn
    have q1' := fun W => q1 W k rfl
    have q2' := fun W => q2 W k rfl
    obtain ⟨p1, p2⟩ := cut_to (some ⟨h, 0, none⟩) n c 0 (by omega) hn
    have p1' := fun W => p1 W 0 rfl
    have p2' := fun W => p2 W 0 rfl
    have hr0 := b.rd (o := 0) (n := n) (B := w.heap.size) (by omega) b.lt
    rw [List.drop_zero] at hr0
    have hr1 := hcut _ _ _ hr0
    obtain ⟨m, hm⟩ : ∃ m, n - k = m := ⟨_, rfl⟩
    obtain ⟨l, hl⟩ : ∃ l, (R.take n).drop k = l := ⟨_, rfl⟩
    rw [hm] at q1' q2' hr1 hc1
    rw [hl] at hr1
    have HL := Lib.hid hl
    have hll := hr1.len
    have hmn : m < n := by omega
    obtain ⟨d, hd⟩ : ∃ d, n - m = d := ⟨_, rfl⟩
    have e0 : ((0 : Int) == (k : Int)) = false := by simp; omega
    have HB := Lib.hid b
    have HR1 := Lib.hid hr1
    have hd0 : 0 < d := by omega
    have r1 : ∀ W : World, (Instr.slice 24 (.slice (some ⟨h, 0, none⟩) m c) (some (.int .i64 (m : Int))) (some (.int .i64 (n : Int))) none).run Try.prog W = .ok (.slice (some ⟨h, m, none⟩) d (c - m)) W := fun W => by
      rw [run_slice_lh (P := Try.prog) (w := W) 24 (some ⟨h, 0, none⟩) m c under22 .i64 .i64 (m : Int) (n : Int) (by omega) (by omega) (by omega), elem22, size5]
      simp only [Result.andThen, sliced, Int.toNat_natCast, Nat.mul_one, hd]
      rw [if_neg (by omega)]
      simp [Addr.add_lit]
    have r2 : ∀ W : World, (Instr.sliceAt 24 (.slice (some ⟨h, 0, none⟩) m c) (some (.int .i64 (m : Int))) (some (.int .i64 (n : Int))) none).run Try.prog W = .ok (.slice (some ⟨h, m, none⟩) d (c - m)) W := fun W => by
      rw [run_sliceAt_slice (P := Try.prog) (w := W) 24 _ _ _ _ under22]; exact r1 W
    clear b hr0 hr1 hcut q1 q2 p1 p2 hl
    go_enter Try.func30, Try.ntmps30
    go_wp2_with fail
    go_region_held3 (fun _ => True) (trivial)
      (first
        | (refine step_room8 (l := l) (off := 0) (n := 0) rfl _ _ rfl rfl (Blk.off HB.out (X := fun _ => False) (Off.drew (Off.refl _ _)) (fun h => h)) rfl (Rd.below HR1.out (Below.drew (Below.refl _ _))) (by omega) (by omega) ?_; intro w2 hb2 ho2)
        | fail)
    have hlen2 : (splice R (0 + 0) l).length = R.length := length_splice R _ l (by omega)
    have hcl : ∀ ty, (Builtin.clear_ #[24] ty #[.slice (some ⟨h, m, none⟩) d (c - m)]).run Try.prog w2 = .ok (.tuple #[]) (w2.setCells h m (List.replicate d (.int .u8 0))) := fun ty =>
      Lib.run_clear_slice w2 _ _ ty _ Try.underlying24 zero_u8 rfl rfl h m d (c - m) hd0 (fun j hj => by rw [hb2.cell (y := (splice R (0 + 0) l)[m + j]'(by omega)) (List.getElem?_eq_getElem _)]; rfl) (fun j hj => hb2.frz _)
    have hb3 := hb2.sets (k := m) (List.replicate d 0) (fun x hx => by rw [List.eq_of_mem_replicate hx]; omega) (by rw [List.length_replicate]; omega)
    rw [← replicate_vs] at hb3
    have ho3 : Off (fun i => i = h) w (w2.setCells h m (List.replicate d (.int .u8 0))) := ((Off.drew (Off.refl _ _)).trans ho2).trans (Off.sets (X := fun i => i = h) (g := h) rfl _ _ _)
    have HB3 := Lib.hid hb3
    have HO3 := Lib.hid ho3
    have hlen3 : (splice (splice R (0 + 0) l) m (List.replicate d 0)).length = R.length := by rw [length_splice _ _ _ (by rw [List.length_replicate]; omega), hlen2]
    have htk : (splice (splice R (0 + 0) l) m (List.replicate d 0)).take m = l := by
      unfold splice
      rw [List.take_append_of_le_length (by rw [List.length_take]; simp; omega), List.take_take, Nat.min_self]
      simp only [Nat.add_zero, List.take_zero, List.nil_append]
      rw [List.take_append_of_le_length (by omega), List.take_of_length_le (by omega)]
    have HT := Lib.hid htk
    have HN := Lib.hid hlen3
    clear hb2 ho2 hb3 ho3 htk hlen3 hlen2
    go_wp2
    go_ret
    exact ⟨_, by rw [hm]; rfl, HB3.out, HN.out, by rw [hm, HL.out]; exact HT.out, HO3.out⟩
end Go.Proofs.Ytdjncacknmejoaa.It
