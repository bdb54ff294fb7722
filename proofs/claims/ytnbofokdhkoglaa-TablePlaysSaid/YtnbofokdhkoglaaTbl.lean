/-
  What of Go's own library the table leans on (maps.Keys, slices.Sorted, slices.Sort at ints), laid by its contracts; then table.All: those that are held, rising, in new memory. Written in part by mk_lay.py. No other condition.
-/
import Derived.Test.YtnbofokdhkoglaaTbc
import Derived.Shelf.SlIterI.Nil
import Derived.Shelf.SortM.Plain
import Derived.Shelf.SortM.SortNone
namespace Go.Proofs.Ytnbofokdhkoglaa.Tb
set_option maxRecDepth 100000
open Go.RowKit Go.Maps Go.Sort Go.Shelf Go.Proofs.Ytnbofokdhkoglaa.Utf

def keysL_ren : Go.Shelf.Ren := ⟨fun | 7 => 27 | 10 => 30 | n => n, fun | 23 => 48 | 26 => 3 | 3 => 53 | 28 => 57 | 0 => 0 | 27 => 56 | 33 => 36 | 4 => 4 | n => n, fun | n => n⟩
theorem keysL : SlLaysZI.n7 Try.prog keysL_ren := {
    mixed := by kernel_rfl
    f7 := ⟨Try.f27.name, by decide, Try.func27.trans (congrArg some (by kernel_rfl))⟩
    f10 := ⟨Try.f30.name, by decide, Try.func30.trans (congrArg some (by kernel_rfl))⟩
    t0 := Try.underlying0
    a0 := Try.isAgg0
    z0 := Try.sizeOf0
    v0 := Try.zeroValue0
    t4 := Try.underlying4
    a4 := Try.isAgg4
    z4 := Try.sizeOf4
    v4 := Try.zeroValue4
    t23 := Try.underlying48
    a23 := Try.isAgg48
    z23 := Try.sizeOf48
    v23 := Try.zeroValue48
    t26 := Try.underlying3
    a26 := Try.isAgg3
    z26 := Try.sizeOf3
    v26 := Try.zeroValue3
    t27 := Try.underlying56
    a27 := Try.isAgg56
    z27 := Try.sizeOf56
    v27 := Try.zeroValue56
    t28 := Try.underlying57
    a28 := Try.isAgg57
    z28 := Try.sizeOf57
    v28 := Try.zeroValue57
    t33 := Try.underlying36
    a33 := Try.isAgg36
    z33 := Try.sizeOf36
    v33 := Try.zeroValue36
  }
def sortedL_ren : Go.Shelf.Ren := ⟨fun | 6 => 26 | 8 => 28 | 9 => 29 | 11 => 31 | 13 => 33 | 12 => 32 | 23 => 43 | 24 => 44 | 14 => 34 | 15 => 35 | 16 => 36 | 17 => 37 | 18 => 38 | 19 => 39 | 20 => 40 | 21 => 41 | 22 => 42 | 25 => 45 | 26 => 46 | 27 => 47 | 28 => 48 | 29 => 49 | 30 => 50 | 31 => 51 | n => n, fun | 26 => 3 | 28 => 57 | 24 => 37 | 0 => 0 | 3 => 3 | 37 => 63 | 48 => 72 | 50 => 74 | 4 => 4 | 40 => 66 | 39 => 65 | 45 => 31 | 5 => 5 | 9 => 9 | 51 => 75 | 55 => 79 | 57 => 81 | 58 => 82 | 33 => 36 | n => n, fun | n => n⟩
theorem sortedL : SlLaysZI.n6 Try.prog sortedL_ren := {
    mixed := by kernel_rfl
    f6 := ⟨Try.f26.name, by decide, Try.func26.trans (congrArg some (by kernel_rfl))⟩
    f8 := ⟨Try.f28.name, by decide, Try.func28.trans (congrArg some (by kernel_rfl))⟩
    f11 := ⟨Try.f31.name, by decide, Try.func31.trans (congrArg some (by kernel_rfl))⟩
    t0 := Try.underlying0
    a0 := Try.isAgg0
    z0 := Try.sizeOf0
    v0 := Try.zeroValue0
    t24 := Try.underlying37
    a24 := Try.isAgg37
    z24 := Try.sizeOf37
    v24 := Try.zeroValue37
    t26 := Try.underlying3
    a26 := Try.isAgg3
    z26 := Try.sizeOf3
    v26 := Try.zeroValue3
    t28 := Try.underlying57
    a28 := Try.isAgg57
    z28 := Try.sizeOf57
    v28 := Try.zeroValue57
    i26 := by kernel_rfl
  }
def sortL_ren : Go.Shelf.Ren := ⟨fun | 5 => 29 | 8 => 33 | 7 => 32 | 19 => 43 | 20 => 44 | 10 => 34 | 11 => 35 | 12 => 36 | 13 => 37 | 14 => 38 | 15 => 39 | 16 => 40 | 17 => 41 | 18 => 42 | 30 => 45 | 31 => 46 | 32 => 47 | 33 => 48 | 34 => 49 | 35 => 50 | 40 => 51 | n => n, fun | 23 => 37 | 25 => 3 | 3 => 3 | 32 => 63 | 22 => 37 | 0 => 0 | 44 => 72 | 46 => 74 | 4 => 4 | 36 => 66 | 35 => 65 | 41 => 31 | 5 => 5 | 9 => 9 | 53 => 75 | 57 => 79 | 63 => 81 | 64 => 82 | n => n, fun | n => n⟩
theorem sortL : SlLaysM.n5 Try.prog sortL_ren := {
    mixed := by kernel_rfl
    f5 := ⟨Try.f29.name, by decide, Try.func29.trans (congrArg some (by kernel_rfl))⟩
    f7 := ⟨Try.f32.name, by decide, Try.func32.trans (congrArg some (by kernel_rfl))⟩
    f8 := Try.func33.trans (congrArg some (by kernel_rfl))
    f10 := ⟨Try.f34.name, by decide, Try.func34.trans (congrArg some (by kernel_rfl))⟩
    f11 := ⟨Try.f35.name, by decide, Try.func35.trans (congrArg some (by kernel_rfl))⟩
    f12 := ⟨Try.f36.name, by decide, Try.func36.trans (congrArg some (by kernel_rfl))⟩
    f13 := ⟨Try.f37.name, by decide, Try.func37.trans (congrArg some (by kernel_rfl))⟩
    f14 := ⟨Try.f38.name, by decide, Try.func38.trans (congrArg some (by kernel_rfl))⟩
    f15 := ⟨Try.f39.name, by decide, Try.func39.trans (congrArg some (by kernel_rfl))⟩
    f16 := ⟨Try.f40.name, by decide, Try.func40.trans (congrArg some (by kernel_rfl))⟩
    f17 := ⟨Try.f41.name, by decide, Try.func41.trans (congrArg some (by kernel_rfl))⟩
    f18 := ⟨Try.f42.name, by decide, Try.func42.trans (congrArg some (by kernel_rfl))⟩
    f19 := Try.func43.trans (congrArg some (by kernel_rfl))
    f20 := Try.func44.trans (congrArg some (by kernel_rfl))
    f30 := ⟨Try.f45.name, by decide, Try.func45.trans (congrArg some (by kernel_rfl))⟩
    f31 := Try.func46.trans (congrArg some (by kernel_rfl))
    f32 := Try.func47.trans (congrArg some (by kernel_rfl))
    f33 := ⟨Try.f48.name, by decide, Try.func48.trans (congrArg some (by kernel_rfl))⟩
    f34 := ⟨Try.f49.name, by decide, Try.func49.trans (congrArg some (by kernel_rfl))⟩
    f35 := ⟨Try.f50.name, by decide, Try.func50.trans (congrArg some (by kernel_rfl))⟩
    f40 := ⟨Try.f51.name, by decide, Try.func51.trans (congrArg some (by kernel_rfl))⟩
    t0 := Try.underlying0
    a0 := Try.isAgg0
    z0 := Try.sizeOf0
    v0 := Try.zeroValue0
    t3 := Try.underlying3
    a3 := Try.isAgg3
    z3 := Try.sizeOf3
    v3 := Try.zeroValue3
    t4 := Try.underlying4
    a4 := Try.isAgg4
    z4 := Try.sizeOf4
    v4 := Try.zeroValue4
    t5 := Try.underlying5
    a5 := Try.isAgg5
    z5 := Try.sizeOf5
    v5 := Try.zeroValue5
    t9 := Try.underlying9
    a9 := Try.isAgg9
    z9 := Try.sizeOf9
    v9 := Try.zeroValue9
    t22 := Try.underlying37
    a22 := Try.isAgg37
    z22 := Try.sizeOf37
    v22 := Try.zeroValue37
    t23 := Try.underlying37
    a23 := Try.isAgg37
    z23 := Try.sizeOf37
    v23 := Try.zeroValue37
    t25 := Try.underlying3
    a25 := Try.isAgg3
    z25 := Try.sizeOf3
    v25 := Try.zeroValue3
    t32 := Try.underlying63
    a32 := Try.isAgg63
    z32 := Try.sizeOf63
    v32 := Try.zeroValue63
    t35 := Try.underlying65
    a35 := Try.isAgg65
    z35 := Try.sizeOf65
    v35 := Try.zeroValue65
    t36 := Try.underlying66
    a36 := Try.isAgg66
    z36 := Try.sizeOf66
    v36 := Try.zeroValue66
    t41 := Try.underlying31
    a41 := Try.isAgg31
    z41 := Try.sizeOf31
    v41 := Try.zeroValue31
    t44 := Try.underlying72
    a44 := Try.isAgg72
    z44 := Try.sizeOf72
    v44 := Try.zeroValue72
    t46 := Try.underlying74
    a46 := Try.isAgg74
    z46 := Try.sizeOf74
    v46 := Try.zeroValue74
    t53 := Try.underlying75
    a53 := Try.isAgg75
    z53 := Try.sizeOf75
    v53 := Try.zeroValue75
    t57 := Try.underlying79
    a57 := Try.isAgg79
    z57 := Try.sizeOf79
    v57 := Try.zeroValue79
    t63 := Try.underlying81
    a63 := Try.isAgg81
    z63 := Try.sizeOf81
    v63 := Try.zeroValue81
    t64 := Try.underlying82
    a64 := Try.isAgg82
    z64 := Try.sizeOf82
    v64 := Try.zeroValue82
  }

/-- slices.Sort's two contracts, at the fence that asks nothing. -/
theorem sorts (m : Nat) : AnyZI.SortsIn Try.prog sortedL_ren Fence.wide m :=
  ⟨fun blk off cap ss W hH hblk hsz => callsIn_wide.2 (AnyM.slices_Sort_int sortL blk off cap ss W hH hblk hsz),
   fun p cap W => callsIn_wide.2 (AnyM.slices_Sort_int_none sortL p cap W)⟩
theorem nil_all (w : World) : Calls Try.prog 17 #[.pointer none] w fun e w' => e = .returned (.slice none 0 0) ∧ w = w' := by
  go_enter Try.func17, Try.ntmps17
  go_wp2
  go_ret
  exact ⟨rfl, rfl⟩
def GivesAll (L : List Bool) (w : World) (e : Ending) (w' : World) : Prop := ∃ v, e = .returned v ∧ w'.ownsRow w.heap.size 3 1 v (allT L).length ((intT L).map encZ) ∧ Below w.heap.size w w'
set_option maxHeartbeats 1000000 in
theorem all_any {p b : Nat} {L : List Bool} (w : World) (t : Tin w p b L) : Calls Try.prog 17 #[.pointer (some ⟨p, 0, none⟩)] w (GivesAll L w) := by
  obtain ⟨lo, D0, n, x0, x1, x2, hown, hn, hf⟩ := t.all
  have hperm := keys_of hown hf.out.2.2
  have hsize := size_of hown hf.out.2.2
  have hal := all_len L
  have hhi := t.hi
  have hmax : Go.Maps.size D0 ≤ maxLen := by unfold maxLen; omega
  have hbytes : Go.Maps.size D0 * 8 ≤ 140737488355328 := by omega
  refine (callsIn_wide (n := 6)).1 ?_
  have hbl := hown.lt
  have hseq : SeqGives Fence.wide 2 Try.prog 30 #[.pointer (some ⟨w.heap.size, 0, none⟩)] encZ (fun ss => ss.Perm (intKeys D0)) (Go.Maps.size D0) (w.alloc (.cells #[.map (some b)] 48)) :=
    AnyZI.keys_gives (ρ := keysL_ren) { keysL with } Fence.wide _ trivial rfl (by omega) w.heap.size b n D0 _ (by simp) (by simp) (by
      obtain ⟨es, clock, hb, Ft, hs, hD⟩ := hown
      exact ⟨es, clock, (Below.heap_alloc _ _ b hbl).trans hb, Ft, hs, hD⟩)
  have cK : ∀ mb W, CallsIn Fence.wide 5 Try.prog 27 #[.map mb] W fun e w' => e = .returned (.func (.func 30) #[] #[.pointer (some ⟨W.heap.size, 0, none⟩)]) ∧ w' = W.alloc (.cells #[.map mb] 48) := fun mb W => AnyZI.keys_in keysL Fence.wide 5 trivial rfl mb W
  have cS := AnyZI.sorted_in sortedL Fence.wide 5 trivial trivial trivial trivial rfl (by omega) (sorts _) (enters_of Try.func29 (by kernel_rfl) rfl) 30 #[.pointer (some ⟨w.heap.size, 0, none⟩)] trivial (enters_of Try.func30 (by kernel_rfl) rfl) _ _ hmax hbytes _ hseq
  change CallsIn _ _ Try.prog 26 _ _ _ at cS
  have hfK : Fence.wide.fn 27 := trivial
  have hfS : Fence.wide.fn 26 := trivial
  have HP := Lib.hid hperm
  clear hperm hsize hal hhi hmax hbytes hf t x0 x2 hn hseq
  refine callsIn_of_wp Try.func17 rfl trivial ?_ rfl
  simp only [Try.ntmps17, List.size_toArray, List.length_cons, List.length_nil, Nat.reduceAdd, Nat.reduceSub, Array.replicate_succ, Array.replicate_zero, List.push_toArray, List.append_toArray, List.nil_append, List.cons_append]
  gi_wp2_with (first
    | (gi_at_call 27; refine (cK _ _).mono ?_; rintro e w' ⟨rfl, rfl⟩)
    | (gi_at_call 26; refine cS.mono ?_; rintro e w' ⟨v, ss, rfl, hS, hrow, hnil, hb⟩))
  go_ret
  have hs : ss.mergeSort (fun x y => decide (x ≤ y)) = intT L := by
    have h1 := mergeSort_of_perm_i (hS.trans HP.out.symm)
    rw [int_sort] at h1
    exact h1
  have hl : ss.length = (allT L).length := by
    have := (hS.trans HP.out.symm).length_eq
    rw [int_len] at this
    exact this
  rw [hs, hl] at hrow
  exact ⟨v, rfl, ownsRow_base_a hrow (by simp), ((Below.refl _ w).alloc (Nat.le_refl _) _).trans (hb.mono (by simp))⟩
end Go.Proofs.Ytnbofokdhkoglaa.Tb
