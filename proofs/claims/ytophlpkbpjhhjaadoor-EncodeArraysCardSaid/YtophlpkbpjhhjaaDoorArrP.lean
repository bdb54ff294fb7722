/-
  Arrays of numbers, and of numbers that are called something: what they lay. Plain mathematics. Condition: at most 200 numbers, of 64 bits.
-/
import Derived.Test.YtophlpkbpjhhjaaDoorNumW
namespace Go.Proofs.YtophlpkbpjhhjaaDoor.encodeArrays
set_option maxRecDepth 100000
open Go.RowKit Go.Proofs.YtophlpkbpjhhjaaDoor.Utf Go.Proofs.YtophlpkbpjhhjaaDoor.Val Go.Proofs.YtophlpkbpjhhjaaDoor.Enc V encodeNumbers

theorem size_le {k n : Nat} (h : 3 ≤ k ∧ k ≤ 14) : sizeN k n ≤ 8 := by
  have : k = 3 ∨ k = 4 ∨ k = 5 ∨ k = 6 ∨ k = 7 ∨ k = 8 ∨ k = 9 ∨ k = 10 ∨ k = 11 ∨ k = 12 ∨ k = 13 ∨ k = 14 := by omega
  unfold sizeN
  split
  · omega
  · split
    · omega
    · rcases this with rfl | rfl | rfl | rfl | rfl | rfl | rfl | rfl | rfl | rfl | rfl | rfl <;> simp [baseN]
def numV (K n : Nat) : V := .mk K n ⟨#[]⟩ []
def desV (K name n : Nat) : V := .mk 25 0 ⟨#[]⟩ [.mk 6 name ⟨#[]⟩ [], numV K n]
def numsL (K : Nat) (l : List Nat) : List V := l.map (numV K)
def dessL (K name : Nat) (l : List Nat) : List V := l.map (desV K name)
/-- The greatest number of bytes. -/
def mx (K : Nat) (l : List Nat) : Nat := l.foldl (fun a n => max a (sizeN K n)) 0
theorem mx_snoc (K : Nat) (l : List Nat) (n : Nat) : mx K (l ++ [n]) = max (mx K l) (sizeN K n) := by simp [mx]
theorem fold_le (K b : Nat) : ∀ (l : List Nat) (a : Nat), l.foldl (fun a n => max a (sizeN K n)) a ≤ b ↔ a ≤ b ∧ ∀ n ∈ l, sizeN K n ≤ b
  | [], a => by simp
  | x :: l, a => by
    rw [List.foldl_cons, fold_le K b l, Nat.max_le]
    simp only [List.mem_cons, forall_eq_or_imp, and_assoc]
theorem mx_le (K b : Nat) (l : List Nat) : mx K l ≤ b ↔ ∀ n ∈ l, sizeN K n ≤ b := by rw [mx, fold_le]; simp
theorem mx_ge (K : Nat) (l : List Nat) {n : Nat} (h : n ∈ l) : sizeN K n ≤ mx K l := (mx_le K _ l).1 (Nat.le_refl _) n h

theorem can_num_all (f : Enc.Can) (K : Nat) (l : List Nat) : (numsL K l).all (fun v => can f (rawv v)) = l.all fun n => can f (rawv (numV K n)) := by simp [numsL, List.all_map, Function.comp_def]
/-- The code of an array of numbers has the width of the one that needs the most. -/
theorem pick_mx {K : Nat} (hK : 3 ≤ K ∧ K ≤ 14) (l : List Nat) (h0 : l ≠ []) (hn : ∀ n ∈ l, n < 18446744073709551616) (ps : List Pl) (hps : ∀ f, ps.all (can f) = l.all fun n => can f (rawv (numV K n))) : wid (pick (chs K) ps) = mx K l := by
  obtain ⟨x, hx⟩ : ∃ x, x ∈ l := List.exists_mem_of_ne_nil l h0
  have hall : ∀ (m : Nat), (∀ n ∈ l, sizeN K n ≤ m) → (∃ n ∈ l, m ≤ sizeN K n) → mx K l = m := fun m h1 ⟨n, h2, h3⟩ => Nat.le_antisymm ((mx_le K m l).2 h1) (Nat.le_trans h3 (mx_ge K l h2))
  have hone : ∀ c, chs K = [(c, .all)] → wid c = baseN K → K ≠ 5 → K ≠ 6 → K ≠ 9 → K ≠ 10 → wid (pick (chs K) ps) = mx K l := fun c hc hw h5 h6 h9 h10 => by
    have hs : ∀ n, sizeN K n = baseN K := fun n => by unfold sizeN; rw [if_neg (by omega), if_neg (by omega)]
    rw [hc, hall (baseN K) (fun n _ => by rw [hs]; exact Nat.le_refl _) ⟨x, hx, by rw [hs]; exact Nat.le_refl _⟩]
    simp [pick, hps, can, hw]
  have hthree : ∀ c0 c1 c2, chs K = [(c0, .just 0), (c1, .upto 255), (c2, .all)] → (K = 5 ∨ K = 6) → wid c0 = 0 → wid c1 = 1 → wid c2 = baseN K → 1 < baseN K → wid (pick (chs K) ps) = mx K l := fun c0 c1 c2 hc h56 w0 w1 w2 hb => by
    rw [hc]
    simp only [pick, hps]
    have hA : (l.all fun n => can (.just 0) (rawv (numV K n))) = l.all fun n => decide (n = 0) := rfl
    have hB : (l.all fun n => can (.upto 255) (rawv (numV K n))) = l.all fun n => decide (n ≤ 255) := rfl
    have hC : (l.all fun n => can .all (rawv (numV K n))) = true := by simp [can]
    rw [hA, hB, hC]
    by_cases hz : (l.all fun n => decide (n = 0)) = true
    · rw [if_pos hz, w0]
      simp only [List.all_eq_true, decide_eq_true_eq] at hz
      exact (hall 0 (fun n h => by rw [sizeN, if_pos ⟨h56, hz n h⟩]; exact Nat.le_refl _) ⟨x, hx, Nat.zero_le _⟩).symm
    · rw [if_neg hz]
      simp only [List.all_eq_true, decide_eq_true_eq] at hz
      obtain ⟨y, hy, hy0⟩ : ∃ y ∈ l, y ≠ 0 := by
        refine Classical.byContradiction fun h => hz fun n hn => Classical.byContradiction fun h1 => h ⟨n, hn, h1⟩
      by_cases hu : (l.all fun n => decide (n ≤ 255)) = true
      · rw [if_pos hu, w1]
        simp only [List.all_eq_true, decide_eq_true_eq] at hu
        refine (hall 1 (fun n h => ?_) ⟨y, hy, ?_⟩).symm
        · have := hu n h
          unfold sizeN
          split
          · omega
          · rw [if_pos (.inl ⟨h56, by omega⟩)]
            exact Nat.le_refl _
        · have := hu y hy
          rw [sizeN, if_neg (by omega), if_pos (.inl ⟨h56, by omega⟩)]
          exact Nat.le_refl _
      · rw [if_neg hu, if_pos rfl, w2]
        simp only [List.all_eq_true, decide_eq_true_eq] at hu
        obtain ⟨z, hz1, hz2⟩ : ∃ z ∈ l, ¬ z ≤ 255 := by
          refine Classical.byContradiction fun h => hu fun n hn => Classical.byContradiction fun h1 => h ⟨n, hn, h1⟩
        refine (hall (baseN K) (fun n h => ?_) ⟨z, hz1, ?_⟩).symm
        · unfold sizeN
          split
          · omega
          · split <;> omega
        · rw [sizeN, if_neg (by omega), if_neg (by omega)]
          exact Nat.le_refl _
  have htwo : ∀ c0 c1, chs K = [(c0, .near), (c1, .all)] → (K = 9 ∨ K = 10) → wid c0 = 1 → wid c1 = baseN K → 1 < baseN K → wid (pick (chs K) ps) = mx K l := fun c0 c1 hc h9 w0 w1 hb => by
    rw [hc]
    simp only [pick, hps]
    have hA : (l.all fun n => can .near (rawv (numV K n))) = l.all fun n => decide (n = sg1 n) := rfl
    have hC : (l.all fun n => can .all (rawv (numV K n))) = true := by simp [can]
    rw [hA, hC]
    by_cases hz : (l.all fun n => decide (n = sg1 n)) = true
    · rw [if_pos hz, w0]
      simp only [List.all_eq_true, decide_eq_true_eq] at hz
      have hs : ∀ n ∈ l, sizeN K n = 1 := fun n h => by
        have := (near_iff (hn n h)).1 (hz n h)
        rw [sizeN, if_neg (by omega), if_pos (.inr ⟨h9, this⟩)]
      exact (hall 1 (fun n h => by rw [hs n h]; exact Nat.le_refl _) ⟨x, hx, by rw [hs x hx]; exact Nat.le_refl _⟩).symm
    · rw [if_neg hz, if_pos rfl, w1]
      simp only [List.all_eq_true, decide_eq_true_eq] at hz
      obtain ⟨y, hy, hy0⟩ : ∃ y ∈ l, y ≠ sg1 y := by
        refine Classical.byContradiction fun h => hz fun n hn => Classical.byContradiction fun h1 => h ⟨n, hn, h1⟩
      refine (hall (baseN K) (fun n h => ?_) ⟨y, hy, ?_⟩).symm
      · unfold sizeN
        split
        · omega
        · split <;> omega
      · have : ¬ (y < 128 ∨ 18446744073709551488 ≤ y) := fun h => hy0 ((near_iff (hn y hy)).2 h)
        rw [sizeN, if_neg (by omega), if_neg (by omega)]
        exact Nat.le_refl _
  have : K = 3 ∨ K = 4 ∨ K = 5 ∨ K = 6 ∨ K = 7 ∨ K = 8 ∨ K = 9 ∨ K = 10 ∨ K = 11 ∨ K = 12 ∨ K = 13 ∨ K = 14 := by omega
  rcases this with rfl | rfl | rfl | rfl | rfl | rfl | rfl | rfl | rfl | rfl | rfl | rfl <;>
    first
      | exact hone _ rfl (by decide) (by decide) (by decide) (by decide) (by decide)
      | exact hthree _ _ _ rfl (by decide) (by decide) (by decide) (by decide) (by decide)
      | exact htwo _ _ rfl (by decide) (by decide) (by decide) (by decide)

section
variable {K name : Nat} {l : List Nat}
theorem num_may {n : Nat} (h : okB (numV K n) = true) : mayB (numV K n) = true := ok_may h
theorem raw_num (hK : 3 ≤ K ∧ K ≤ 14) (n : Nat) : rawv (numV K n) = .mk [] K n ⟨#[]⟩ 0 false [] 0 0 := by
  rw [numV, rawv, kp, if_neg (by omega)]
  rfl
theorem plan_num (hK : 3 ≤ K ∧ K ≤ 14) (n : Nat) : plan (numV K n) = .mk [] K n ⟨#[]⟩ (first [rawv (numV K n)]) false [] 0 0 := by
  rw [raw_num hK, numV, plan_core n _ [] (by omega), if_neg (by omega), planL, fin]
  rfl
theorem plan_des (hK : 3 ≤ K ∧ K ≤ 14) (n : Nat) : plan (desV K name n) = .mk [plan (numV 6 name)] K n ⟨#[]⟩ (first [rawv (numV K n)]) false [] 0 0 := by
  rw [desV, plan_desc, plan_num hK]
  rfl
theorem can_num (f : Enc.Can) (hK : 3 ≤ K ∧ K ≤ 14) (n : Nat) : can f (plan (numV K n)) = can f (rawv (numV K n)) := by
  rw [plan_num hK, raw_num hK]
  exact can_names _ _ _ _ _ _ _ _ _ _ _ _ _ _
theorem can_des (f : Enc.Can) (hK : 3 ≤ K ∧ K ≤ 14) (n : Nat) : can f (plan (desV K name n)) = can f (rawv (numV K n)) := by
  rw [plan_des hK, raw_num hK]
  exact can_names _ _ _ _ _ _ _ _ _ _ _ _ _ _
theorem all_nums (f : Enc.Can) (hK : 3 ≤ K ∧ K ≤ 14) (l : List Nat) : (planL (numsL K l)).all (can f) = l.all fun n => can f (rawv (numV K n)) := by
  rw [planL_map, numsL, List.map_map, List.all_map]
  congr 1
  funext n
  exact can_num f hK n
theorem all_dess (f : Enc.Can) (hK : 3 ≤ K ∧ K ≤ 14) (l : List Nat) : (planL (dessL K name l)).all (can f) = l.all fun n => can f (rawv (numV K n)) := by
  rw [planL_map, dessL, List.map_map, List.all_map]
  congr 1
  funext n
  exact can_des f hK n
theorem pick_ext : ∀ (cs : List (Nat × Enc.Can)) (ps qs : List Pl), (∀ f, ps.all (can f) = qs.all (can f)) → pick cs ps = pick cs qs
  | [], _, _, _ => rfl
  | (c, f) :: r, ps, qs, h => by simp only [pick, h f, pick_ext r ps qs h]
theorem first_nums (hK : 3 ≤ K ∧ K ≤ 14) (h0 : l ≠ []) : first (planL (numsL K l)) = pick (chs K) (planL (numsL K l)) := by
  cases l with
  | nil => exact absurd rfl h0
  | cons x r => simp only [numsL, List.map_cons, planL, first, plan_num hK, Pl.kind]
theorem first_dess (hK : 3 ≤ K ∧ K ≤ 14) (h0 : l ≠ []) : first (planL (dessL K name l)) = first (planL (numsL K l)) := by
  rw [first_nums hK h0, ← pick_ext (chs K) (planL (dessL K name l)) (planL (numsL K l)) fun f => by rw [all_nums f hK, all_dess f hK]]
  cases l with
  | nil => exact absurd rfl h0
  | cons x r => simp only [dessL, List.map_cons, planL, first, plan_des hK, Pl.kind]
theorem wid_nums (hK : 3 ≤ K ∧ K ≤ 14) (h0 : l ≠ []) (hn : ∀ n ∈ l, n < 18446744073709551616) : wid (first (planL (numsL K l))) = mx K l := by
  rw [first_nums hK h0]
  exact pick_mx hK l h0 hn _ fun f => all_nums f hK l

/-- The bytes of numbers, of so many each. -/
def tail (W : Nat) : List Nat → List Nat
  | [] => []
  | n :: r => be n W ++ tail W r
theorem tail_length (W : Nat) : ∀ l, (tail W l).length = W * l.length
  | [] => by simp [tail]
  | n :: r => by rw [tail, List.length_append, be_length, tail_length W r, List.length_cons, Nat.mul_add]; omega
theorem dat_num (hK : 3 ≤ K ∧ K ≤ 14) (c n : Nat) : dat c (numV K n) = be n (wid c) := by
  simp only [numV, dat, dlay]
  rw [if_pos (show K < 15 by omega)]
  split
  · rename_i h0; rw [h0]; rfl
  · rfl
theorem datL_nums (hK : 3 ≤ K ∧ K ≤ 14) (c : Nat) : ∀ l, datL c (numsL K l) = tail (wid c) l
  | [] => rfl
  | n :: r => by
    have := datL_nums hK c r
    simp only [numsL, List.map_cons, datL] at this ⊢
    rw [this, numV, core_not (by omega), ← numV, dat_num hK]
    rfl
theorem datL_dess (hK : 3 ≤ K ∧ K ≤ 14) (c : Nat) : ∀ l, datL c (dessL K name l) = tail (wid c) l
  | [] => rfl
  | n :: r => by
    have := datL_dess hK c r
    simp only [dessL, List.map_cons, datL] at this ⊢
    rw [this, desV, core_desc, numV, core_not (by omega), ← numV, dat_num hK]
    rfl
theorem dlong_num (hK : K < 19) (c re : Nat) : dlong K ⟨#[]⟩ c re = wid c := by
  unfold dlong
  split
  · rename_i h; rw [h]
  · first | rfl | rw [if_pos hK]
theorem longK_bare_nums (hK : 3 ≤ K ∧ K ≤ 14) (c : Nat) : ∀ l, longK ((planL (numsL K l)).map (setc c true)) = wid c * l.length
  | [] => by simp [numsL, planL, longK]
  | n :: r => by
    have := longK_bare_nums hK c r
    simp only [numsL, List.map_cons, planL, longK] at this ⊢
    rw [this, plan_num hK, setc, long, if_pos rfl, dlong_num (by omega), List.length_cons, Nat.mul_add]
    omega
theorem longK_bare_dess (hK : 3 ≤ K ∧ K ≤ 14) (c : Nat) : ∀ l, longK ((planL (dessL K name l)).map (setc c true)) = wid c * l.length
  | [] => by simp [dessL, planL, longK]
  | n :: r => by
    have := longK_bare_dess hK c r
    simp only [dessL, List.map_cons, planL, longK] at this ⊢
    rw [this, plan_des hK, setc, long, if_pos rfl, dlong_num (by omega), List.length_cons, Nat.mul_add]
    omega
theorem longK_nums (hK : 3 ≤ K ∧ K ≤ 14) (h0 : l ≠ []) (hn : ∀ n ∈ l, n < 18446744073709551616) : longK (alikeP (planL (numsL K l))) = 1 + mx K l * l.length := by
  have hw := wid_nums hK h0 hn
  cases l with
  | nil => exact absurd rfl h0
  | cons x r =>
    have h1 := longK_bare_nums hK (first (planL (numsL K (x :: r)))) r
    rw [hw] at h1
    have e : planL (numsL K (x :: r)) = plan (numV K x) :: planL (numsL K r) := rfl
    rw [e] at h1 hw ⊢
    rw [alikeP, longK, h1, plan_num hK, setc, long, if_neg (by decide), longN, dlong_num (by omega), ← plan_num hK, hw, List.length_cons, Nat.mul_add]
    omega
theorem longK_dess (hK : 3 ≤ K ∧ K ≤ 14) (h0 : l ≠ []) (hn : ∀ n ∈ l, n < 18446744073709551616) : longK (alikeP (planL (dessL K name l))) = 1 + mx K l * l.length + 1 + long (plan (numV 6 name)) := by
  have hw := wid_nums hK h0 hn
  rw [← first_dess (name := name) hK h0] at hw
  cases l with
  | nil => exact absurd rfl h0
  | cons x r =>
    have h1 := longK_bare_dess (name := name) hK (first (planL (dessL K name (x :: r)))) r
    rw [hw] at h1
    have e : planL (dessL K name (x :: r)) = plan (desV K name x) :: planL (dessL K name r) := rfl
    rw [e] at h1 hw ⊢
    rw [alikeP, longK, h1, plan_des hK, setc, long, if_neg (by decide), longN, longN, dlong_num (by omega), ← plan_des (name := name) hK, hw, List.length_cons, Nat.mul_add]
    omega
theorem items_nums : ∀ l : List Nat, itemsL (numsL K l) = l.length
  | [] => rfl
  | n :: r => by
    have := items_nums r
    simp only [numsL, List.map_cons, itemsL, numV, items, List.length_cons] at this ⊢
    omega
theorem bulk_nums : ∀ l : List Nat, bulkL (numsL K l) = l.length
  | [] => rfl
  | n :: r => by
    have := bulk_nums r
    simp only [numsL, List.map_cons, bulkL, numV, bulk, ByteArray.size, List.length_cons] at this ⊢
    simp
    omega
theorem bulk_dess : ∀ l : List Nat, bulkL (dessL K name l) = 3 * l.length
  | [] => rfl
  | n :: r => by
    have := bulk_dess r
    simp only [dessL, List.map_cons, bulkL, desV, numV, bulk, ByteArray.size, List.length_cons] at this ⊢
    simp
    omega
theorem depth_nums : ∀ l : List Nat, depthL (numsL K l) ≤ 1
  | [] => by simp [numsL, depthL]
  | n :: r => by
    have := depth_nums r
    simp only [numsL, List.map_cons, depthL, numV, depth] at this ⊢
    omega
theorem mayL_of {ks : List V} (h : ∀ v ∈ ks, mayB v = true) : mayL ks = true := by
  induction ks with
  | nil => rfl
  | cons x r ih => rw [mayL, h x (by simp), ih fun v hv => h v (by simp [hv])]; rfl
theorem ok_of {v : V} (h1 : items v ≤ 1024) (h2 : depth v ≤ 16) (h3 : mayB v = true) : okB v = true := by simp only [okB, h3, decide_eq_true h1, decide_eq_true h2]; rfl
theorem arr_may {ks : List V} (hm : mayL ks = true) (hk : ∀ x r, ks = x :: r → ∀ y ∈ r, alikeB x y = true) : mayB (.mk 24 0 ⟨#[]⟩ ks) = true := by
  have ha : aloneOk 24 0 ⟨#[]⟩ ks.length = true := by simp [aloneOk, emp0]
  have hks : kidsOk 24 ks = true := by
    unfold kidsOk
    rw [if_neg (by omega), if_pos rfl]
    cases ks with
    | nil => rfl
    | cons x r => exact List.all_eq_true.2 fun y hy => hk x r rfl y hy
  rw [mayB, hm, ha, hks]
  rfl
theorem nums_may (h : ∀ n ∈ l, okB (numV K n) = true) : mayL (numsL K l) = true := mayL_of fun v hv => by
  obtain ⟨n, hn, rfl⟩ := List.mem_map.1 hv
  exact ok_may (h n hn)
theorem nums_ok (hK : 3 ≤ K ∧ K ≤ 14) (hl : l.length ≤ 200) (h : ∀ n ∈ l, okB (numV K n) = true) : okB (.mk 24 0 ⟨#[]⟩ (numsL K l)) = true := by
  refine ok_of ?_ ?_ (arr_may (nums_may h) fun x r e y hy => ?_)
  · rw [items, items_nums]; omega
  · have := depth_nums (K := K) l
    rw [depth]; omega
  · have hx : x ∈ numsL K l := by rw [e]; simp
    have hy : y ∈ numsL K l := by rw [e]; simp [hy]
    obtain ⟨a, _, rfl⟩ := List.mem_map.1 hx
    obtain ⟨b, _, rfl⟩ := List.mem_map.1 hy
    exact alikeB_plain (by omega)
theorem name_ok : okB (numV 6 name) = true := by simp [numV, okB, items, itemsL, depth, depthL, mayB, mayL, aloneOk, emp0, kidsOk, numB]
theorem items_dess : ∀ l : List Nat, itemsL (dessL K name l) = 3 * l.length
  | [] => rfl
  | n :: r => by
    have := items_dess r
    simp only [dessL, List.map_cons, itemsL, desV, numV, items, List.length_cons] at this ⊢
    omega
theorem depth_dess : ∀ l : List Nat, depthL (dessL K name l) ≤ 2
  | [] => by simp [dessL, depthL]
  | n :: r => by
    have := depth_dess r
    simp only [dessL, List.map_cons, depthL, desV, numV, depth] at this ⊢
    omega
theorem des_may {n : Nat} (h : okB (numV K n) = true) : mayB (desV K name n) = true := by
  have h1 := ok_may (name_ok (name := name))
  have h2 := ok_may h
  have ha : aloneOk 25 0 ⟨#[]⟩ 2 = true := by simp [aloneOk, emp0]
  have hk : kidsOk 25 [numV 6 name, numV K n] = true := by simp [kidsOk, numV, nameB, kind]
  rw [desV, mayB, ← numV, mayL, mayL, mayL, h1, h2, List.length_cons, List.length_cons, List.length_nil, ha, hk]
  rfl
theorem dess_may (h : ∀ n ∈ l, okB (numV K n) = true) : mayL (dessL K name l) = true := mayL_of fun v hv => by
  obtain ⟨n, hn, rfl⟩ := List.mem_map.1 hv
  exact des_may (h n hn)
theorem dess_ok (hK : 3 ≤ K ∧ K ≤ 14) (hl : l.length ≤ 200) (h : ∀ n ∈ l, okB (numV K n) = true) : okB (.mk 24 0 ⟨#[]⟩ (dessL K name l)) = true := by
  refine ok_of ?_ ?_ (arr_may (dess_may h) fun x r e y hy => ?_)
  · rw [items, items_dess]; omega
  · have := depth_dess (K := K) (name := name) l
    rw [depth]; omega
  · have hx : x ∈ dessL K name l := by rw [e]; simp
    have hy : y ∈ dessL K name l := by rw [e]; simp [hy]
    obtain ⟨a, _, rfl⟩ := List.mem_map.1 hx
    obtain ⟨b, _, rfl⟩ := List.mem_map.1 hy
    rw [desV, desV, alikeB_desc, (same_iff _ _).2 rfl, numV, numV, alikeB_plain (by omega)]
    rfl
/-- What an array lays. -/
theorem arr_lay {ks : List V} {L : Nat} {T : List Nat} (hre : longK (alikeP (planL ks)) = L) (hT : layK (alikeP (planL ks)) = T) (hl : ks.length ≤ 200) : ∃ P : List Nat, lay (plan (.mk 24 0 ⟨#[]⟩ ks)) = P ++ T ∧ P.length = if L ≤ 254 then 3 else 9 := by
  have hk : kp 24 ks = alikeP (planL ks) := by rw [kp, if_pos rfl]
  have hl' : ks.length ≤ 255 := by omega
  have hc : pick (chs 24) [rawv (.mk 24 0 ⟨#[]⟩ ks)] = if L ≤ 254 then 224 else 240 := by
    have hcs : can .small (rawv (.mk 24 0 ⟨#[]⟩ ks)) = (decide (1 + longK (kp 24 ks) ≤ 255) && decide (ks.length ≤ 255)) := rfl
    have hp : pick (chs 24) [rawv (.mk 24 0 ⟨#[]⟩ ks)] = if (can .small (rawv (.mk 24 0 ⟨#[]⟩ ks)) && true) = true then 224 else 240 := rfl
    rw [hp, hcs, hk, hre, decide_eq_true hl', Bool.and_true, Bool.and_true]
    by_cases h : L ≤ 254
    · rw [if_pos h, decide_eq_true (show 1 + L ≤ 255 by omega), if_pos rfl]
    · rw [if_neg h, decide_eq_false (show ¬ 1 + L ≤ 255 by omega), if_neg (by decide)]
  rw [lay_core (by decide), hc]
  simp only [dat, dlay, hk, hre, hT]
  by_cases h : L ≤ 254
  · rw [if_pos h, if_neg (by decide), if_neg (by decide), if_neg (by decide), if_neg (by decide), if_pos h]
    exact ⟨224 :: (be (wid 224 + L) (wid 224) ++ be ks.length (wid 224)), by simp, by simp [be_length]; decide⟩
  · rw [if_neg h, if_neg (by decide), if_neg (by decide), if_neg (by decide), if_neg (by decide), if_neg h]
    exact ⟨240 :: (be (wid 240 + L) (wid 240) ++ be ks.length (wid 240)), by simp, by simp [be_length]; decide⟩
theorem nums_lay (hK : 3 ≤ K ∧ K ≤ 14) (h0 : l ≠ []) (hn : ∀ n ∈ l, n < 18446744073709551616) (hl : l.length ≤ 200) (h : ∀ n ∈ l, okB (numV K n) = true) :
    ∃ P : List Nat, lay (plan (.mk 24 0 ⟨#[]⟩ (numsL K l))) = P ++ tail (mx K l) l ∧ P.length = (if 1 + mx K l * l.length ≤ 254 then 3 else 9) + 1 := by
  have hw := wid_nums hK h0 hn
  have hT : layK (alikeP (planL (numsL K l))) = [first (planL (numsL K l))] ++ tail (mx K l) l := by
    cases l with
    | nil => exact absurd rfl h0
    | cons x r =>
      have hm := nums_may h
      have e : numsL K (x :: r) = numV K x :: numsL K r := rfl
      rw [e] at hm hw ⊢
      rw [layK_alike _ _ hm, numV, called_not (by omega), ← numV, ← e, datL_nums hK, kcode, e, hw]
      rfl
  obtain ⟨P, h1, h2⟩ := arr_lay (longK_nums hK h0 hn) hT (by simp [numsL]; omega)
  exact ⟨P ++ [first (planL (numsL K l))], by rw [h1, List.append_assoc], by rw [List.length_append, h2]; rfl⟩
theorem name_long : long (plan (numV 6 name)) = (lay (plan (numV 6 name))).length := by
  have h1 : plan (numV 6 name) = .mk [] 6 name ⟨#[]⟩ (first [rawv (numV 6 name)]) false [] 0 0 := plan_num (by omega) name
  have h2 : lay (plan (numV 6 name)) = _ := lay_core (k := 6) (by decide)
  rw [h2, h1, ← numV, dat_num (by omega), long, if_neg (by decide), longN, dlong_num (by omega), List.length_cons, be_length]
  rw [show pick (chs 6) [rawv (numV 6 name)] = first [rawv (numV 6 name)] from rfl]
  omega
theorem dess_lay (hK : 3 ≤ K ∧ K ≤ 14) (h0 : l ≠ []) (hn : ∀ n ∈ l, n < 18446744073709551616) (hl : l.length ≤ 200) (h : ∀ n ∈ l, okB (numV K n) = true) :
    ∃ P : List Nat, lay (plan (.mk 24 0 ⟨#[]⟩ (dessL K name l))) = P ++ tail (mx K l) l ∧ P.length = (if 1 + mx K l * l.length + 1 + (lay (plan (numV 6 name))).length ≤ 254 then 3 else 9) + 2 + (lay (plan (numV 6 name))).length := by
  have hw := wid_nums hK h0 hn
  have hf := first_dess (name := name) hK h0
  have hT : layK (alikeP (planL (dessL K name l))) = (0 :: (lay (plan (numV 6 name)) ++ [first (planL (numsL K l))])) ++ tail (mx K l) l := by
    rw [← hf]
    rw [← hf] at hw
    cases l with
    | nil => exact absurd rfl h0
    | cons x r =>
      have hm := dess_may (name := name) h
      have e : dessL K name (x :: r) = desV K name x :: dessL K name r := rfl
      rw [e] at hm hw ⊢
      have hcl : called (desV K name x) = [numV 6 name] := by rw [desV, called_desc, numV, numV, called_not (by omega)]
      rw [layK_alike _ _ hm, ← e, datL_dess hK, kcode, e, hw, hcl, planL, planL, layN, layN]
      simp
  have hL := longK_dess (name := name) hK h0 hn
  rw [name_long] at hL
  obtain ⟨P, h1, h2⟩ := arr_lay hL hT (by simp [dessL]; omega)
  exact ⟨P ++ (0 :: (lay (plan (numV 6 name)) ++ [first (planL (numsL K l))])), by rw [h1, List.append_assoc], by rw [List.length_append, h2]; simp; omega⟩
end
end Go.Proofs.YtophlpkbpjhhjaaDoor.encodeArrays
