/-
  Contracts of idle.New, of first over the two waits' ends, and of When. Memory that was there stays. No other condition.
-/
import Derived.Test.YtbbbanfggcediaaIdo
namespace Go.Proofs.Ytbbbanfggcediaa.Id
set_option maxRecDepth 100000
open Go.RowKit Go.Proofs.Ytbbbanfggcediaa.Utf Go.Proofs.Ytbbbanfggcediaa.Ob

/-- What first answers of two waits. -/
def whenB (o p : Int) : Bool := !(o == 0) || !(p == 0)
def whenI (o g p s : Int) : Int := if o = 0 then (if p = 0 then 0 else s + p) else if p = 0 then g + o else min (g + o) (s + p)
def WhenV (o g p s : Int) : Value := .tuple #[.int .i64 (whenI o g p s), .bool (whenB o p)]
set_option maxHeartbeats 1000000 in
theorem ifirst_any (z : Nat) (o g p s : Int) (w : World) (ho : 0 ≤ o ∧ o ≤ 1048576) (hg : 0 ≤ g ∧ g ≤ 2305843009213693952) (hp : 0 ≤ p ∧ p ≤ 1048576) (hs : 0 ≤ s ∧ s ≤ 2305843009213693952) (hz : z < w.heap.size)
    (c0 : w.cell? ⟨z, 0, none⟩ = some (.func (.func 21) #[.agg #[.int .i64 o, .int .i64 g]] #[])) (c1 : w.cell? ⟨z, 1, none⟩ = some (.func (.func 21) #[.agg #[.int .i64 p, .int .i64 s]] #[])) :
    Calls Try.prog 20 #[.slice (some ⟨z, 0, none⟩) 2 2] w fun e w' => e = .returned (WhenV o g p s) ∧ Below w.heap.size w w' := by
  have HE1 := Lib.hid (fun wx => end_any o g wx ho hg)
  have HE2 := Lib.hid (fun wx => end_any p s wx hp hs)
  have HZ := Lib.hid hz
  have HC1 := Lib.hid c1
  clear c1 hz
  by_cases h1 : o = 0
  · subst h1
    rw [show endI 0 g = .tuple #[.int .i64 0, .bool false] from rfl] at HE1
    by_cases h2 : p = 0
    · subst h2
      rw [show WhenV 0 g 0 s = .tuple #[.int .i64 0, .bool false] from rfl]
      rw [show endI 0 s = .tuple #[.int .i64 0, .bool false] from rfl] at HE2
      clear ho hg hp hs
      go_enter Try.func20, Try.ntmps20
      go_wp2
      refine wp_loop_rounds 3 ?_
      rw [rounds_succ]
      go_wp2_with (first
        | (go_at_call 21; (with_reducible refine (HE1.out _).mono ?_); rintro e w1 ⟨rfl, hb1⟩; have c1 := (hb1.cell (p := ⟨z, 1, none⟩) HZ.out).trans HC1.out)
        | fail)
      rw [rounds_succ]
      go_wp2_with (first
        | (go_at_call 21; (with_reducible refine (HE2.out _).mono ?_); rintro e w2 ⟨rfl, hb2⟩)
        | fail)
      rw [rounds_succ]
      go_wp2
      refine bodyPost_ret (v := .tuple #[.int .i64 0, .bool false]) (by simp [results, Try.results20, go_sem]) rfl ?_
      exact ⟨rfl, bn hb1 hb2⟩
    · have d2 : (p == 0) = false := by simpa using h2
      rw [show WhenV 0 g p s = .tuple #[.int .i64 (s + p), .bool true] by simp [WhenV, whenI, whenB, h2]]
      rw [show endI p s = .tuple #[.int .i64 (s + p), .bool true] by simp [endI, h2]] at HE2
      clear ho hg hp hs d2 h2
      go_enter Try.func20, Try.ntmps20
      go_wp2
      refine wp_loop_rounds 3 ?_
      rw [rounds_succ]
      go_wp2_with (first
        | (go_at_call 21; (with_reducible refine (HE1.out _).mono ?_); rintro e w1 ⟨rfl, hb1⟩; have c1 := (hb1.cell (p := ⟨z, 1, none⟩) HZ.out).trans HC1.out)
        | fail)
      rw [rounds_succ]
      go_wp2_with (first
        | (go_at_call 21; (with_reducible refine (HE2.out _).mono ?_); rintro e w2 ⟨rfl, hb2⟩)
        | fail)
      rw [rounds_succ]
      go_wp2
      refine bodyPost_ret (v := .tuple #[.int .i64 (s + p), .bool true]) (by simp [results, Try.results20, go_sem]) rfl ?_
      exact ⟨rfl, bn hb1 hb2⟩
  · have d1 : (o == 0) = false := by simpa using h1
    rw [show endI o g = .tuple #[.int .i64 (g + o), .bool true] by simp [endI, h1]] at HE1
    by_cases h2 : p = 0
    · subst h2
      rw [show WhenV o g 0 s = .tuple #[.int .i64 (g + o), .bool true] by simp [WhenV, whenI, whenB, h1]]
      rw [show endI 0 s = .tuple #[.int .i64 0, .bool false] from rfl] at HE2
      clear ho hg hp hs d1 h1
      go_enter Try.func20, Try.ntmps20
      go_wp2
      refine wp_loop_rounds 3 ?_
      rw [rounds_succ]
      go_wp2_with (first
        | (go_at_call 21; (with_reducible refine (HE1.out _).mono ?_); rintro e w1 ⟨rfl, hb1⟩; have c1 := (hb1.cell (p := ⟨z, 1, none⟩) HZ.out).trans HC1.out)
        | fail)
      rw [rounds_succ]
      go_wp2_with (first
        | (go_at_call 21; (with_reducible refine (HE2.out _).mono ?_); rintro e w2 ⟨rfl, hb2⟩)
        | fail)
      rw [rounds_succ]
      go_wp2
      refine bodyPost_ret (v := .tuple #[.int .i64 (g + o), .bool true]) (by simp [results, Try.results20, go_sem]) rfl ?_
      exact ⟨rfl, bn hb1 hb2⟩
    · have d2 : (p == 0) = false := by simpa using h2
      rw [show endI p s = .tuple #[.int .i64 (s + p), .bool true] by simp [endI, h2]] at HE2
      by_cases h3 : s + p < g + o
      · rw [show WhenV o g p s = .tuple #[.int .i64 (s + p), .bool true] by simp [WhenV, whenI, whenB, h1, h2]; omega]
        have d3 : decide (s + p < g + o) = true := by simpa using h3
        clear ho hg hp hs d1 d2 h1 h2 h3
        go_enter Try.func20, Try.ntmps20
        go_wp2
        refine wp_loop_rounds 3 ?_
        rw [rounds_succ]
        go_wp2_with (first
          | (go_at_call 21; (with_reducible refine (HE1.out _).mono ?_); rintro e w1 ⟨rfl, hb1⟩; have c1 := (hb1.cell (p := ⟨z, 1, none⟩) HZ.out).trans HC1.out)
          | fail)
        rw [rounds_succ]
        go_wp2_with (first
          | (go_at_call 21; (with_reducible refine (HE2.out _).mono ?_); rintro e w2 ⟨rfl, hb2⟩)
          | fail)
        rw [rounds_succ]
        go_wp2
        refine bodyPost_ret (v := .tuple #[.int .i64 (s + p), .bool true]) (by simp [results, Try.results20, go_sem]) rfl ?_
        exact ⟨rfl, bn hb1 hb2⟩
      · rw [show WhenV o g p s = .tuple #[.int .i64 (g + o), .bool true] by simp [WhenV, whenI, whenB, h1, h2]; omega]
        have d3 : decide (s + p < g + o) = false := by simpa using h3
        clear ho hg hp hs d1 d2 h1 h2 h3
        go_enter Try.func20, Try.ntmps20
        go_wp2
        refine wp_loop_rounds 3 ?_
        rw [rounds_succ]
        go_wp2_with (first
          | (go_at_call 21; (with_reducible refine (HE1.out _).mono ?_); rintro e w1 ⟨rfl, hb1⟩; have c1 := (hb1.cell (p := ⟨z, 1, none⟩) HZ.out).trans HC1.out)
          | fail)
        rw [rounds_succ]
        go_wp2_with (first
          | (go_at_call 21; (with_reducible refine (HE2.out _).mono ?_); rintro e w2 ⟨rfl, hb2⟩)
          | fail)
        rw [rounds_succ]
        go_wp2
        refine bodyPost_ret (v := .tuple #[.int .i64 (g + o), .bool true]) (by simp [results, Try.results20, go_sem]) rfl ?_
        exact ⟨rfl, bn hb1 hb2⟩
/-- What New makes. -/
def GivesIdl (o g p s : Int) (w : World) (e : Ending) (w' : World) : Prop := ∃ b, e = .returned (.pointer (some ⟨b, 0, none⟩)) ∧ Idl w' b o g p s ∧ w.heap.size ≤ b ∧ Below w.heap.size w w'
theorem len_le (n : Nat) : lenN n ≤ 1048576 := by unfold lenN; omega
theorem half_le (n : Nat) : halfN n ≤ n := by unfold halfN; split <;> omega
set_option maxHeartbeats 1000000 in
theorem inew_any (o p : Nat) (n : Int) (w : World) (ho : o < 4294967296) (hp : p < 4294967296) :
    Calls Try.prog 8 #[.int .u32 (o : Int), .int .u32 (p : Int), .int .i64 n] w (GivesIdl ((lenN o : Nat) : Int) (momI 0 0 n) ((halfN (lenN p) : Nat) : Int) (momI (momI 0 0 n) 0 n) w) := by
  have HL1 := Lib.hid (fun wx => len_any o wx ho)
  have HL2 := Lib.hid (fun wx => len_any p wx hp)
  have HH := Lib.hid (fun wx => half_any (lenN p) wx (len_le p))
  have hb0 : Below w.heap.size w (w.alloc (.cells #[.int .i64 ((lenN o : Nat) : Int), .int .i64 0, .int .i64 ((halfN (lenN p) : Nat) : Int), .int .i64 0] 47)) := ba (Below.refl _ _) _
  have h0 : Idl (w.alloc (.cells #[.int .i64 ((lenN o : Nat) : Int), .int .i64 0, .int .i64 ((halfN (lenN p) : Nat) : Int), .int .i64 0] 47)) w.heap.size ((lenN o : Nat) : Int) 0 ((halfN (lenN p) : Nat) : Int) 0 :=
    ⟨heap_alloc_new w _, by have := len_le o; omega, by omega, by have := half_le (lenN p); have := len_le p; omega, by omega⟩
  obtain ⟨O, hO⟩ : ∃ O : Int, ((lenN o : Nat) : Int) = O := ⟨_, rfl⟩
  obtain ⟨P, hP⟩ : ∃ P : Int, ((halfN (lenN p) : Nat) : Int) = P := ⟨_, rfl⟩
  rw [hO] at HL1 h0 hb0 ⊢
  rw [hP] at HH h0 hb0 ⊢
  have H0 := Lib.hid h0
  have HB0 := Lib.hid hb0
  clear h0 hb0 hO hP ho hp
  go_enter Try.func8, Try.ntmps8
  go_wp2_with (first
    | (go_at_call 16; (with_reducible refine (HL1.out _).mono ?_); rintro e w1 ⟨rfl, rfl⟩)
    | (go_at_call 16; (with_reducible refine (HL2.out _).mono ?_); rintro e w1 ⟨rfl, rfl⟩)
    | (go_at_call 17; (with_reducible refine (HH.out _).mono ?_); rintro e w1 ⟨rfl, rfl⟩)
    | (go_at_call 11; (with_reducible refine (got_any n _ H0.out).mono ?_); rintro e w1 ⟨rfl, h1, o1⟩)
    | (go_at_call 10; (with_reducible refine (sent_any n _ h1).mono ?_); rintro e w2 ⟨rfl, h2, o2⟩)
    | fail)
  go_ret
  exact ⟨_, rfl, h2, Nat.le_refl _, bo HB0.out (o1.trans o2) (fun i hi e => by omega)⟩
section
variable {w w' : World} {b : Nat} {o g p s : Int}
set_option maxHeartbeats 1000000 in
theorem when_any (w : World) (h : Idl w b o g p s) : Calls Try.prog 14 #[.pointer (some ⟨b, 0, none⟩)] w fun e w' => e = .returned (WhenV o g p s) ∧ Below w.heap.size w w' := by
  have hF := (fun z wx hz c0 c1 => ifirst_any z o g p s wx h.ho h.hg h.hp h.hs hz c0 c1)
  obtain ⟨I, hI⟩ : ∃ I, whenI o g p s = I := ⟨_, rfl⟩
  obtain ⟨B, hB⟩ : ∃ B, whenB o p = B := ⟨_, rfl⟩
  have hV : WhenV o g p s = .tuple #[.int .i64 I, .bool B] := by simp [WhenV, hI, hB]
  rw [hV] at hF ⊢
  have HF := Lib.hid hF
  clear hF hV hI hB
  have hmf : ∀ (fn : Fn) (first cap : Array Value) (w : World), (Instr.makeFunc fn first cap).run Try.prog w = .ok (.func fn first cap) w := fun _ _ _ _ => rfl
  have hb0 : Below w.heap.size w w.drew := (Below.refl _ _).drew
  have x0 := h.c0
  have x1 := h.c1
  have x2 := h.c2
  have x3 := h.c3
  have z0 : w.drew.cell? ⟨b, 0, none⟩ = some (.int .i64 o) := x0
  have z1 : w.drew.cell? ⟨b, 1, none⟩ = some (.int .i64 g) := x1
  have z2 : w.drew.cell? ⟨b, 2, none⟩ = some (.int .i64 p) := x2
  have z3 : w.drew.cell? ⟨b, 3, none⟩ = some (.int .i64 s) := x3
  have H := Lib.hid h
  have HFF : Hid (Calls Try.prog 20 #[.slice (some ⟨w.heap.size, 0, none⟩) 2 2] ((w.alloc (.cells #[.func (.func 21) #[.agg #[.int .i64 o, .int .i64 g]] #[], .func (.func 21) #[.agg #[.int .i64 p, .int .i64 s]] #[]] 31)).drew) fun e w' => e = .returned (.tuple #[.int .i64 I, .bool B]) ∧ Below ((w.alloc (.cells #[.func (.func 21) #[.agg #[.int .i64 o, .int .i64 g]] #[], .func (.func 21) #[.agg #[.int .i64 p, .int .i64 s]] #[]] 31)).drew).heap.size ((w.alloc (.cells #[.func (.func 21) #[.agg #[.int .i64 o, .int .i64 g]] #[], .func (.func 21) #[.agg #[.int .i64 p, .int .i64 s]] #[]] 31)).drew) w') :=
    Lib.hid (HF.out w.heap.size _ (by simp) (cell_of_row _ _ 0 _ _ _ (heap_alloc_new w _)) (cell_of_row _ _ 1 _ _ _ (heap_alloc_new w _)))
  have HBB : Hid (Below w.heap.size w ((w.alloc (.cells #[.func (.func 21) #[.agg #[.int .i64 o, .int .i64 g]] #[], .func (.func 21) #[.agg #[.int .i64 p, .int .i64 s]] #[]] 31)).drew)) := Lib.hid (bd (ba (Below.refl _ _) _))
  clear h HF
  go_enter Try.func14, Try.ntmps14
  go_wp2_with fail
  refine wp_region_held_drew (S := fun wx => Below w.heap.size w wx) (by kernel_rfl) (by exact hb0) (fun hHeld => ?_)
  try simp only [Act.put, List.setIfInBounds_toArray, List.set_cons_zero, List.set_cons_succ]
  (refine wpAnyH_take (i := 0) (oi := ⟨some 6, _, _, _, _, _⟩) (v := ?_) rfl (by kernel_rfl) (by kernel_rfl) (by kernel_rfl) (fun _ _ _ h => h) (Or.inl ⟨by kernel_rfl, ?_⟩) (by assumption) ?_; rotate_left 1; (· intro wx hSw; (try dsimp only at hSw); go_simp; (try with_reducible rfl)))
  try simp only [Act.put, List.setIfInBounds_toArray, List.set_cons_zero, List.set_cons_succ]
  (refine wpAnyH_take (i := 1) (oi := ⟨some 7, _, _, _, _, _⟩) (v := ?_) rfl (by kernel_rfl) (by kernel_rfl) (by kernel_rfl) (fun _ _ _ h => h) (Or.inl ⟨by kernel_rfl, ?_⟩) (by assumption) ?_; rotate_left 1; (· intro wx hSw; (try dsimp only at hSw); go_simp; (try with_reducible rfl)))
  try simp only [Act.put, List.setIfInBounds_toArray, List.set_cons_zero, List.set_cons_succ]
  (refine wpAnyH_take (i := 2) (oi := ⟨some 8, _, _, _, _, _⟩) (v := ?_) rfl (by kernel_rfl) (by kernel_rfl) (by kernel_rfl) (fun _ _ _ h => h) (Or.inl ⟨by kernel_rfl, ?_⟩) (by assumption) ?_; rotate_left 1; (· intro wx hSw; (try dsimp only at hSw); go_simp; (try with_reducible rfl)))
  try simp only [Act.put, List.setIfInBounds_toArray, List.set_cons_zero, List.set_cons_succ]
  (refine wpAnyH_take (i := 3) (oi := ⟨some 9, _, _, _, _, _⟩) (v := ?_) rfl (by kernel_rfl) (by kernel_rfl) (by kernel_rfl) (fun _ _ _ h => h) (Or.inl ⟨by kernel_rfl, ?_⟩) (by assumption) ?_; rotate_left 1; (· intro wx hSw; (try dsimp only at hSw); have q0 := (H.out.call hSw).c0; have q1 := (H.out.call hSw).c1; have q2 := (H.out.call hSw).c2; have q3 := (H.out.call hSw).c3; go_simp; (try with_reducible rfl)))
  try simp only [Act.put, List.setIfInBounds_toArray, List.set_cons_zero, List.set_cons_succ]
  (refine wpAnyH_take (i := 4) (oi := ⟨some 10, _, _, _, _, _⟩) (v := ?_) rfl (by kernel_rfl) (by kernel_rfl) (by kernel_rfl) (fun _ _ _ h => h) (Or.inl ⟨by kernel_rfl, ?_⟩) (by assumption) ?_; rotate_left 1; (· intro wx hSw; (try dsimp only at hSw); go_simp; (try with_reducible rfl)))
  try simp only [Act.put, List.setIfInBounds_toArray, List.set_cons_zero, List.set_cons_succ]
  (refine wpAnyH_take (i := 5) (oi := ⟨some 11, _, _, _, _, _⟩) (v := ?_) rfl (by kernel_rfl) (by kernel_rfl) (by kernel_rfl) (fun _ _ _ h => h) (Or.inl ⟨by kernel_rfl, ?_⟩) (by assumption) ?_; rotate_left 1; (· intro wx hSw; (try dsimp only at hSw); go_simp; (try with_reducible rfl)))
  try simp only [Act.put, List.setIfInBounds_toArray, List.set_cons_zero, List.set_cons_succ]
  (refine wpAnyH_take (i := 6) (oi := ⟨some 12, _, _, _, _, _⟩) (v := ?_) rfl (by kernel_rfl) (by kernel_rfl) (by kernel_rfl) (fun _ _ _ h => h) (Or.inl ⟨by kernel_rfl, ?_⟩) (by assumption) ?_; rotate_left 1; (· intro wx hSw; (try dsimp only at hSw); go_simp; (try with_reducible rfl)))
  try simp only [Act.put, List.setIfInBounds_toArray, List.set_cons_zero, List.set_cons_succ]
  (refine wpAnyH_take (i := 7) (oi := ⟨some 13, _, _, _, _, _⟩) (v := ?_) rfl (by kernel_rfl) (by kernel_rfl) (by kernel_rfl) (fun _ _ _ h => h) (Or.inl ⟨by kernel_rfl, ?_⟩) (by assumption) ?_; rotate_left 1; (· intro wx hSw; (try dsimp only at hSw); go_simp; (try with_reducible rfl)))
  try simp only [Act.put, List.setIfInBounds_toArray, List.set_cons_zero, List.set_cons_succ]
  (refine wpAnyH_take (i := 8) (oi := ⟨some 14, _, _, _, _, _⟩) (v := ?_) rfl (by kernel_rfl) (by kernel_rfl) (by kernel_rfl) (fun _ _ _ h => h) (Or.inl ⟨by kernel_rfl, ?_⟩) (by assumption) ?_; rotate_left 1; (· intro wx hSw; (try dsimp only at hSw); have q0 := (H.out.call hSw).c0; have q1 := (H.out.call hSw).c1; have q2 := (H.out.call hSw).c2; have q3 := (H.out.call hSw).c3; go_simp; (try with_reducible rfl)))
  try simp only [Act.put, List.setIfInBounds_toArray, List.set_cons_zero, List.set_cons_succ]
  (refine wpAnyH_take (i := 9) (oi := ⟨some 15, _, _, _, _, _⟩) (v := ?_) rfl (by kernel_rfl) (by kernel_rfl) (by kernel_rfl) (fun _ _ _ h => h) (Or.inl ⟨by kernel_rfl, ?_⟩) (by assumption) ?_; rotate_left 1; (· intro wx hSw; (try dsimp only at hSw); go_simp; (try with_reducible rfl)))
  try simp only [Act.put, List.setIfInBounds_toArray, List.set_cons_zero, List.set_cons_succ]
  (refine wpAnyH_ready (rs := [10]) (by kernel_rfl) (by simp) ?_; refine AllReadyH.cons (o := ⟨some 16, _, _, _, _, _⟩) rfl (fun K hK => ?_) AllReadyH.nil; go_simp; skip; go_wp2_with fail; refine hK.out _ _ ?_ (fun hHeld => ?_); (· exact HBB.out); clear hK K)
  try simp only [Act.put, List.setIfInBounds_toArray, List.set_cons_zero, List.set_cons_succ]
  (refine wpAnyH_ready (rs := [11]) (by kernel_rfl) (by simp) ?_; refine AllReadyH.cons (o := ⟨some 17, _, _, _, _, _⟩) rfl (fun K hK => ?_) AllReadyH.nil; go_simp; (go_at_call 20; (with_reducible refine HFF.out.mono ?_); rintro e w2 ⟨rfl, hb2⟩); go_wp2_with fail; refine hK.out _ _ ?_ (fun hHeld => ?_); (· exact (bn HBB.out hb2)); clear hK K)
  try simp only [Act.put, List.setIfInBounds_toArray, List.set_cons_zero, List.set_cons_succ]
  (refine wpAnyH_take (i := 12) (oi := ⟨some 18, _, _, _, _, _⟩) (v := ?_) rfl (by kernel_rfl) (by kernel_rfl) (by kernel_rfl) (fun _ _ _ h => h) (Or.inl ⟨by kernel_rfl, ?_⟩) (by assumption) ?_; rotate_left 1; (· intro wx hSw; (try dsimp only at hSw); go_simp; (try with_reducible rfl)))
  try simp only [Act.put, List.setIfInBounds_toArray, List.set_cons_zero, List.set_cons_succ]
  (refine wpAnyH_take (i := 13) (oi := ⟨some 19, _, _, _, _, _⟩) (v := ?_) rfl (by kernel_rfl) (by kernel_rfl) (by kernel_rfl) (fun _ _ _ h => h) (Or.inl ⟨by kernel_rfl, ?_⟩) (by assumption) ?_; rotate_left 1; (· intro wx hSw; (try dsimp only at hSw); go_simp; (try with_reducible rfl)))
  try simp only [Act.put, List.setIfInBounds_toArray, List.set_cons_zero, List.set_cons_succ]
  (refine wpAnyH_take (i := 14) (oi := ⟨some 2, _, _, _, _, _⟩) (v := ?_) rfl (by kernel_rfl) (by kernel_rfl) (by kernel_rfl) (fun _ _ _ h => h) (Or.inl ⟨by kernel_rfl, ?_⟩) (by assumption) ?_; rotate_left 1; (· intro wx hSw; (try dsimp only at hSw); go_simp; (try with_reducible rfl)))
  try simp only [Act.put, List.setIfInBounds_toArray, List.set_cons_zero, List.set_cons_succ]
  (refine wpAnyH_take (i := 15) (oi := ⟨some 3, _, _, _, _, _⟩) (v := ?_) rfl (by kernel_rfl) (by kernel_rfl) (by kernel_rfl) (fun _ _ _ h => h) (Or.inl ⟨by kernel_rfl, ?_⟩) (by assumption) ?_; rotate_left 1; (· intro wx hSw; (try dsimp only at hSw); go_simp; (try with_reducible rfl)))
  try simp only [Act.put, List.setIfInBounds_toArray, List.set_cons_zero, List.set_cons_succ]
  refine wpAnyH_done (by kernel_rfl) ?_ _
  try simp only [Act.put, List.setIfInBounds_toArray, List.set_cons_zero, List.set_cons_succ]
  go_wp2
  refine bodyPost_ret (v := .tuple #[.int .i64 I, .bool B]) (by simp [results, Try.results14, go_sem]) rfl ?_
  exact ⟨rfl, bn HBB.out hb2⟩
theorem nil_when (w : World) : Calls Try.prog 14 #[.pointer none] w fun e w' => e = .returned (.tuple #[.int .i64 0, .bool false]) ∧ w = w' := by
  go_enter Try.func14, Try.ntmps14
  go_wp2
  refine bodyPost_ret (v := .tuple #[.int .i64 0, .bool false]) (by simp [results, Try.results14, go_sem]) rfl ?_
  exact ⟨rfl, rfl⟩
end
end Go.Proofs.Ytbbbanfggcediaa.Id
