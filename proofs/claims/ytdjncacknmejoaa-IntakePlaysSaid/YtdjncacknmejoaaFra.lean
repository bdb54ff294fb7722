/-
  Contracts of frame.asks and of the closures that it makes: what is asked of a head, in its order. Memory that was there stays. No condition.
-/
import Derived.Test.YtdjncacknmejoaaFrh
import Derived.Laws.EntriesVeiled
import Derived.Deep.DeepCutAuto
namespace Go.Proofs.Ytdjncacknmejoaa.Fr
set_option maxRecDepth 100000
open Go.RowKit Go.Proofs.Ytdjncacknmejoaa.Utf Go.Proofs.Ytdjncacknmejoaa.Enc

/-- A number in a cell. -/
def Ub (w : World) (g x : Nat) : Prop := g < w.heap.size ∧ w.cell? ⟨g, 0, none⟩ = some (.int .u64 (x : Int))
theorem Ub.call {w w' : World} {g x : Nat} (h : Ub w g x) (hb : Below w.heap.size w w') : Ub w' g x := ⟨Nat.lt_of_lt_of_le h.1 hb.size, (hb.cell (p := ⟨g, 0, none⟩) h.1).trans h.2⟩
theorem Ub.new (w : World) (x : Nat) : Ub (w.alloc (.cells #[.int .u64 (x : Int)] 69)) w.heap.size x := ⟨by simp, by rw [World.cell?_alloc_at _ _ _ _ rfl]; rfl⟩
def errIf (b : Bool) (q : Int) : Int := if b then 0 else q

theorem ask11_any (ga gn c n : Nat) (w : World) (h1 : Ub w ga c) (h2 : Ub w gn n) : Calls Try.prog 43 #[.pointer (some ⟨ga, 0, none⟩), .pointer (some ⟨gn, 0, none⟩)] w (Says (.int .i64 (errIf (decide (n ≤ c)) 7)) w) := by
  obtain ⟨_, c1⟩ := h1
  obtain ⟨_, c2⟩ := h2
  go_enter Try.func43, Try.ntmps43
  go_wp2_with (go_at_call 44; refine (unless_any _ _ _).mono ?_; rintro e w1 ⟨rfl, rfl⟩)
  all_goals
    go_ret
    exact ⟨rfl, Below.refl _ _⟩
theorem ask2_any (gs gm s m : Nat) (w : World) (h1 : Ub w gs s) (h2 : Ub w gm m) : Calls Try.prog 45 #[.pointer (some ⟨gs, 0, none⟩), .pointer (some ⟨gm, 0, none⟩)] w (Says (.int .i64 (errIf (decide (8 ≤ s) && decide (s ≤ m)) 6)) w) := by
  obtain ⟨_, c1⟩ := h1
  obtain ⟨_, c2⟩ := h2
  by_cases h8 : 8 ≤ s
  · have d : decide (8 ≤ (s : Int)) = true := by simp; omega
    go_enter Try.func45, Try.ntmps45
    go_wp2_with (go_at_call 44; refine (unless_any _ _ _).mono ?_; rintro e w1 ⟨rfl, rfl⟩)
    all_goals
      go_ret
      exact ⟨rfl, Below.refl _ _⟩
  · have d : decide (8 ≤ (s : Int)) = false := by simp; omega
    go_enter Try.func45, Try.ntmps45
    go_wp2_with (go_at_call 44; refine (unless_any _ _ _).mono ?_; rintro e w1 ⟨rfl, rfl⟩)
    go_ret
    exact ⟨by simp [errIf]; omega, Below.refl _ _⟩
theorem ask3_any (gs gm s m : Nat) (w : World) (h1 : Ub w gs s) (h2 : Ub w gm m) : Calls Try.prog 46 #[.pointer (some ⟨gs, 0, none⟩), .pointer (some ⟨gm, 0, none⟩)] w (Says (.int .i64 (errIf (decide (8 ≤ s) && decide (s ≤ m)) 6)) w) := by
  obtain ⟨_, c1⟩ := h1
  obtain ⟨_, c2⟩ := h2
  by_cases h8 : 8 ≤ s
  · have d : decide (8 ≤ (s : Int)) = true := by simp; omega
    go_enter Try.func46, Try.ntmps46
    go_wp2_with (go_at_call 44; refine (unless_any _ _ _).mono ?_; rintro e w1 ⟨rfl, rfl⟩)
    all_goals
      go_ret
      exact ⟨rfl, Below.refl _ _⟩
  · have d : decide (8 ≤ (s : Int)) = false := by simp; omega
    go_enter Try.func46, Try.ntmps46
    go_wp2_with (go_at_call 44; refine (unless_any _ _ _).mono ?_; rintro e w1 ⟨rfl, rfl⟩)
    go_ret
    exact ⟨by simp [errIf]; omega, Below.refl _ _⟩
theorem ask4_any (g x : Nat) (h : List Nat) (w : World) (hb : BxH w g h) (hx : h[5]? = some x) : Calls Try.prog 47 #[.pointer (some ⟨g, 0, none⟩)] w (Says (.int .i64 (errIf (x == 0) 6)) w) := by
  have c5 := hb.cell hx
  clear hb hx
  by_cases h0 : x = 0
  · subst h0
    go_enter Try.func47, Try.ntmps47
    go_wp2_with (go_at_call 44; refine (unless_any _ _ _).mono ?_; rintro e w1 ⟨rfl, rfl⟩)
    go_ret
    exact ⟨rfl, Below.refl _ _⟩
  · have d : ((x : Int) == 0) = false := by simp; omega
    have d2 : (x == 0) = false := by simp; omega
    rw [d2]
    clear h0 d2
    go_enter Try.func47, Try.ntmps47
    go_wp2_with (go_at_call 44; refine (unless_any _ _ _).mono ?_; rintro e w1 ⟨rfl, rfl⟩)
    go_ret
    exact ⟨rfl, Below.refl _ _⟩
/-- asks$1: what has so many bytes. -/
theorem ask1_any (n ga : Nat) (w : World) : Calls Try.prog 42 #[.int .u64 (n : Int), .pointer (some ⟨ga, 0, none⟩)] w fun e w' => w' = w.alloc (.cells #[.int .u64 (n : Int)] 69) ∧ e = .returned (.func (.func 43) #[] #[.pointer (some ⟨ga, 0, none⟩), .pointer (some ⟨w.heap.size, 0, none⟩)]) := by
  have hmf : ∀ (fn : Fn) (first cap : Array Value) (w : World), (Instr.makeFunc fn first cap).run Try.prog w = .ok (.func fn first cap) w := fun _ _ _ _ => rfl
  go_enter Try.func42, Try.ntmps42
  go_wp2
  go_ret
  exact ⟨rfl, rfl⟩
theorem size_8 (h0 h1 h2 h3 h4 h5 h6 h7 : Nat) (h8 : Hd8 [h0, h1, h2, h3, h4, h5, h6, h7]) (w : World) : Calls Try.prog 35 #[.agg #[.int .u8 (h0 : Int), .int .u8 (h1 : Int), .int .u8 (h2 : Int), .int .u8 (h3 : Int), .int .u8 (h4 : Int), .int .u8 (h5 : Int), .int .u8 (h6 : Int), .int .u8 (h7 : Int)]] w (Says (.int .u64 (nb [h0, h1, h2, h3] : Nat)) w) := size_any _ h8 w
theorem start_8 (h0 h1 h2 h3 h4 h5 h6 h7 p : Nat) (hp : 4 * h4 = p) (h8 : Hd8 [h0, h1, h2, h3, h4, h5, h6, h7]) (w : World) : Calls Try.prog 36 #[.agg #[.int .u8 (h0 : Int), .int .u8 (h1 : Int), .int .u8 (h2 : Int), .int .u8 (h3 : Int), .int .u8 (h4 : Int), .int .u8 (h5 : Int), .int .u8 (h6 : Int), .int .u8 (h7 : Int)]] w (Says (.int .u64 (p : Int)) w) := hp ▸ start_any _ h8 h4 rfl w
theorem ba {a w : World} (h : Below a.heap.size a w) (o : Obj) : Below a.heap.size a (w.alloc o) := h.alloc h.size o
theorem bn {a w w' : World} (h : Below a.heap.size a w) (h' : Below w.heap.size w w') : Below a.heap.size a w' := h.trans (h'.mono h.size)
/-- A new box of a number. -/
def Z0 (w : World) (g : Nat) : Prop := w.heap[g]? = some (.cells #[.int .u64 0] 69 (0, 0))
theorem Z0.new (X : World) : Z0 (X.alloc (.cells #[.int .u64 0] 69)) X.heap.size := heap_alloc_new X _
theorem Z0.new1 (X : World) (o : Obj) : Z0 ((X.alloc o).alloc (.cells #[.int .u64 0] 69)) (X.heap.size + 1) := by
  have := Z0.new (X.alloc o)
  rwa [World.size_alloc] at this
theorem Z0.lt {w : World} {g : Nat} (h : Z0 w g) : g < w.heap.size := (Array.getElem?_eq_some_iff.1 h).1
theorem Z0.call {w w' : World} {g : Nat} (h : Z0 w g) (hb : Below w.heap.size w w') : Z0 w' g := (hb.block g h.lt).trans h
theorem Z0.alloc {w : World} {g : Nat} (h : Z0 w g) (o : Obj) : Z0 (w.alloc o) g := h.call (ba (Below.refl _ _) o)
theorem Z0.cell {w : World} {g : Nat} (h : Z0 w g) : w.cell? ⟨g, 0, none⟩ = some (.int .u64 0) := by
  unfold Z0 at h
  simp [World.cell?, h]
theorem Z0.frz {w : World} {g : Nat} (h : Z0 w g) : w.frozen? ⟨g, 0, none⟩ = false := by
  unfold Z0 at h
  simp [World.frozen?, h]
theorem Z0.two {w : World} {a b x y : Nat} (hp : Z0 w a) (hq : Z0 w b) (hne : a ≠ b) : Ub ((w.setCell ⟨a, 0, none⟩ (.int .u64 (x : Int))).setCell ⟨b, 0, none⟩ (.int .u64 (y : Int))) a x ∧ Ub ((w.setCell ⟨a, 0, none⟩ (.int .u64 (x : Int))).setCell ⟨b, 0, none⟩ (.int .u64 (y : Int))) b y := by
  have la := hp.lt
  have lb := hq.lt
  have ca : (w.cell? ⟨a, 0, none⟩).isSome = true := by rw [hp.cell]; rfl
  have cb : ((w.setCell ⟨a, 0, none⟩ (.int .u64 (x : Int))).cell? ⟨b, 0, none⟩).isSome = true := by
    rw [World.cell?_setCell_other _ _ _ _ (by intro e; injection e with e _ _; omega), hq.cell]
    rfl
  refine ⟨⟨by simpa using la, ?_⟩, ⟨by simpa using lb, ?_⟩⟩
  · rw [World.cell?_setCell_other _ _ _ _ (by intro e; injection e with e _ _; omega), World.cell?_setCell_same' _ _ _ ca]
  · rw [World.cell?_setCell_same' _ _ _ cb]
/-- Both boxes hold what they should, and memory that was there stays. -/
def Fin2 (W w : World) (a b x y : Nat) : Prop := Ub w a x ∧ Ub w b y ∧ Below W.heap.size W w
section
variable {W w : World} {a b x y : Nat}
theorem fin1 (h : Below W.heap.size W w) : Fin2 W ((w.alloc (.cells #[.int .u64 (x : Int)] 69)).alloc (.cells #[.int .u64 (y : Int)] 69)) w.heap.size (w.heap.size + 1) x y := by
  refine ⟨(Ub.new w x).call (ba (Below.refl _ _) _), ?_, ba (ba h _) _⟩
  have := Ub.new (w.alloc (.cells #[.int .u64 (x : Int)] 69)) y
  rwa [World.size_alloc] at this
theorem fin2 (h : Below W.heap.size W w) : Fin2 W ((w.alloc (.cells #[.int .u64 (y : Int)] 69)).alloc (.cells #[.int .u64 (x : Int)] 69)) (w.heap.size + 1) w.heap.size x y := by
  obtain ⟨h1, h2, h3⟩ := fin1 (x := y) (y := x) h
  exact ⟨h2, h1, h3⟩
theorem Z0.set (z : Z0 w a) : Ub (w.setCell ⟨a, 0, none⟩ (.int .u64 (x : Int))) a x := by
  refine ⟨by simpa using z.lt, World.cell?_setCell_same' _ _ _ ?_⟩
  rw [z.cell]; rfl
theorem fin3 (h : Below W.heap.size W w) (z : Z0 w a) (ha : W.heap.size ≤ a) : Fin2 W ((w.setCell ⟨a, 0, none⟩ (.int .u64 (x : Int))).alloc (.cells #[.int .u64 (y : Int)] 69)) a w.heap.size x y := by
  refine ⟨z.set.call (ba (Below.refl _ _) _), ?_, ba (h.setCell ha _) _⟩
  have := Ub.new (w.setCell ⟨a, 0, none⟩ (.int .u64 (x : Int))) y
  rwa [World.size_setCell] at this
theorem fin4 (h : Below W.heap.size W w) (z : Z0 w b) (hb : W.heap.size ≤ b) : Fin2 W ((w.setCell ⟨b, 0, none⟩ (.int .u64 (y : Int))).alloc (.cells #[.int .u64 (x : Int)] 69)) w.heap.size b x y := by
  obtain ⟨h1, h2, h3⟩ := fin3 (x := y) (y := x) h z hb
  exact ⟨h2, h1, h3⟩
theorem fin5 (h : Below W.heap.size W w) (za : Z0 w a) (zb : Z0 w b) (hne : a ≠ b) (ha : W.heap.size ≤ a) (hb : W.heap.size ≤ b) : Fin2 W ((w.setCell ⟨a, 0, none⟩ (.int .u64 (x : Int))).setCell ⟨b, 0, none⟩ (.int .u64 (y : Int))) a b x y :=
  ⟨(Z0.two za zb hne).1, (Z0.two za zb hne).2, (h.setCell ha _).setCell hb _⟩
end
/-- What is asked: the function value v answers q, in every world behind this one. -/
def AskV (w : World) (v : Value) (q : Int) : Prop := ∃ f caps, v = .func (.func f) #[] caps ∧ (∀ (args : Array Value) (W : World), (callFunc f args).run Try.prog W = .ok (.enter f args) W) ∧ ∀ w', Below w.heap.size w w' → Calls Try.prog f caps w' (Says (.int .i64 q) w')
theorem AskV.call {w w' : World} {v : Value} {q : Int} (h : AskV w v q) (hb : Below w.heap.size w w') : AskV w' v q := by
  obtain ⟨f, caps, e, he, hc⟩ := h
  exact ⟨f, caps, e, he, fun w2 h2 => hc w2 (bn hb h2)⟩
theorem askV1 {w : World} {ga gn c n : Nat} (h1 : Ub w ga c) (h2 : Ub w gn n) : AskV w (.func (.func 43) #[] #[.pointer (some ⟨ga, 0, none⟩), .pointer (some ⟨gn, 0, none⟩)]) (errIf (decide (n ≤ c)) 7) := ⟨43, _, rfl, Try.call43, fun w' hb => ask11_any ga gn c n w' (h1.call hb) (h2.call hb)⟩
theorem askV2 {w : World} {gs gm s m : Nat} (h1 : Ub w gs s) (h2 : Ub w gm m) : AskV w (.func (.func 45) #[] #[.pointer (some ⟨gs, 0, none⟩), .pointer (some ⟨gm, 0, none⟩)]) (errIf (decide (8 ≤ s) && decide (s ≤ m)) 6) := ⟨45, _, rfl, Try.call45, fun w' hb => ask2_any gs gm s m w' (h1.call hb) (h2.call hb)⟩
theorem askV3 {w : World} {gs gm s m : Nat} (h1 : Ub w gs s) (h2 : Ub w gm m) : AskV w (.func (.func 46) #[] #[.pointer (some ⟨gs, 0, none⟩), .pointer (some ⟨gm, 0, none⟩)]) (errIf (decide (8 ≤ s) && decide (s ≤ m)) 6) := ⟨46, _, rfl, Try.call46, fun w' hb => ask3_any gs gm s m w' (h1.call hb) (h2.call hb)⟩
theorem askV4 {w : World} {g x : Nat} {h : List Nat} (hb : BxH w g h) (hx : h[5]? = some x) : AskV w (.func (.func 47) #[] #[.pointer (some ⟨g, 0, none⟩)]) (errIf (x == 0) 6) := ⟨47, _, rfl, Try.call47, fun w' hb' => ask4_any g x h w' (hb.call hb') hx⟩
/-- The answers to what is asked of a head. -/
def qsF (s p x came most : Nat) : List Int := [errIf (decide (4 ≤ came)) 7, errIf (decide (8 ≤ s) && decide (s ≤ most)) 6, errIf (decide (5 ≤ came)) 7, errIf (decide (8 ≤ p) && decide (p ≤ s)) 6, errIf (decide (6 ≤ came)) 7, errIf (x == 0) 6, errIf (decide (s ≤ came)) 7]
def GivesAsks (qs : List Int) (w : World) (e : Ending) (w' : World) : Prop := ∃ g, e = .returned (.slice (some ⟨g, 0, none⟩) 7 7) ∧ g < w'.heap.size ∧ (∀ j q, qs[j]? = some q → ∃ v, w'.cell? ⟨g, j, none⟩ = some v ∧ AskV w' v q) ∧ Below w.heap.size w w'
def GivesHas (ga n : Nat) (w : World) (e : Ending) (w' : World) : Prop := ∃ gn, e = .returned (.func (.func 43) #[] #[.pointer (some ⟨ga, 0, none⟩), .pointer (some ⟨gn, 0, none⟩)]) ∧ Ub w' gn n ∧ Below w.heap.size w w'
theorem has_any (n ga : Nat) (w : World) : Calls Try.prog 42 #[.int .u64 (n : Int), .pointer (some ⟨ga, 0, none⟩)] w (GivesHas ga n w) := (ask1_any n ga w).mono fun _ _ ⟨hw, he⟩ => ⟨w.heap.size, he, hw ▸ Ub.new w n, hw ▸ ba (Below.refl _ _) _⟩
theorem has_4 (ga : Nat) (w : World) : Calls Try.prog 42 #[.int .u64 4, .pointer (some ⟨ga, 0, none⟩)] w (GivesHas ga 4 w) := has_any 4 ga w
theorem has_5 (ga : Nat) (w : World) : Calls Try.prog 42 #[.int .u64 5, .pointer (some ⟨ga, 0, none⟩)] w (GivesHas ga 5 w) := has_any 5 ga w
theorem has_6 (ga : Nat) (w : World) : Calls Try.prog 42 #[.int .u64 6, .pointer (some ⟨ga, 0, none⟩)] w (GivesHas ga 6 w) := has_any 6 ga w
theorem seven_cells (w : World) (a0 a1 a2 a3 a4 a5 a6 : Value) {q0 q1 q2 q3 q4 q5 q6 : Int} (h0 : AskV (w.alloc (.cells #[a0, a1, a2, a3, a4, a5, a6] 70)) a0 q0) (h1 : AskV (w.alloc (.cells #[a0, a1, a2, a3, a4, a5, a6] 70)) a1 q1) (h2 : AskV (w.alloc (.cells #[a0, a1, a2, a3, a4, a5, a6] 70)) a2 q2) (h3 : AskV (w.alloc (.cells #[a0, a1, a2, a3, a4, a5, a6] 70)) a3 q3) (h4 : AskV (w.alloc (.cells #[a0, a1, a2, a3, a4, a5, a6] 70)) a4 q4) (h5 : AskV (w.alloc (.cells #[a0, a1, a2, a3, a4, a5, a6] 70)) a5 q5) (h6 : AskV (w.alloc (.cells #[a0, a1, a2, a3, a4, a5, a6] 70)) a6 q6) (j : Nat) (q : Int) (hj : [q0, q1, q2, q3, q4, q5, q6][j]? = some q) :
    ∃ v, (w.alloc (.cells #[a0, a1, a2, a3, a4, a5, a6] 70)).cell? ⟨w.heap.size, j, none⟩ = some v ∧ AskV (w.alloc (.cells #[a0, a1, a2, a3, a4, a5, a6] 70)) v q := by
  match j, hj with
  | 0, hj => obtain rfl : q0 = q := by simpa using hj
             exact ⟨a0, by rw [World.cell?_alloc_at _ _ _ _ rfl]; rfl, h0⟩
  | 1, hj => obtain rfl : q1 = q := by simpa using hj
             exact ⟨a1, by rw [World.cell?_alloc_at _ _ _ _ rfl]; rfl, h1⟩
  | 2, hj => obtain rfl : q2 = q := by simpa using hj
             exact ⟨a2, by rw [World.cell?_alloc_at _ _ _ _ rfl]; rfl, h2⟩
  | 3, hj => obtain rfl : q3 = q := by simpa using hj
             exact ⟨a3, by rw [World.cell?_alloc_at _ _ _ _ rfl]; rfl, h3⟩
  | 4, hj => obtain rfl : q4 = q := by simpa using hj
             exact ⟨a4, by rw [World.cell?_alloc_at _ _ _ _ rfl]; rfl, h4⟩
  | 5, hj => obtain rfl : q5 = q := by simpa using hj
             exact ⟨a5, by rw [World.cell?_alloc_at _ _ _ _ rfl]; rfl, h5⟩
  | 6, hj => obtain rfl : q6 = q := by simpa using hj
             exact ⟨a6, by rw [World.cell?_alloc_at _ _ _ _ rfl]; rfl, h6⟩
  | j + 7, hj => simp at hj
set_option maxHeartbeats 2000000 in
theorem asks_any (h0 h1 h2 h3 h4 h5 h6 h7 came most : Nat) (w : World) (h8 : Hd8 [h0, h1, h2, h3, h4, h5, h6, h7]) : Calls Try.prog 34 #[.agg #[.int .u8 (h0 : Int), .int .u8 (h1 : Int), .int .u8 (h2 : Int), .int .u8 (h3 : Int), .int .u8 (h4 : Int), .int .u8 (h5 : Int), .int .u8 (h6 : Int), .int .u8 (h7 : Int)], .int .u64 (came : Int), .int .u64 (most : Int)] w (GivesAsks (qsF (nb [h0, h1, h2, h3]) (4 * h4) h5 came most) w) := by
  obtain ⟨p, hp⟩ : ∃ p, 4 * h4 = p := ⟨_, rfl⟩
  have hp3 : p < 18446744073709551616 := by have := h8.2 h4 (by simp); omega
  have hmf : ∀ (fn : Fn) (first cap : Array Value) (w : World), (Instr.makeFunc fn first cap).run Try.prog w = .ok (.func fn first cap) w := fun _ _ _ _ => rfl
  have hs3 : nb [h0, h1, h2, h3] < 18446744073709551616 := by
    have := nb_lt [h0, h1, h2, h3] fun x hx => h8.2 x (by simp at hx ⊢; omega)
    simp at this
    omega
  rw [hp]
  have hx0 : BxH (w.alloc (.cells #[.int .u8 (h0 : Int), .int .u8 (h1 : Int), .int .u8 (h2 : Int), .int .u8 (h3 : Int), .int .u8 (h4 : Int), .int .u8 (h5 : Int), .int .u8 (h6 : Int), .int .u8 (h7 : Int)] 66)) w.heap.size [h0, h1, h2, h3, h4, h5, h6, h7] := BxH.new w [h0, h1, h2, h3, h4, h5, h6, h7]
  have hx1 : Ub ((w.alloc (.cells #[.int .u8 (h0 : Int), .int .u8 (h1 : Int), .int .u8 (h2 : Int), .int .u8 (h3 : Int), .int .u8 (h4 : Int), .int .u8 (h5 : Int), .int .u8 (h6 : Int), .int .u8 (h7 : Int)] 66)).alloc (.cells #[.int .u64 (came : Int)] 69)) (w.heap.size + 1) came := by
    have := Ub.new (w.alloc (.cells #[.int .u8 (h0 : Int), .int .u8 (h1 : Int), .int .u8 (h2 : Int), .int .u8 (h3 : Int), .int .u8 (h4 : Int), .int .u8 (h5 : Int), .int .u8 (h6 : Int), .int .u8 (h7 : Int)] 66)) came
    rwa [World.size_alloc] at this
  have hx2 : Ub (((w.alloc (.cells #[.int .u8 (h0 : Int), .int .u8 (h1 : Int), .int .u8 (h2 : Int), .int .u8 (h3 : Int), .int .u8 (h4 : Int), .int .u8 (h5 : Int), .int .u8 (h6 : Int), .int .u8 (h7 : Int)] 66)).alloc (.cells #[.int .u64 (came : Int)] 69)).alloc (.cells #[.int .u64 (most : Int)] 69)) (w.heap.size + 1 + 1) most := by
    have := Ub.new ((w.alloc (.cells #[.int .u8 (h0 : Int), .int .u8 (h1 : Int), .int .u8 (h2 : Int), .int .u8 (h3 : Int), .int .u8 (h4 : Int), .int .u8 (h5 : Int), .int .u8 (h6 : Int), .int .u8 (h7 : Int)] 66)).alloc (.cells #[.int .u64 (came : Int)] 69)) most
    rwa [World.size_alloc, World.size_alloc] at this
  have hx0 := hx0.call (ba (ba (Below.refl _ _) (.cells #[.int .u64 (came : Int)] 69)) (.cells #[.int .u64 (most : Int)] 69))
  have hx1 := hx1.call (ba (Below.refl _ _) (.cells #[.int .u64 (most : Int)] 69))
  have hb0 : Below w.heap.size w (((w.alloc (.cells #[.int .u8 (h0 : Int), .int .u8 (h1 : Int), .int .u8 (h2 : Int), .int .u8 (h3 : Int), .int .u8 (h4 : Int), .int .u8 (h5 : Int), .int .u8 (h6 : Int), .int .u8 (h7 : Int)] 66)).alloc (.cells #[.int .u64 (came : Int)] 69)).alloc (.cells #[.int .u64 (most : Int)] 69)) := ba (ba (ba (Below.refl _ _) _) _) _
  go_enter Try.func34, Try.ntmps34
  go_wp2_with fail
  generalize (((w.alloc (.cells #[.int .u8 (h0 : Int), .int .u8 (h1 : Int), .int .u8 (h2 : Int), .int .u8 (h3 : Int), .int .u8 (h4 : Int), .int .u8 (h5 : Int), .int .u8 (h6 : Int), .int .u8 (h7 : Int)] 66)).alloc (.cells #[.int .u64 (came : Int)] 69)).alloc (.cells #[.int .u64 (most : Int)] 69)) = W1 at *
  have HS : Hid (∀ wx, Below W1.heap.size W1 wx → wx.cell? ⟨w.heap.size, 0, none⟩ = some (.int .u8 (h0 : Int)) ∧ wx.cell? ⟨w.heap.size, 1, none⟩ = some (.int .u8 (h1 : Int)) ∧ wx.cell? ⟨w.heap.size, 2, none⟩ = some (.int .u8 (h2 : Int)) ∧ wx.cell? ⟨w.heap.size, 3, none⟩ = some (.int .u8 (h3 : Int)) ∧ wx.cell? ⟨w.heap.size, 4, none⟩ = some (.int .u8 (h4 : Int)) ∧ wx.cell? ⟨w.heap.size, 5, none⟩ = some (.int .u8 (h5 : Int)) ∧ wx.cell? ⟨w.heap.size, 6, none⟩ = some (.int .u8 (h6 : Int)) ∧ wx.cell? ⟨w.heap.size, 7, none⟩ = some (.int .u8 (h7 : Int))) := Lib.hid fun wx h => (hx0.call h).eight
  have HX0 := Lib.hid hx0
  have HX1 := Lib.hid hx1
  have HX2 := Lib.hid hx2
  have HB0 := Lib.hid hb0
  clear hx0 hx1 hx2 hb0
  generalize hg : w.heap.size = g at *
  go_cut [7, 8] (fun s7 s8 wx => ∃ g7 g8, s7 = .pointer (some ⟨g7, 0, none⟩) ∧ s8 = .pointer (some ⟨g8, 0, none⟩) ∧ Fin2 W1 wx g7 g8 (nb [h0, h1, h2, h3]) p)
  case first =>
    go_region_held3 (fun wx => wx.cell? ⟨g, 0, none⟩ = some (.int .u8 (h0 : Int)) ∧ wx.cell? ⟨g, 1, none⟩ = some (.int .u8 (h1 : Int)) ∧ wx.cell? ⟨g, 2, none⟩ = some (.int .u8 (h2 : Int)) ∧ wx.cell? ⟨g, 3, none⟩ = some (.int .u8 (h3 : Int)) ∧ wx.cell? ⟨g, 4, none⟩ = some (.int .u8 (h4 : Int)) ∧ wx.cell? ⟨g, 5, none⟩ = some (.int .u8 (h5 : Int)) ∧ wx.cell? ⟨g, 6, none⟩ = some (.int .u8 (h6 : Int)) ∧ wx.cell? ⟨g, 7, none⟩ = some (.int .u8 (h7 : Int)))
      (with_reducible first | assumption | exact HS.out _ (by repeat' (with_reducible first | exact Below.refl _ _ | refine Below.drew ?_ | refine ba ?_ _ | refine Below.setCell ?_ (by simp <;> omega) _ | refine bn ?_ (by assumption))) | fail)
      (first
        | (go_at_call 35; (with_reducible refine (size_8 h0 h1 h2 h3 h4 h5 h6 h7 h8 _).mono ?_); rintro e w5 ⟨rfl, hb5⟩; have s5 := (show Below W1.heap.size W1 w5 from (by repeat' (with_reducible first | exact Below.refl _ _ | refine Below.drew ?_ | refine ba ?_ _ | refine bn ?_ (by assumption)))).size; (try have z5a : Z0 w5 W1.heap.size := (by first | exact Z0.call (w := (W1.alloc (.cells #[.int .u64 0] 69)).drew) (Z0.new W1) hb5 | exact Z0.call (w := ((W1.alloc (.cells #[.int .u64 0] 69)).alloc (.cells #[.int .u64 0] 69)).drew) ((Z0.new W1).alloc _) hb5)); (try have z5b : Z0 w5 (W1.heap.size + 1) := Z0.call (w := ((W1.alloc (.cells #[.int .u64 0] 69)).alloc (.cells #[.int .u64 0] 69)).drew) (Z0.new1 W1 _) hb5); (try (have n5 := z5a.lt; have n5a : ¬ W1.heap.size = w5.heap.size := (by omega); have n5b : ¬ w5.heap.size = W1.heap.size := (by omega))))
        | (go_at_call 36; (with_reducible refine (start_8 h0 h1 h2 h3 h4 h5 h6 h7 p hp h8 _).mono ?_); rintro e w6 ⟨rfl, hb6⟩; have s6 := (show Below W1.heap.size W1 w6 from (by repeat' (with_reducible first | exact Below.refl _ _ | refine Below.drew ?_ | refine ba ?_ _ | refine bn ?_ (by assumption)))).size; (try (have z6a := Z0.call z5a hb6; have q6a := z6a.cell; have f6a := z6a.frz; have r6a := fun o => (z6a.alloc o).cell; have g6a := fun o => (z6a.alloc o).frz)); (try (have z6a := Z0.call (z5a.alloc _) hb6; have q6a := z6a.cell; have f6a := z6a.frz; have r6a := fun o => (z6a.alloc o).cell; have g6a := fun o => (z6a.alloc o).frz)); (try (have z6b := Z0.call z5b hb6; have q6b := z6b.cell; have f6b := z6b.frz; have r6b := fun o => (z6b.alloc o).cell; have g6b := fun o => (z6b.alloc o).frz)); (try (have z6b := Z0.call (z5b.alloc _) hb6; have q6b := z6b.cell; have f6b := z6b.frz; have r6b := fun o => (z6b.alloc o).cell; have g6b := fun o => (z6b.alloc o).frz)); (try (have z6c := Z0.call (w := w5.alloc (.cells #[.int .u64 0] 69)) (Z0.new w5) hb6; have q6c := z6c.cell; have f6c := z6c.frz; have r6c := fun o => (z6c.alloc o).cell; have g6c := fun o => (z6c.alloc o).frz)); (try (have z6c := Z0.call (w := (w5.alloc (.cells #[.int .u64 0] 69)).alloc (.cells #[.int .u64 0] 69)) ((Z0.new w5).alloc _) hb6; have z6d := Z0.call (w := (w5.alloc (.cells #[.int .u64 0] 69)).alloc (.cells #[.int .u64 0] 69)) (Z0.new1 w5 _) hb6; have q6c := z6c.cell; have f6c := z6c.frz; have q6d := z6d.cell; have f6d := z6d.frz)); (try (have n6 := z6a.lt; have n6a : ¬ W1.heap.size = w6.heap.size := (by omega); have n6b : ¬ w6.heap.size = W1.heap.size := (by omega))); (try (have m6 := z6c.lt; have m6a : ¬ w5.heap.size = w6.heap.size := (by omega); have m6b : ¬ w6.heap.size = w5.heap.size := (by omega))))
        | fail)
    all_goals
      go_wp2_with fail
      go_meet
      refine ⟨_, _, rfl, rfl, ?_⟩
      first
        | (with_reducible refine fin1 ?_; exact (by repeat' (with_reducible first | exact Below.refl _ _ | refine Below.drew ?_ | refine ba ?_ _ | refine bn ?_ (by assumption))))
        | (with_reducible refine fin2 ?_; exact (by repeat' (with_reducible first | exact Below.refl _ _ | refine Below.drew ?_ | refine ba ?_ _ | refine bn ?_ (by assumption))))
        | (with_reducible refine fin3 ?_ (by assumption) (by omega); exact (by repeat' (with_reducible first | exact Below.refl _ _ | refine Below.drew ?_ | refine ba ?_ _ | refine bn ?_ (by assumption))))
        | (with_reducible refine fin4 ?_ (by assumption) (by omega); exact (by repeat' (with_reducible first | exact Below.refl _ _ | refine Below.drew ?_ | refine ba ?_ _ | refine bn ?_ (by assumption))))
        | (with_reducible refine fin5 ?_ (by assumption) (by assumption) (by omega) (by omega) (by omega); exact (by repeat' (with_reducible first | exact Below.refl _ _ | refine Below.drew ?_ | refine ba ?_ _ | refine bn ?_ (by assumption))))
  case rest =>
    obtain ⟨g7, g8, rfl, rfl, hU7, hU8, hB⟩ := hcut
    have hX0 := HX0.out.call hB
    have hX1 := HX1.out.call hB
    have hX2 := HX2.out.call hB
    have hHS : ∀ wy, Below wc.heap.size wc wy → wy.cell? ⟨g7, 0, none⟩ = some (.int .u64 ((nb [h0, h1, h2, h3] : Nat) : Int)) := fun wy h => (hU7.call h).2
    have HS2 := Lib.hid hHS
    generalize nb [h0, h1, h2, h3] = sz at *
    clear hHS
    go_wp2_with fail
    refine wp_region_noPanic ?_
    refine wp_region_held_drew (S := fun wx => wx.cell? ⟨g7, 0, none⟩ = some (.int .u64 (sz : Int))) (by kernel_rfl) (by exact HS2.out _ (by repeat' (with_reducible first | exact Below.refl _ _ | refine Below.drew ?_ | refine ba ?_ _ | refine bn ?_ (by assumption)))) (fun hHeld => ?_)
    (refine wpAnyH_take (i := 0) (oi := ⟨some 15, _, _, _, _, _⟩) (v := ?_) rfl (by kernel_rfl) (by kernel_rfl) (by kernel_rfl) (fun _ _ _ h => h) (Or.inl ⟨by kernel_rfl, ?_⟩) (by assumption) ?_; rotate_left 1; (· intro w hSw; (try dsimp only at hSw); go_simp; (try with_reducible rfl)))
    try simp only [Act.put, List.setIfInBounds_toArray, List.set_cons_zero, List.set_cons_succ]
    (refine wpAnyH_take (i := 2) (oi := ⟨some 17, _, _, _, _, _⟩) (v := ?_) rfl (by kernel_rfl) (by kernel_rfl) (by kernel_rfl) (fun _ _ _ h => h) (Or.inl ⟨by kernel_rfl, ?_⟩) (by assumption) ?_; rotate_left 1; (· intro w hSw; (try dsimp only at hSw); go_simp; (try with_reducible rfl)))
    try simp only [Act.put, List.setIfInBounds_toArray, List.set_cons_zero, List.set_cons_succ]
    (refine wpAnyH_take (i := 3) (oi := ⟨some 18, _, _, _, _, _⟩) (v := ?_) rfl (by kernel_rfl) (by kernel_rfl) (by kernel_rfl) (fun _ _ _ h => h) (Or.inl ⟨by kernel_rfl, ?_⟩) (by assumption) ?_; rotate_left 1; (· intro w hSw; (try dsimp only at hSw); go_simp; (try with_reducible rfl)))
    try simp only [Act.put, List.setIfInBounds_toArray, List.set_cons_zero, List.set_cons_succ]
    (refine wpAnyH_take (i := 5) (oi := ⟨some 20, _, _, _, _, _⟩) (v := ?_) rfl (by kernel_rfl) (by kernel_rfl) (by kernel_rfl) (fun _ _ _ h => h) (Or.inl ⟨by kernel_rfl, ?_⟩) (by assumption) ?_; rotate_left 1; (· intro w hSw; (try dsimp only at hSw); go_simp; (try with_reducible rfl)))
    try simp only [Act.put, List.setIfInBounds_toArray, List.set_cons_zero, List.set_cons_succ]
    (refine wpAnyH_take (i := 6) (oi := ⟨some 21, _, _, _, _, _⟩) (v := ?_) rfl (by kernel_rfl) (by kernel_rfl) (by kernel_rfl) (fun _ _ _ h => h) (Or.inl ⟨by kernel_rfl, ?_⟩) (by assumption) ?_; rotate_left 1; (· intro w hSw; (try dsimp only at hSw); go_simp; (try with_reducible rfl)))
    try simp only [Act.put, List.setIfInBounds_toArray, List.set_cons_zero, List.set_cons_succ]
    (refine wpAnyH_take (i := 8) (oi := ⟨some 23, _, _, _, _, _⟩) (v := ?_) rfl (by kernel_rfl) (by kernel_rfl) (by kernel_rfl) (fun _ _ _ h => h) (Or.inl ⟨by kernel_rfl, ?_⟩) (by assumption) ?_; rotate_left 1; (· intro w hSw; (try dsimp only at hSw); go_simp; (try with_reducible rfl)))
    try simp only [Act.put, List.setIfInBounds_toArray, List.set_cons_zero, List.set_cons_succ]
    (refine wpAnyH_take (i := 9) (oi := ⟨some 24, _, _, _, _, _⟩) (v := ?_) rfl (by kernel_rfl) (by kernel_rfl) (by kernel_rfl) (fun _ _ _ h => h) (Or.inl ⟨by kernel_rfl, ?_⟩) (by assumption) ?_; rotate_left 1; (· intro w hSw; (try dsimp only at hSw); go_simp; (try with_reducible rfl)))
    try simp only [Act.put, List.setIfInBounds_toArray, List.set_cons_zero, List.set_cons_succ]
    (refine wpAnyH_take (i := 10) (oi := ⟨some 25, _, _, _, _, _⟩) (v := ?_) rfl (by kernel_rfl) (by kernel_rfl) (by kernel_rfl) (fun _ _ _ h => h) (Or.inl ⟨by kernel_rfl, ?_⟩) (by assumption) ?_; rotate_left 1; (· intro w hSw; (try dsimp only at hSw); go_simp; (try with_reducible rfl)))
    try simp only [Act.put, List.setIfInBounds_toArray, List.set_cons_zero, List.set_cons_succ]
    (refine wpAnyH_ready (rs := [1]) (by kernel_rfl) (by simp) ?_; refine AllReadyH.cons (o := ⟨some 16, _, _, _, _, _⟩) rfl (fun K hK => ?_) AllReadyH.nil; go_simp; (go_at_call 42; (with_reducible refine (has_4 _ _).mono ?_); rintro e w4 ⟨g4, rfl, hu4, hb4⟩); go_wp2_with fail; refine hK.out _ _ ?_ (fun hHeld => ?_); (· exact (by with_reducible first | assumption | exact HS2.out _ (by repeat' (with_reducible first | exact Below.refl _ _ | refine Below.drew ?_ | refine ba ?_ _ | refine bn ?_ (by assumption))))); clear hK K)
    try simp only [Act.put, List.setIfInBounds_toArray, List.set_cons_zero, List.set_cons_succ]
    (refine wpAnyH_ready (rs := [4]) (by kernel_rfl) (by simp) ?_; refine AllReadyH.cons (o := ⟨some 19, _, _, _, _, _⟩) rfl (fun K hK => ?_) AllReadyH.nil; go_simp; (go_at_call 42; (with_reducible refine (has_5 _ _).mono ?_); rintro e w5 ⟨g5, rfl, hu5, hb5⟩); go_wp2_with fail; refine hK.out _ _ ?_ (fun hHeld => ?_); (· exact (by with_reducible first | assumption | exact HS2.out _ (by repeat' (with_reducible first | exact Below.refl _ _ | refine Below.drew ?_ | refine ba ?_ _ | refine bn ?_ (by assumption))))); clear hK K)
    try simp only [Act.put, List.setIfInBounds_toArray, List.set_cons_zero, List.set_cons_succ]
    (refine wpAnyH_ready (rs := [7]) (by kernel_rfl) (by simp) ?_; refine AllReadyH.cons (o := ⟨some 22, _, _, _, _, _⟩) rfl (fun K hK => ?_) AllReadyH.nil; go_simp; (go_at_call 42; (with_reducible refine (has_6 _ _).mono ?_); rintro e w6 ⟨g6, rfl, hu6, hb6⟩); go_wp2_with fail; refine hK.out _ _ ?_ (fun hHeld => ?_); (· exact (by with_reducible first | assumption | exact HS2.out _ (by repeat' (with_reducible first | exact Below.refl _ _ | refine Below.drew ?_ | refine ba ?_ _ | refine bn ?_ (by assumption))))); clear hK K)
    try simp only [Act.put, List.setIfInBounds_toArray, List.set_cons_zero, List.set_cons_succ]
    (refine wpAnyH_ready (rs := [11]) (by kernel_rfl) (by simp) ?_; refine AllReadyH.cons (o := ⟨some 26, _, _, _, _, _⟩) rfl (fun K hK => ?_) AllReadyH.nil; go_simp; (go_at_call 42; (with_reducible refine (has_any sz _ _).mono ?_); rintro e w7 ⟨gz, rfl, hu7, hb7⟩); go_wp2_with fail; refine hK.out _ _ ?_ (fun hHeld => ?_); (· exact (by with_reducible first | assumption | exact HS2.out _ (by repeat' (with_reducible first | exact Below.refl _ _ | refine Below.drew ?_ | refine ba ?_ _ | refine bn ?_ (by assumption))))); clear hK K)
    try simp only [Act.put, List.setIfInBounds_toArray, List.set_cons_zero, List.set_cons_succ]
    (refine wpAnyH_ready (rs := [12]) (by kernel_rfl) (by simp) ?_; refine AllReadyH.cons (o := ⟨some 27, _, _, _, _, _⟩) rfl (fun K hK => ?_) AllReadyH.nil; go_simp; skip; go_wp2_with fail; refine hK.out _ _ ?_ (fun hHeld => ?_); (· exact (by with_reducible first | assumption | exact HS2.out _ (by repeat' (with_reducible first | exact Below.refl _ _ | refine Below.drew ?_ | refine ba ?_ _ | refine bn ?_ (by assumption))))); clear hK K)
    try simp only [Act.put, List.setIfInBounds_toArray, List.set_cons_zero, List.set_cons_succ]
    (refine wpAnyH_take (i := 13) (oi := ⟨some 6, _, _, _, _, _⟩) (v := ?_) rfl (by kernel_rfl) (by kernel_rfl) (by kernel_rfl) (fun _ _ _ h => h) (Or.inl ⟨by kernel_rfl, ?_⟩) (by assumption) ?_; rotate_left 1; (· intro w hSw; (try dsimp only at hSw); go_simp; (try with_reducible rfl)))
    try simp only [Act.put, List.setIfInBounds_toArray, List.set_cons_zero, List.set_cons_succ]
    refine wpAnyH_done (by kernel_rfl) ?_ _
    refine NoPanic.normal ?_
    go_wp2
    go_ret
    have k7 := fun o => ba (Below.refl w7.heap.size w7) o
    have k6 := fun o => ba hb7 o
    have k5 := fun o => ba (bn hb6 hb7) o
    have k4 := fun o => ba (bn (bn hb5 hb6) hb7) o
    have kc := fun o => ba (bn (bn (bn (show Below wc.heap.size wc w4 from (by repeat' (with_reducible first | exact Below.refl _ _ | refine Below.drew ?_ | refine ba ?_ _ | refine bn ?_ (by assumption)))) hb5) hb6) hb7) o
    refine ⟨w7.heap.size, rfl, by simp, ?_, ?_⟩
    · exact seven_cells w7 _ _ _ _ _ _ _ (askV1 (hX1.call (kc _)) (hu4.call (k4 _))) (askV2 (hU7.call (kc _)) (hX2.call (kc _))) (askV1 (hX1.call (kc _)) (hu5.call (k5 _))) (askV3 (hU8.call (kc _)) (hU7.call (kc _))) (askV1 (hX1.call (kc _)) (hu6.call (k6 _))) (askV4 (hX0.call (kc _)) rfl) (askV1 (hX1.call (kc _)) (hu7.call (k7 _)))
    · exact bn (bn (show Below w.heap.size w W1 from hg ▸ HB0.out) hB) (kc _)
end Go.Proofs.Ytdjncacknmejoaa.Fr
