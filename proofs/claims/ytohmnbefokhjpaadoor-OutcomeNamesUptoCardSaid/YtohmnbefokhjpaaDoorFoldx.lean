/-
  What holds at the head of a round of fold at values: the stack, and the rows that are being made. No condition.
  Contracts of the two functions that value.Copy hands to fold: a value alone, with room for its kids; a kid appended. Condition: at most 2^30 kids.
  The rounds of fold at values: a kid is gone into; a value that is through is put to the one above it. No condition.
-/
import Derived.Test.YtohmnbefokhjpaaDoorXcopy
namespace Go.Proofs.YtohmnbefokhjpaaDoor.Val
open Go.RowKit Go.Proofs.YtohmnbefokhjpaaDoor.Utf V

/-- A row that is being made: where it lies, and what it has. -/
structure RE where
  A : Option Addr
  m : Nat
  c : Nat
  done : List V
def RE.ob (r : RE) : Option Nat := (Value.slice r.A r.m r.c).ownBlock
/-- A value that is being gone through: its kids that are left, and what was made of it. -/
structure VE where
  x : SE
  k : Nat
  n : Nat
  t : ByteArray
  r : RE

def vflat (st : List VE) : List Value := st.flatMap fun p => [p.x.val, .int .u8 (p.k : Int), .int .u64 (p.n : Int), .string p.t, .slice p.r.A p.r.m p.r.c]
theorem vflat_len (st : List VE) : (vflat st).length = st.length * 5 := by
  induction st with
  | nil => rfl
  | cons p st ih => simp only [vflat, List.flatMap_cons, List.length_append, List.length_cons, List.length_nil] at ih ⊢; omega
theorem vflat_append (a b : List VE) : vflat (a ++ b) = vflat a ++ vflat b := by simp [vflat]
theorem vflat_one (p : VE) : vflat [p] = [p.x.val, .int .u8 (p.k : Int), .int .u64 (p.n : Int), .string p.t, .slice p.r.A p.r.m p.r.c] := rfl
def vweight (st : List VE) : Nat := (st.map fun p => 2 * itemsL p.x.ks + 1).sum
theorem vweight_snoc (st : List VE) (p : VE) : vweight (st ++ [p]) = vweight st + 2 * itemsL p.x.ks + 1 := by simp [vweight]; omega
theorem vw_len (st : List VE) : st.length ≤ vweight st := by
  induction st with
  | nil => simp
  | cons p r ih => simp [vweight] at ih ⊢; omega
/-- What comes of the values that one is within, when v comes of it. -/
def goV (rest : List VE) (v : V) : V := rest.foldr (fun p v => .mk p.k p.n p.t (p.r.done ++ v :: p.x.ks)) v
theorem goV_snoc (rest : List VE) (p : VE) (v : V) : goV (rest ++ [p]) v = goV rest (.mk p.k p.n p.t (p.r.done ++ v :: p.x.ks)) := by simp [goV]

/-- The blocks in which what was made may lie: none of the rows that are being made, and not the stack. -/
def Pst (B : Nat) (w : World) (G : Nat) (rs : List RE) (i : Nat) : Prop := B ≤ i ∧ i < w.heap.size ∧ i ≠ G ∧ ∀ r ∈ rs, r.ob ≠ some i

structure Rows (B : Nat) (w : World) (G : Nat) (rs : List RE) : Prop where
  row : ∀ r ∈ rs, ∃ xs, w.ownsRow B 27 4 (.slice r.A r.m r.c) r.m xs ∧ CellsOf w (Pst B w G rs) r.done xs ∧ r.ob ≠ some G
  dis : rs.Pairwise fun r r' => ∀ b, r.ob = some b → r'.ob ≠ some b

theorem Rows.move {B : Nat} {w w' : World} {G G' : Nat} {rs : List RE} (h : Rows B w G rs) (hk : ∀ i, B ≤ i → i < w.heap.size → i ≠ G → w'.heap[i]? = w.heap[i]?) (hs : w.heap.size ≤ w'.heap.size) (hG : G' = G ∨ w.heap.size ≤ G') : Rows B w' G' rs := by
  refine ⟨fun r hr => ?_, h.dis⟩
  obtain ⟨xs, ho, hc, hg⟩ := h.row r hr
  have hlt := ho.lt
  refine ⟨xs, ?_, (hc.keep fun i hi => hk i hi.1 hi.2.1 hi.2.2.1).mono fun i hi => ⟨hi.1, by have := hi.2.1; omega, by have h1 := hi.2.1; have h2 := hi.2.2.1; omega, hi.2.2.2⟩, fun e => ?_⟩
  · refine ⟨ho.1, ?_⟩
    rcases ho.2 with hn | ⟨g, cap, cur, hv, hb, hgg, hrest⟩
    · exact .inl hn
    · have hob : r.ob = some g := by unfold RE.ob; rw [hv]; rfl
      have hgl := hlt g hob
      exact .inr ⟨g, cap, cur, hv, hb, (hk g hb hgl.2 (fun e => hg (by rw [hob, e]))).trans hgg, hrest⟩
  · have := hlt G' e
    rcases hG with rfl | hG
    · exact hg e
    · omega

theorem Pst.less {B : Nat} {w : World} {G : Nat} {rs rs' : List RE} {i : Nat} (h : Pst B w G rs i) (hs : ∀ r ∈ rs', r ∈ rs) : Pst B w G rs' i := ⟨h.1, h.2.1, h.2.2.1, fun r hr => h.2.2.2 r (hs r hr)⟩

/-- A row without anything in it yet is begun, in new memory. -/
theorem Rows.begin {B : Nat} {w w' : World} {G G' : Nat} {rs : List RE} (h : Rows B w G rs) (hk : ∀ i, B ≤ i → i < w.heap.size → i ≠ G → w'.heap[i]? = w.heap[i]?) (hs : w.heap.size ≤ w'.heap.size) (hG : G' = G ∨ w.heap.size ≤ G')
    {r : RE} (hd : r.done = []) (hown : w'.ownsRow B 27 4 (.slice r.A r.m r.c) r.m []) (hnew : ∀ b, r.ob = some b → w.heap.size ≤ b) (hrG : r.ob ≠ some G') : Rows B w' G' (rs ++ [r]) := by
  refine ⟨fun r' hr' => ?_, List.pairwise_append.2 ⟨h.dis, List.pairwise_singleton _ _, fun a ha b hb => ?_⟩⟩
  · rcases List.mem_append.1 hr' with hr' | hr'
    · obtain ⟨xs, ho, hc, hg⟩ := h.row r' hr'
      obtain ⟨_, ho', _, hg'⟩ := (h.move hk hs hG).row r' hr'
      have hxs : ∃ ys, w'.ownsRow B 27 4 (.slice r'.A r'.m r'.c) r'.m ys ∧ ys = xs := by
        have hlt := ho.lt
        refine ⟨xs, ⟨ho.1, ?_⟩, rfl⟩
        rcases ho.2 with hn | ⟨g, cap, cur, hv, hb, hgg, hrest⟩
        · exact .inl hn
        · have hob : r'.ob = some g := by unfold RE.ob; rw [hv]; rfl
          have hgl := hlt g hob
          exact .inr ⟨g, cap, cur, hv, hb, (hk g hb hgl.2 (fun e => hg (by rw [hob, e]))).trans hgg, hrest⟩
      obtain ⟨_, ho2, rfl⟩ := hxs
      refine ⟨_, ho2, (hc.keep fun i hi => hk i hi.1 hi.2.1 hi.2.2.1).mono fun i hi => ⟨hi.1, by have := hi.2.1; omega, by have h1 := hi.2.1; have h2 := hi.2.2.1; omega, fun q hq e => ?_⟩, hg'⟩
      rcases List.mem_append.1 hq with hq | hq
      · exact hi.2.2.2 q hq e
      · rw [List.mem_singleton.1 hq] at e
        have := hnew i e
        have := hi.2.1
        omega
    · rw [List.mem_singleton.1 hr']
      exact ⟨[], hown, by rw [hd]; rfl, hrG⟩
  · rw [List.mem_singleton.1 hb]
    intro i hi e
    have := hnew i e
    obtain ⟨_, ho, _, _⟩ := h.row a ha
    have := (ho.lt i hi).2
    omega

/-- The value of the last row is appended to the one ahead of it. -/
theorem Rows.fuse {B : Nat} {w w' : World} {G : Nat} {rs : List RE} {a z : RE} (h : Rows B w G (rs ++ [a, z])) (hG : G < w.heap.size) {k n : Nat} {t : ByteArray} (hk : k < 256) (hn : n < 18446744073709551616) {xs : List Value} (hcs : CellsOf w (Pst B w G (rs ++ [a, z])) a.done xs)
    {g c : Nat} (hown : w'.ownsRow B 27 4 (.slice (some ⟨g, 0, none⟩) (a.m + 1) c) (a.m + 1) (xs ++ [.int .u8 (k : Int), .int .u64 (n : Int), .string t, .slice z.A z.m z.c])) (hg : w.grownBy w' a.ob) (hat : a.ob = some g ∨ w.heap.size ≤ g) :
    Rows B w' G (rs ++ [⟨some ⟨g, 0, none⟩, a.m + 1, c, a.done ++ [.mk k n t z.done]⟩]) := by
  obtain ⟨hd1, hd2, hd3⟩ := List.pairwise_append.1 h.dis
  obtain ⟨ys, hyo, hyc, hyg⟩ := h.row z (by simp)
  obtain ⟨_, hao, _, hag⟩ := h.row a (by simp)
  have haz : ∀ b, a.ob = some b → z.ob ≠ some b := by
    have := List.pairwise_cons.1 hd2
    exact this.1 z (by simp)
  -- what was made lies as it lay
  have hmv : ∀ i, Pst B w G (rs ++ [a]) i → w'.heap[i]? = w.heap[i]? := fun i hi => hg.block i hi.2.1 (fun e => hi.2.2.2 a (by simp) e.symm)
  have hP : ∀ i, Pst B w G (rs ++ [a]) i → Pst B w' G (rs ++ [⟨some ⟨g, 0, none⟩, a.m + 1, c, a.done ++ [.mk k n t z.done]⟩]) i := fun i hi => by
    refine ⟨hi.1, Nat.lt_of_lt_of_le hi.2.1 hg.size, hi.2.2.1, fun r hr e => ?_⟩
    rcases List.mem_append.1 hr with hr | hr
    · exact hi.2.2.2 r (by simp [hr]) e
    · rw [List.mem_singleton.1 hr] at e
      have e2 : g = i := by simpa [RE.ob, Value.ownBlock] using e
      subst e2
      rcases hat with ha | ha
      · exact hi.2.2.2 a (by simp) ha
      · have := hi.2.1; omega
  have hless : ∀ i, Pst B w G (rs ++ [a, z]) i → Pst B w G (rs ++ [a]) i := fun i hi => hi.less (fun r hr => by simp at hr ⊢; rcases hr with hr | hr <;> simp [hr])
  have hzK : Kids true w (Pst B w G (rs ++ [a])) z.done z.A z.m z.c := by
    have hCS : CS B w z.A z.m z.c z.done ys := ⟨hyo, hyc.mono fun i hi => ⟨hi.1, hi.2.1, hi.2.2.2 z (by simp)⟩⟩
    refine ⟨hCS.len.symm, own_cap hyo, fun hl => ?_⟩
    rcases hyo.2 with ⟨_, h0⟩ | ⟨gz, cap, cur, hv, hb, hgz, _⟩
    · omega
    · have hob : z.ob = some gz := by unfold RE.ob; rw [hv]; rfl
      injection hv with h1 _ h3
      refine ⟨gz, 0, h1, ⟨hb, (hyo.lt gz hob).2, fun e => hyg (by rw [hob, e]), fun r hr e => ?_⟩, fun _ => ⟨cur, hgz⟩, (hyc.mono hless).row fun j u hu => ?_⟩
      · rcases List.mem_append.1 hr with hr | hr
        · exact hd3 r hr z (by simp) gz e hob
        · rw [List.mem_singleton.1 hr] at e
          exact haz gz e hob
      · have hyo' : w.ownsRow B 27 4 (.slice (some ⟨gz, 0, none⟩) z.m z.c) z.m ys := by rw [← h1]; exact hyo
        rw [Nat.zero_add, hyo'.cellAt j (by rw [← hyo.1]; exact (List.getElem?_eq_some_iff.1 hu).1), hu]
  refine ⟨fun r hr => ?_, List.pairwise_append.2 ⟨hd1, List.pairwise_singleton _ _, fun p hp q hq => ?_⟩⟩
  · rcases List.mem_append.1 hr with hr | hr
    · obtain ⟨rx, ho, hc, hg2⟩ := h.row r (by simp [hr])
      refine ⟨rx, ho.kept hg ?_, ((hc.mono hless).keep hmv).mono hP, hg2⟩
      cases hob : r.ob with
      | none => exact .inl hob
      | some b =>
        refine .inr fun e => ?_
        have e2 : a.ob = some b := by
          have e3 : r.ob = a.ob := e
          rw [← e3, hob]
        exact hd3 r hr a (by simp) b hob e2
    · rw [List.mem_singleton.1 hr]
      refine ⟨_, hown, CellsOf.snoc hk hn ((hzK.keep hmv).mono hP) (((hcs.mono hless).keep hmv).mono hP), fun e => ?_⟩
      have e2 : g = G := by simpa [RE.ob, Value.ownBlock] using e
      subst e2
      rcases hat with ha | ha
      · exact hag ha
      · omega
  · rw [List.mem_singleton.1 hq]
    intro b hb e
    have e2 : g = b := by simpa [RE.ob, Value.ownBlock] using e
    subst e2
    rcases hat with ha | ha
    · exact hd3 p hp a (by simp) g hb ha
    · obtain ⟨_, ho, _, _⟩ := h.row p (by simp [hp])
      have := (ho.lt g hb).2
      omega
end Go.Proofs.YtohmnbefokhjpaaDoor.Val

namespace Go.Proofs.YtohmnbefokhjpaaDoor.Val
set_option maxRecDepth 100000
open Go.RowKit Go.Proofs.YtohmnbefokhjpaaDoor.Utf V

theorem box_grown {w w' : World} {g : Nat} {x0 x1 x2 x3 : Value} (h : Box w g x0 x1 x2 x3) {row : Option Nat} (hg : w.grownBy w' row) (hne : row ≠ some g) : Box w' g x0 x1 x2 x3 := (hg.block g h.lt (fun e => hne e.symm)).trans h

/-- A value alone is answered: its kids are none yet, with room for them. -/
def GivesA (k n : Nat) (t : ByteArray) (w : World) (e : Ending) (w' : World) : Prop := ∃ A c, e = .returned (.agg #[.int .u8 k, .int .u64 n, .string t, .slice A 0 c]) ∧ w'.ownsRow w.heap.size 27 4 (.slice A 0 c) 0 [] ∧ Below w.heap.size w w'

theorem grown_setCell (w : World) (p : Addr) (u : Value) : w.grownBy (w.setCell p u) (some p.block) :=
  ⟨rfl, rfl, rfl, by simp, fun k _ hk => Below.heap_setCell w p u k (fun e => hk (by rw [e]))⟩
theorem own_far {w : World} {base : Nat} {e : TypeId} {size n : Nat} {v : Value} {xs : List Value} (h : w.ownsRow base e size v n xs) {p : Addr} (hp : v.ownBlock ≠ some p.block) (u : Value) : (w.setCell p u).ownsRow base e size v n xs :=
  h.kept (grown_setCell w p u) (.inr hp)
theorem own_far4 {w : World} {base : Nat} {e : TypeId} {size n : Nat} {v : Value} {xs : List Value} (h : w.ownsRow base e size v n xs) {g : Nat} (hp : v.ownBlock ≠ some g) (x0 x1 x2 x3 : Value) :
    ((((w.setCell ⟨g, 0, none⟩ x0).setCell ⟨g, 1, none⟩ x1).setCell ⟨g, 2, none⟩ x2).setCell ⟨g, 3, none⟩ x3).ownsRow base e size v n xs :=
  own_far (p := ⟨g, 3, none⟩) (own_far (p := ⟨g, 2, none⟩) (own_far (p := ⟨g, 1, none⟩) (own_far (p := ⟨g, 0, none⟩) h hp _) hp _) hp _) hp _

set_option maxHeartbeats 800000 in
theorem copyA_any (k n : Nat) (t : ByteArray) (A : Option Addr) (l c : Nat) (w : World) (hl : l ≤ 1073741824) :
    Calls Tryd.prog 14 #[.agg #[.int .u8 k, .int .u64 n, .string t, .slice A l c]] w (GivesA k n t w) := by
  obtain ⟨i0, hi, hz0, hz1, hz2⟩ := info_parts infoV
  have hW := ((two_boxes w (.cells #[.int .u8 k, .int .u64 n, .string t, .slice A l c] 27) (.cells #[.int .u8 0, .int .u64 0, .string ⟨#[]⟩, .slice none 0 0] 27)).alloc (by simp; omega) (.cells #[.int .u8 k, .int .u64 n, .string t, .slice none 0 0] 27))
  have b1 := (Box.new2 w (.cells #[.int .u8 k, .int .u64 n, .string t, .slice A l c] 27) (.int .u8 0) (.int .u64 0) (.string ⟨#[]⟩) (.slice none 0 0)).alloc (.cells #[.int .u8 k, .int .u64 n, .string t, .slice none 0 0] 27)
  have b2 := Box.new2 (w.alloc (.cells #[.int .u8 k, .int .u64 n, .string t, .slice A l c] 27)) (.cells #[.int .u8 0, .int .u64 0, .string ⟨#[]⟩, .slice none 0 0] 27) (.int .u8 k) (.int .u64 n) (.string t) (.slice none 0 0)
  simp only [World.size_alloc] at b2
  rcases Nat.eq_zero_or_pos l with rfl | h0
  · go_enter Tryd.func14, Tryd.ntmps14
    go_wp2
    refine bodyPost_ret (v := .agg #[.int .u8 k, .int .u64 n, .string t, .slice none 0 0]) (by simp [results, Tryd.results14, go_sem]) rfl ?_
    exact ⟨none, 0, rfl, World.ownsRow_nil _ _ _ _, ((two_boxes w _ _).alloc (by simp; omega) _)⟩
  · have hI : decide ((0 : Int) < (l : Int)) = true := by simp; omega
    have HW := Lib.hid hW
    clear hW
    go_enter Tryd.func14, Tryd.ntmps14
    go_wp2_with (at_make; refine wpList_make_own _ rfl _ _ 25 rfl w.heap.size 27 i0 _ 4 Tryd.underlying25 hi hz0 hz1 .i64 .i64 (l : Int) l rfl rfl rfl (by rw [hz2]; omega) (by unfold maxLen; omega) (by simp; omega) ?_; intro w2 hown2 hgrow2; have hbm := (Below.refl _ _).grown hgrow2 (Nat.le_refl _) (fun _ h => (by cases h)); have hb2 := below_next HW.out hbm; have hb1' := b1.call hbm; have hb2' := b2.call hbm; obtain ⟨x0, x1, x2, x3, xf⟩ := hb1'.all; obtain ⟨y0, y1, y2, y3, yf⟩ := hb2'.all; simp only [World.size_alloc] at hown2; have hown3 := Lib.hid hown2; clear hown2)
    refine bodyPost_ret (v := .agg #[.int .u8 k, .int .u64 n, .string t, .slice (some ⟨w.heap.size + 1 + 1 + 1, 0, none⟩) 0 l]) (by simp [results, Tryd.results14, go_sem, x0, x1, x2, x3]) rfl ?_
    refine ⟨_, _, rfl, own_far4 (own_far (p := ⟨w.heap.size + 1 + 1, 3, none⟩) hown3.out ?_ _) ?_ _ _ _ _, below_set4 (hb2.setCell (p := ⟨w.heap.size + 1 + 1, 3, none⟩) (by simp only; omega) _) (by omega) _ _ _ _⟩
    · simp [Value.ownBlock] <;> omega
    · simp [Value.ownBlock] <;> omega

/-- A kid is appended: of what was there nothing has turned but the row. -/
def GivesP (k n : Nat) (t : ByteArray) (m B : Nat) (xs ys : List Value) (ob : Option Nat) (w : World) (e : Ending) (w' : World) : Prop :=
  ∃ g c, e = .returned (.agg #[.int .u8 k, .int .u64 n, .string t, .slice (some ⟨g, 0, none⟩) (m + 1) c]) ∧ w'.ownsRow B 27 4 (.slice (some ⟨g, 0, none⟩) (m + 1) c) (m + 1) (xs ++ ys) ∧ w.grownBy w' ob ∧ (ob = some g ∨ w.heap.size ≤ g)

set_option maxHeartbeats 800000 in
theorem copyP_any (k n : Nat) (t : ByteArray) (A : Option Addr) (m c B : Nat) (xs : List Value) (k' n' : Nat) (t' : ByteArray) (A' : Option Addr) (l' c' : Nat) (w : World) (hm : m ≤ 1073741824) (hB : B ≤ w.heap.size) (hown : w.ownsRow B 27 4 (.slice A m c) m xs) :
    Calls Tryd.prog 16 #[.agg #[.int .u8 k, .int .u64 n, .string t, .slice A m c], .agg #[.int .u8 k', .int .u64 n', .string t', .slice A' l' c']] w
      (GivesP k n t m B xs [.int .u8 k', .int .u64 n', .string t', .slice A' l' c'] (Value.slice A m c).ownBlock w) := by
  obtain ⟨i0, hi, hz0, hz1, hz2⟩ := info_parts infoV
  have hOB := hown.lt
  have hW := ((two_boxes w (.cells #[.int .u8 k, .int .u64 n, .string t, .slice A m c] 27) (.cells #[.int .u8 k', .int .u64 n', .string t', .slice A' l' c'] 27)).alloc (by simp; omega) (.cells #[.int .u8 0, .int .u64 0, .string ⟨#[]⟩, .slice none 0 0] 27))
  have b0 := ((Box.new w (.int .u8 k) (.int .u64 n) (.string t) (.slice A m c)).alloc (.cells #[.int .u8 k', .int .u64 n', .string t', .slice A' l' c'] 27)).alloc (.cells #[.int .u8 0, .int .u64 0, .string ⟨#[]⟩, .slice none 0 0] 27)
  have b2 := Box.new2 (w.alloc (.cells #[.int .u8 k, .int .u64 n, .string t, .slice A m c] 27)) (.cells #[.int .u8 k', .int .u64 n', .string t', .slice A' l' c'] 27) (.int .u8 0) (.int .u64 0) (.string ⟨#[]⟩) (.slice none 0 0)
  simp only [World.size_alloc] at b2
  have b0' := b0.alloc (.cells #[.int .u8 k', .int .u64 n', .string t', .slice A' l' c'] 27)
  have b2' := b2.alloc (.cells #[.int .u8 k', .int .u64 n', .string t', .slice A' l' c'] 27)
  have hW' := hW.alloc (by simp; omega) (.cells #[.int .u8 k', .int .u64 n', .string t', .slice A' l' c'] 27)
  have HW := Lib.hid hW'
  have HOB := Lib.hid hOB
  clear hW hW' hOB b0 b2
  go_enter Tryd.func16, Tryd.ntmps16
  go_wp2_with (at_builtin; refine wpList_append_lies _ rfl _ _ 25 rfl B 27 i0 _ 4 56 Tryd.underlying25 hi hz0 hz1 hz2 rfl (by omega) _ _ _ rfl ((((hown.alloc _).alloc _).alloc _).alloc _) ⟨w.heap.size + 1 + 1 + 1, 0, none⟩ 1 1 [.int .u8 k', .int .u64 n', .string t', .slice A' l' c'] rfl rfl (news4 _ _ _ _ _ _ _ (by simp)) (fun u hu => (by simp at hu; rcases hu with rfl | rfl | rfl | rfl <;> rfl)) (by omega) (by unfold maxLen; omega) (by omega) (by simp; omega) _ rfl ?_; intro g9 cap9 w9 hown9 hgrow9 hat9 _; have hx := box_grown b0' hgrow9 (fun e => (by have := (HOB.out _ e).2; omega)); have hy := box_grown b2' hgrow9 (fun e => (by have := (HOB.out _ e).2; omega)); obtain ⟨x0, x1, x2, x3, xf⟩ := hx.all; obtain ⟨y0, y1, y2, y3, yf⟩ := hy.all; have hown3 := Lib.hid hown9; have HG := Lib.hid hgrow9; have HAT := Lib.hid hat9; clear hown9 hgrow9 hat9 hown)
  refine bodyPost_ret (v := .agg #[.int .u8 k, .int .u64 n, .string t, .slice (some ⟨g9, 0, none⟩) (m + 1) cap9]) (by simp [results, Tryd.results16, go_sem, y0, y1, y2, y3]) rfl ?_
  have hne : (Value.slice A m c).ownBlock = some g9 ∨ w.heap.size + 1 + 1 + 1 < g9 := by
    rcases HAT.out with h | h
    · exact .inl h
    · right; simp at h; omega
  have hg9 : g9 ≠ w.heap.size ∧ g9 ≠ w.heap.size + 1 + 1 := by
    rcases hne with h | h
    · have := (HOB.out _ h).2
      omega
    · omega
  refine ⟨g9, cap9, rfl, own_far4 (own_far (p := ⟨w.heap.size, 3, none⟩) hown3.out ?_ _) ?_ _ _ _ _, ?_, ?_⟩
  · simp [Value.ownBlock]; omega
  · simp [Value.ownBlock]; omega
  · have hb := HW.out
    have hg := HG.out
    have hs := hg.size
    simp at hs
    refine ⟨hg.os.trans hb.os, hg.tape.trans hb.tape, hg.output.trans hb.output, by simp; omega, fun i hi hne => ?_⟩
    have e4 : ∀ (W : World) (a b c d : Value), ((((W.setCell ⟨w.heap.size + 1 + 1, 0, none⟩ a).setCell ⟨w.heap.size + 1 + 1, 1, none⟩ b).setCell ⟨w.heap.size + 1 + 1, 2, none⟩ c).setCell ⟨w.heap.size + 1 + 1, 3, none⟩ d).heap[i]? = W.heap[i]? := fun W a b c d =>
      (Below.heap_setCell _ _ _ _ (by simp only; omega)).trans ((Below.heap_setCell _ _ _ _ (by simp only; omega)).trans ((Below.heap_setCell _ _ _ _ (by simp only; omega)).trans (Below.heap_setCell _ _ _ _ (by simp only; omega))))
    rw [e4, Below.heap_setCell _ _ _ _ (show i ≠ w.heap.size by omega), hg.block i (by simp; omega) hne]
    exact hb.block i hi
  · rcases hne with h | h
    · exact .inl h
    · right; omega
end Go.Proofs.YtohmnbefokhjpaaDoor.Val

namespace Go.Proofs.YtohmnbefokhjpaaDoor.Val
set_option maxRecDepth 100000
open Go.RowKit Go.Proofs.YtohmnbefokhjpaaDoor.Utf V

theorem infoStepV : (Tryd.prog.info? 58).map (fun i => (i.zero, i.size, i.bytes)) = some (some (.agg #[.slice none 0 0, .int .u8 0, .int .u64 0, .string ⟨#[]⟩, .slice none 0 0]), 5, 80) := by kernel_rfl

structure VS (T : Nat) (W0 wr : World) (G n c : Nat) (rest : List VE) (z : VE) (q : V) (g : Nat) : Prop where
  len : rest.length + 1 = n
  own : wr.ownsRow W0.heap.size 58 5 (.slice (some ⟨G, 0, none⟩) n c) n (vflat (rest ++ [z]))
  rows : Rows W0.heap.size wr G ((rest ++ [z]).map (·.r))
  ok : ∀ p ∈ rest ++ [z], Kids false wr (fun i => i < W0.heap.size) p.x.ks p.x.A p.x.l p.x.c ∧ p.k < 256 ∧ p.n < 18446744073709551616 ∧ p.r.m + itemsL p.x.ks ≤ T
  cnt : ∀ p ∈ rest, p.r.m + 1 + itemsL p.x.ks ≤ T
  hq : q = goV rest (.mk z.k z.n z.t (z.r.done ++ z.x.ks))
  hg : vweight (rest ++ [z]) ≤ g
  below : Below W0.heap.size W0 wr
  small : n ≤ g ∧ g ≤ 4294967296

theorem VS.call {T : Nat} {W0 wr w' : World} {G n c : Nat} {rest : List VE} {z : VE} {q : V} {g : Nat} (h : VS T W0 wr G n c rest z q g) (hb : Below wr.heap.size wr w') : VS T W0 w' G n c rest z q g :=
  ⟨h.len, h.own.kept (grown_of_below hb) (.inr (by simp [Value.ownBlock])), h.rows.move (fun i _ hi _ => hb.block i hi) hb.size (.inl rfl), fun p hp => by
    obtain ⟨h1, h2⟩ := h.ok p hp
    exact ⟨h1.keep fun i hi => hb.block i (Nat.lt_of_lt_of_le hi h.below.size), h2⟩, h.cnt, h.hq, h.hg, below_next h.below hb, h.small⟩
theorem VS.drew {T : Nat} {W0 wr : World} {G n c : Nat} {rest : List VE} {z : VE} {q : V} {g : Nat} (h : VS T W0 wr G n c rest z q g) : VS T W0 wr.drew G n c rest z q g := h.call (Below.refl _ _).drew

theorem vset0 (rest : List VE) (z : VE) (m : Nat) (hl : rest.length = m) (v : Value) : (vflat (rest ++ [z])).set (m * 5) v = vflat rest ++ [v, .int .u8 (z.k : Int), .int .u64 (z.n : Int), .string z.t, .slice z.r.A z.r.m z.r.c] := by
  have hfl : (vflat rest).length = m * 5 := by rw [vflat_len, hl]
  rw [vflat_append, vflat_one, List.set_append_right _ _ (by omega), hfl, Nat.sub_self]
  rfl
theorem vset4 (rest : List VE) (z : VE) (m : Nat) (hl : rest.length = m) (a b c d : Value) (ys : List Value) : ((((vflat (rest ++ [z]) ++ ys).set (m * 5 + 1) a).set (m * 5 + 2) b).set (m * 5 + 3) c).set (m * 5 + 4) d = vflat rest ++ [z.x.val, a, b, c, d] ++ ys := by
  have hfl : (vflat rest).length = m * 5 := by rw [vflat_len, hl]
  rw [vflat_append, vflat_one, List.append_assoc, List.set_append_right _ _ (by omega), List.set_append_right _ _ (by omega), List.set_append_right _ _ (by omega), List.set_append_right _ _ (by omega), hfl,
    show m * 5 + 1 - m * 5 = 1 by omega, show m * 5 + 2 - m * 5 = 2 by omega, show m * 5 + 3 - m * 5 = 3 by omega, show m * 5 + 4 - m * 5 = 4 by omega]
  simp

/-- A value's kids are all through: it is put to the one above. -/
theorem VS.pop {T : Nat} {W0 wr w' : World} {G m c : Nat} {rest : List VE} {a z : VE} {q : V} {g : Nat} (h : VS T W0 wr G (m + 2) c (rest ++ [a]) z q g) (hl : rest.length = m) (hz : z.x.l = 0) {xs : List Value}
    (hcs : CellsOf wr (Pst W0.heap.size wr G ((rest ++ [a] ++ [z]).map (·.r))) a.r.done xs) {g9 cap9 : Nat}
    (hown : w'.ownsRow W0.heap.size 27 4 (.slice (some ⟨g9, 0, none⟩) (a.r.m + 1) cap9) (a.r.m + 1) (xs ++ [.int .u8 (z.k : Int), .int .u64 (z.n : Int), .string z.t, .slice z.r.A z.r.m z.r.c])) (hg : wr.grownBy w' a.r.ob) (hat : a.r.ob = some g9 ∨ wr.heap.size ≤ g9) :
    VS T W0 ((((w'.setCell ⟨G, m * 5 + 1, none⟩ (.int .u8 (a.k : Int))).setCell ⟨G, m * 5 + 2, none⟩ (.int .u64 (a.n : Int))).setCell ⟨G, m * 5 + 3, none⟩ (.string a.t)).setCell ⟨G, m * 5 + 4, none⟩ (.slice (some ⟨g9, 0, none⟩) (a.r.m + 1) cap9)) G (m + 1) c rest
      ⟨a.x, a.k, a.n, a.t, ⟨some ⟨g9, 0, none⟩, a.r.m + 1, cap9, a.r.done ++ [.mk z.k z.n z.t z.r.done]⟩⟩ q (g - 1) := by
  obtain ⟨hz1, hz2, hz3, hz4⟩ := h.ok z (by simp)
  obtain ⟨ha1, ha2, ha3, ha4⟩ := h.ok a (by simp)
  have hac := h.cnt a (by simp)
  have e1 : z.x.ks = [] := List.eq_nil_of_length_eq_zero (by rw [← hz1.len]; exact hz)
  obtain ⟨_, hao, _, haG⟩ := h.rows.row a.r (by simp)
  have hGl := h.own.lt G (by simp [Value.ownBlock])
  have hrows : Rows W0.heap.size wr G (rest.map (·.r) ++ [a.r, z.r]) := by have := h.rows; simpa using this
  have hfuse := hrows.fuse hGl.2 (t := z.t) hz2 hz3 (by simpa using hcs) hown hg hat
  have hown' : w'.ownsRow W0.heap.size 58 5 (.slice (some ⟨G, 0, none⟩) (m + 2) c) (m + 2) (vflat (rest ++ [a] ++ [z])) := h.own.kept hg (.inr (by
    simp only [Value.ownBlock]
    exact fun e => haG e.symm))
  have h1 := (hown'.stored (m * 5 + 1) (.int .u8 (a.k : Int))).1
  have h2 := (h1.stored (m * 5 + 2) (.int .u64 (a.n : Int))).1
  have h3 := (h2.stored (m * 5 + 3) (.string a.t)).1
  have h4 := (h3.stored (m * 5 + 4) (.slice (some ⟨g9, 0, none⟩) (a.r.m + 1) cap9)).1
  rw [vflat_append (rest ++ [a]) [z], vset4 rest a m hl] at h4
  have h5 := own_pop h4 (m := m + 1) (by simp [vflat_len, hl]; omega) (by omega)
  have hw := h.hg
  rw [vweight_snoc] at hw
  have hw2 := hw
  rw [vweight_snoc] at hw2
  have hs := h.small
  have hil := vw_len (rest ++ [a])
  rw [List.length_append, hl] at hil
  simp only [List.length_cons, List.length_nil] at hil
  rw [vweight_snoc] at hil
  have hset : ∀ (W : World) (x0 x1 x2 x3 : Value) (i : Nat), i ≠ G → ((((W.setCell ⟨G, m * 5 + 1, none⟩ x0).setCell ⟨G, m * 5 + 2, none⟩ x1).setCell ⟨G, m * 5 + 3, none⟩ x2).setCell ⟨G, m * 5 + 4, none⟩ x3).heap[i]? = W.heap[i]? := fun W x0 x1 x2 x3 i hi =>
    (Below.heap_setCell _ _ _ _ hi).trans ((Below.heap_setCell _ _ _ _ hi).trans ((Below.heap_setCell _ _ _ _ hi).trans (Below.heap_setCell _ _ _ _ hi)))
  have hob : ∀ i, i < W0.heap.size → w'.heap[i]? = wr.heap[i]? := fun i hi => hg.block i (Nat.lt_of_lt_of_le hi h.below.size) (fun e => by
    have := (hao.lt i e.symm).1
    omega)
  refine ⟨by omega, by rw [vflat_append, vflat_one]; simpa using h5, ?_, fun p hp => ?_, fun p hp => h.cnt p (by simp [hp]), ?_, by rw [vweight_snoc]; simp only; omega, ?_, by omega⟩
  · have := hfuse.move (w' := (((w'.setCell ⟨G, m * 5 + 1, none⟩ (.int .u8 (a.k : Int))).setCell ⟨G, m * 5 + 2, none⟩ (.int .u64 (a.n : Int))).setCell ⟨G, m * 5 + 3, none⟩ (.string a.t)).setCell ⟨G, m * 5 + 4, none⟩ (.slice (some ⟨g9, 0, none⟩) (a.r.m + 1) cap9)) (G' := G) (fun i _ _ hi => hset _ _ _ _ _ i hi) (by simp) (.inl rfl)
    simpa using this
  · have hkeep : ∀ i, i < W0.heap.size → ((((w'.setCell ⟨G, m * 5 + 1, none⟩ (.int .u8 (a.k : Int))).setCell ⟨G, m * 5 + 2, none⟩ (.int .u64 (a.n : Int))).setCell ⟨G, m * 5 + 3, none⟩ (.string a.t)).setCell ⟨G, m * 5 + 4, none⟩ (.slice (some ⟨g9, 0, none⟩) (a.r.m + 1) cap9)).heap[i]? = wr.heap[i]? := fun i hi =>
      (hset _ _ _ _ _ i (by omega)).trans (hob i hi)
    rcases List.mem_append.1 hp with hp | hp
    · obtain ⟨a1, a2⟩ := h.ok p (by simp [hp])
      exact ⟨a1.keep hkeep, a2⟩
    · rw [List.mem_singleton.1 hp]
      exact ⟨ha1.keep hkeep, ha2, ha3, by simp only; omega⟩
  · rw [h.hq, goV_snoc, e1, List.append_nil]
    simp
  · have hbw : Below W0.heap.size W0 w' := h.below.grown hg h.below.size (fun k hk => (hao.lt k hk).1)
    exact (((hbw.setCell (p := ⟨G, m * 5 + 1, none⟩) hGl.1 _).setCell (p := ⟨G, m * 5 + 2, none⟩) hGl.1 _).setCell (p := ⟨G, m * 5 + 3, none⟩) hGl.1 _).setCell (p := ⟨G, m * 5 + 4, none⟩) hGl.1 _

/-- The next kid is gone into. -/
theorem VS.push {T : Nat} {W0 wr w6 : World} {G m c : Nat} {rest : List VE} {z : VE} {x2 y : SE} {q : V} {g : Nat} {kk kn : Nat} {kt : ByteArray} (h : VS T W0 wr G (m + 1) c rest z q g) (hkk : kk < 256) (hkn : kn < 18446744073709551616)
    (hx2 : Kids false w6 (fun i => i < W0.heap.size) x2.ks x2.A x2.l x2.c) (hy : Kids false w6 (fun i => i < W0.heap.size) y.ks y.A y.l y.c) (hks : z.x.ks = .mk kk kn kt y.ks :: x2.ks) {g' cap : Nat} {A1 : Option Addr} {c1 : Nat}
    (hown : w6.ownsRow W0.heap.size 58 5 (.slice (some ⟨g', 0, none⟩) (m + 1 + 1) cap) (m + 1 + 1) (vflat rest ++ [x2.val, .int .u8 (z.k : Int), .int .u64 (z.n : Int), .string z.t, .slice z.r.A z.r.m z.r.c] ++ [y.val, .int .u8 (kk : Int), .int .u64 (kn : Int), .string kt, .slice A1 0 c1])) (hb : Below W0.heap.size wr w6)
    (hk : ∀ i, W0.heap.size ≤ i → i < wr.heap.size → i ≠ G → w6.heap[i]? = wr.heap[i]?) (hG : g' = G ∨ wr.heap.size ≤ g') (hrow : w6.ownsRow W0.heap.size 27 4 (.slice A1 0 c1) 0 []) (hnew : ∀ b, (Value.slice A1 0 c1).ownBlock = some b → wr.heap.size ≤ b) (hrG : (Value.slice A1 0 c1).ownBlock ≠ some g') :
    VS T W0 w6 g' (m + 1 + 1) cap (rest ++ [⟨x2, z.k, z.n, z.t, z.r⟩]) ⟨y, kk, kn, kt, ⟨A1, 0, c1, []⟩⟩ q (g - 1) := by
  have hw := h.hg
  rw [vweight_snoc, hks] at hw
  simp only [itemsL, items] at hw
  have hs := h.small
  obtain ⟨hz1, hz2, hz3, hz4⟩ := h.ok z (by simp)
  rw [hks] at hz4
  simp only [itemsL, items] at hz4
  have hil := vw_len rest
  have hl := h.len
  have hkeep : ∀ i, i < W0.heap.size → w6.heap[i]? = wr.heap[i]? := fun i hi => hb.block i hi
  refine ⟨by simp; omega, by rw [vflat_append, vflat_append, vflat_one, vflat_one]; exact hown, ?_, fun p hp => ?_, fun p hp => ?_, ?_, by rw [vweight_snoc, vweight_snoc]; simp only; omega, h.below.trans hb, by omega⟩
  · have := (h.rows.begin hk hb.size hG (r := ⟨A1, 0, c1, []⟩) rfl hrow hnew hrG)
    simpa using this
  · simp only [List.append_assoc, List.mem_append, List.mem_cons, List.not_mem_nil, or_false] at hp
    rcases hp with hp | rfl | rfl
    · obtain ⟨a1, a2⟩ := h.ok p (by simp [hp])
      exact ⟨a1.keep hkeep, a2⟩
    · exact ⟨hx2, hz2, hz3, by simp only; omega⟩
    · exact ⟨hy, hkk, hkn, by simp only; omega⟩
  · rcases List.mem_append.1 hp with hp | hp
    · exact h.cnt p hp
    · rw [List.mem_singleton.1 hp]
      simp only
      omega
  · rw [h.hq, hks, goV_snoc]
    simp
end Go.Proofs.YtohmnbefokhjpaaDoor.Val
