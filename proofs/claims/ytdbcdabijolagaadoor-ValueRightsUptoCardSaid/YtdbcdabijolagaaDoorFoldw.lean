/-
  What holds at the head of a round of fold at values: the stack, and the rows that are being made. No condition.
-/
import Derived.Test.YtdbcdabijolagaaDoorXcopy
namespace Go.Proofs.YtdbcdabijolagaaDoor.Val
open Go.RowKit Go.Proofs.YtdbcdabijolagaaDoor.Utf V

/-- A row that is being made: where it lies, and what it has. -/
structure RE where
  A : Option Addr
  m : Nat
  c : Nat
  done : List V
def RE.ob (r : RE) : Option Nat := (Value.slice r.A r.m r.c).ownBlock
/-- A value that is being gone through: its kids that are left, and what was made of it. -/
structure VE where
  x : SE
  k : Nat
  n : Nat
  t : ByteArray
  r : RE

def vflat (st : List VE) : List Value := st.flatMap fun p => [p.x.val, .int .u8 (p.k : Int), .int .u64 (p.n : Int), .string p.t, .slice p.r.A p.r.m p.r.c]
theorem vflat_len (st : List VE) : (vflat st).length = st.length * 5 := by
  induction st with
  | nil => rfl
  | cons p st ih => simp only [vflat, List.flatMap_cons, List.length_append, List.length_cons, List.length_nil] at ih ⊢; omega
theorem vflat_append (a b : List VE) : vflat (a ++ b) = vflat a ++ vflat b := by simp [vflat]
theorem vflat_one (p : VE) : vflat [p] = [p.x.val, .int .u8 (p.k : Int), .int .u64 (p.n : Int), .string p.t, .slice p.r.A p.r.m p.r.c] := rfl
def vweight (st : List VE) : Nat := (st.map fun p => 2 * itemsL p.x.ks + 1).sum
theorem vweight_snoc (st : List VE) (p : VE) : vweight (st ++ [p]) = vweight st + 2 * itemsL p.x.ks + 1 := by simp [vweight]; omega
theorem vw_len (st : List VE) : st.length ≤ vweight st := by
  induction st with
  | nil => simp
  | cons p r ih => simp [vweight] at ih ⊢; omega
/-- What comes of the values that one is within, when v comes of it. -/
def goV (rest : List VE) (v : V) : V := rest.foldr (fun p v => .mk p.k p.n p.t (p.r.done ++ v :: p.x.ks)) v
theorem goV_snoc (rest : List VE) (p : VE) (v : V) : goV (rest ++ [p]) v = goV rest (.mk p.k p.n p.t (p.r.done ++ v :: p.x.ks)) := by simp [goV]

/-- The blocks in which what was made may lie: none of the rows that are being made, and not the stack. -/
def Pst (B : Nat) (w : World) (G : Nat) (rs : List RE) (i : Nat) : Prop := B ≤ i ∧ i < w.heap.size ∧ i ≠ G ∧ ∀ r ∈ rs, r.ob ≠ some i

structure Rows (B : Nat) (w : World) (G : Nat) (rs : List RE) : Prop where
  row : ∀ r ∈ rs, ∃ xs, w.ownsRow B 25 4 (.slice r.A r.m r.c) r.m xs ∧ CellsOf w (Pst B w G rs) r.done xs ∧ r.ob ≠ some G
  dis : rs.Pairwise fun r r' => ∀ b, r.ob = some b → r'.ob ≠ some b

theorem Rows.move {B : Nat} {w w' : World} {G G' : Nat} {rs : List RE} (h : Rows B w G rs) (hk : ∀ i, B ≤ i → i < w.heap.size → i ≠ G → w'.heap[i]? = w.heap[i]?) (hs : w.heap.size ≤ w'.heap.size) (hG : G' = G ∨ w.heap.size ≤ G') : Rows B w' G' rs := by
  refine ⟨fun r hr => ?_, h.dis⟩
  obtain ⟨xs, ho, hc, hg⟩ := h.row r hr
  have hlt := ho.lt
  refine ⟨xs, ?_, (hc.keep fun i hi => hk i hi.1 hi.2.1 hi.2.2.1).mono fun i hi => ⟨hi.1, by have := hi.2.1; omega, by have h1 := hi.2.1; have h2 := hi.2.2.1; omega, hi.2.2.2⟩, fun e => ?_⟩
  · refine ⟨ho.1, ?_⟩
    rcases ho.2 with hn | ⟨g, cap, cur, hv, hb, hgg, hrest⟩
    · exact .inl hn
    · have hob : r.ob = some g := by unfold RE.ob; rw [hv]; rfl
      have hgl := hlt g hob
      exact .inr ⟨g, cap, cur, hv, hb, (hk g hb hgl.2 (fun e => hg (by rw [hob, e]))).trans hgg, hrest⟩
  · have := hlt G' e
    rcases hG with rfl | hG
    · exact hg e
    · omega

theorem Pst.less {B : Nat} {w : World} {G : Nat} {rs rs' : List RE} {i : Nat} (h : Pst B w G rs i) (hs : ∀ r ∈ rs', r ∈ rs) : Pst B w G rs' i := ⟨h.1, h.2.1, h.2.2.1, fun r hr => h.2.2.2 r (hs r hr)⟩

/-- A row without anything in it yet is begun, in new memory. -/
theorem Rows.begin {B : Nat} {w w' : World} {G G' : Nat} {rs : List RE} (h : Rows B w G rs) (hk : ∀ i, B ≤ i → i < w.heap.size → i ≠ G → w'.heap[i]? = w.heap[i]?) (hs : w.heap.size ≤ w'.heap.size) (hG : G' = G ∨ w.heap.size ≤ G')
    {r : RE} (hd : r.done = []) (hown : w'.ownsRow B 25 4 (.slice r.A r.m r.c) r.m []) (hnew : ∀ b, r.ob = some b → w.heap.size ≤ b) (hrG : r.ob ≠ some G') : Rows B w' G' (rs ++ [r]) := by
  refine ⟨fun r' hr' => ?_, List.pairwise_append.2 ⟨h.dis, List.pairwise_singleton _ _, fun a ha b hb => ?_⟩⟩
  · rcases List.mem_append.1 hr' with hr' | hr'
    · obtain ⟨xs, ho, hc, hg⟩ := h.row r' hr'
      obtain ⟨_, ho', _, hg'⟩ := (h.move hk hs hG).row r' hr'
      have hxs : ∃ ys, w'.ownsRow B 25 4 (.slice r'.A r'.m r'.c) r'.m ys ∧ ys = xs := by
        have hlt := ho.lt
        refine ⟨xs, ⟨ho.1, ?_⟩, rfl⟩
        rcases ho.2 with hn | ⟨g, cap, cur, hv, hb, hgg, hrest⟩
        · exact .inl hn
        · have hob : r'.ob = some g := by unfold RE.ob; rw [hv]; rfl
          have hgl := hlt g hob
          exact .inr ⟨g, cap, cur, hv, hb, (hk g hb hgl.2 (fun e => hg (by rw [hob, e]))).trans hgg, hrest⟩
      obtain ⟨_, ho2, rfl⟩ := hxs
      refine ⟨_, ho2, (hc.keep fun i hi => hk i hi.1 hi.2.1 hi.2.2.1).mono fun i hi => ⟨hi.1, by have := hi.2.1; omega, by have h1 := hi.2.1; have h2 := hi.2.2.1; omega, fun q hq e => ?_⟩, hg'⟩
      rcases List.mem_append.1 hq with hq | hq
      · exact hi.2.2.2 q hq e
      · rw [List.mem_singleton.1 hq] at e
        have := hnew i e
        have := hi.2.1
        omega
    · rw [List.mem_singleton.1 hr']
      exact ⟨[], hown, by rw [hd]; rfl, hrG⟩
  · rw [List.mem_singleton.1 hb]
    intro i hi e
    have := hnew i e
    obtain ⟨_, ho, _, _⟩ := h.row a ha
    have := (ho.lt i hi).2
    omega

/-- The value of the last row is appended to the one ahead of it. -/
theorem Rows.fuse {B : Nat} {w w' : World} {G : Nat} {rs : List RE} {a z : RE} (h : Rows B w G (rs ++ [a, z])) (hG : G < w.heap.size) {k n : Nat} {t : ByteArray} (hk : k < 256) (hn : n < 18446744073709551616) {xs : List Value} (hcs : CellsOf w (Pst B w G (rs ++ [a, z])) a.done xs)
    {g c : Nat} (hown : w'.ownsRow B 25 4 (.slice (some ⟨g, 0, none⟩) (a.m + 1) c) (a.m + 1) (xs ++ [.int .u8 (k : Int), .int .u64 (n : Int), .string t, .slice z.A z.m z.c])) (hg : w.grownBy w' a.ob) (hat : a.ob = some g ∨ w.heap.size ≤ g) :
    Rows B w' G (rs ++ [⟨some ⟨g, 0, none⟩, a.m + 1, c, a.done ++ [.mk k n t z.done]⟩]) := by
  obtain ⟨hd1, hd2, hd3⟩ := List.pairwise_append.1 h.dis
  obtain ⟨ys, hyo, hyc, hyg⟩ := h.row z (by simp)
  obtain ⟨_, hao, _, hag⟩ := h.row a (by simp)
  have haz : ∀ b, a.ob = some b → z.ob ≠ some b := by
    have := List.pairwise_cons.1 hd2
    exact this.1 z (by simp)
  -- what was made lies as it lay
  have hmv : ∀ i, Pst B w G (rs ++ [a]) i → w'.heap[i]? = w.heap[i]? := fun i hi => hg.block i hi.2.1 (fun e => hi.2.2.2 a (by simp) e.symm)
  have hP : ∀ i, Pst B w G (rs ++ [a]) i → Pst B w' G (rs ++ [⟨some ⟨g, 0, none⟩, a.m + 1, c, a.done ++ [.mk k n t z.done]⟩]) i := fun i hi => by
    refine ⟨hi.1, Nat.lt_of_lt_of_le hi.2.1 hg.size, hi.2.2.1, fun r hr e => ?_⟩
    rcases List.mem_append.1 hr with hr | hr
    · exact hi.2.2.2 r (by simp [hr]) e
    · rw [List.mem_singleton.1 hr] at e
      have e2 : g = i := by simpa [RE.ob, Value.ownBlock] using e
      subst e2
      rcases hat with ha | ha
      · exact hi.2.2.2 a (by simp) ha
      · have := hi.2.1; omega
  have hless : ∀ i, Pst B w G (rs ++ [a, z]) i → Pst B w G (rs ++ [a]) i := fun i hi => hi.less (fun r hr => by simp at hr ⊢; rcases hr with hr | hr <;> simp [hr])
  have hzK : Kids true w (Pst B w G (rs ++ [a])) z.done z.A z.m z.c := by
    have hCS : CS B w z.A z.m z.c z.done ys := ⟨hyo, hyc.mono fun i hi => ⟨hi.1, hi.2.1, hi.2.2.2 z (by simp)⟩⟩
    refine ⟨hCS.len.symm, own_cap hyo, fun hl => ?_⟩
    rcases hyo.2 with ⟨_, h0⟩ | ⟨gz, cap, cur, hv, hb, hgz, _⟩
    · omega
    · have hob : z.ob = some gz := by unfold RE.ob; rw [hv]; rfl
      injection hv with h1 _ h3
      refine ⟨gz, 0, h1, ⟨hb, (hyo.lt gz hob).2, fun e => hyg (by rw [hob, e]), fun r hr e => ?_⟩, fun _ => ⟨cur, hgz⟩, (hyc.mono hless).row fun j u hu => ?_⟩
      · rcases List.mem_append.1 hr with hr | hr
        · exact hd3 r hr z (by simp) gz e hob
        · rw [List.mem_singleton.1 hr] at e
          exact haz gz e hob
      · have hyo' : w.ownsRow B 25 4 (.slice (some ⟨gz, 0, none⟩) z.m z.c) z.m ys := by rw [← h1]; exact hyo
        rw [Nat.zero_add, hyo'.cellAt j (by rw [← hyo.1]; exact (List.getElem?_eq_some_iff.1 hu).1), hu]
  refine ⟨fun r hr => ?_, List.pairwise_append.2 ⟨hd1, List.pairwise_singleton _ _, fun p hp q hq => ?_⟩⟩
  · rcases List.mem_append.1 hr with hr | hr
    · obtain ⟨rx, ho, hc, hg2⟩ := h.row r (by simp [hr])
      refine ⟨rx, ho.kept hg ?_, ((hc.mono hless).keep hmv).mono hP, hg2⟩
      cases hob : r.ob with
      | none => exact .inl hob
      | some b =>
        refine .inr fun e => ?_
        have e2 : a.ob = some b := by
          have e3 : r.ob = a.ob := e
          rw [← e3, hob]
        exact hd3 r hr a (by simp) b hob e2
    · rw [List.mem_singleton.1 hr]
      refine ⟨_, hown, CellsOf.snoc hk hn ((hzK.keep hmv).mono hP) (((hcs.mono hless).keep hmv).mono hP), fun e => ?_⟩
      have e2 : g = G := by simpa [RE.ob, Value.ownBlock] using e
      subst e2
      rcases hat with ha | ha
      · exact hag ha
      · omega
  · rw [List.mem_singleton.1 hq]
    intro b hb e
    have e2 : g = b := by simpa [RE.ob, Value.ownBlock] using e
    subst e2
    rcases hat with ha | ha
    · exact hd3 p hp a (by simp) g hb ha
    · obtain ⟨_, ho, _, _⟩ := h.row p (by simp [hp])
      have := (ho.lt g hb).2
      omega
end Go.Proofs.YtdbcdabijolagaaDoor.Val
