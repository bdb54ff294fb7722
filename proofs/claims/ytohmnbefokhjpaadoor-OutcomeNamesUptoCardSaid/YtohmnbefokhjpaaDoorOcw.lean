/-
  A copy whose rows are each owned (with the spare places behind them), none in a block that a row within it lies in: fold at values once more, with more said of what it makes; and so value.Copy. Condition: a value of bulk at most 2^30.
-/
import Derived.Test.YtohmnbefokhjpaaDoorFoldv
import Derived.Test.YtohmnbefokhjpaaDoorMade
namespace Go.Proofs.YtohmnbefokhjpaaDoor.Sep
set_option maxRecDepth 100000
open Go.RowKit Go.Proofs.YtohmnbefokhjpaaDoor.Utf Go.Proofs.YtohmnbefokhjpaaDoor.Val V

/- The four cells of a value whose kids lie in owned rows in blocks of P, each row's block apart from all within it; and the cells of a row of such values. -/
mutual
def VO (w : World) : V → (Nat → Prop) → Value → Value → Value → Value → Prop
  | .mk k n t ks, P, x0, x1, x2, x3 => ∃ A l c, x0 = .int .u8 (k : Int) ∧ x1 = .int .u64 (n : Int) ∧ x2 = .string t ∧ x3 = .slice A l c ∧ k < 256 ∧ n < 18446744073709551616 ∧
      ∃ xs, w.ownsRow 0 27 4 (.slice A l c) l xs ∧ (∀ b, (Value.slice A l c).ownBlock = some b → P b) ∧ CO w (fun i => P i ∧ (Value.slice A l c).ownBlock ≠ some i) ks xs
def CO (w : World) (P : Nat → Prop) : List V → List Value → Prop
  | [], xs => xs = []
  | v :: vs, xs => ∃ x0 x1 x2 x3 ys, xs = x0 :: x1 :: x2 :: x3 :: ys ∧ VO w v P x0 x1 x2 x3 ∧ CO w P vs ys
end
/-- A slice that is such a row. -/
def KsO (w : World) (P : Nat → Prop) (ks : List V) (A : Option Addr) (l c : Nat) : Prop := ∃ xs, w.ownsRow 0 27 4 (.slice A l c) l xs ∧ (∀ b, (Value.slice A l c).ownBlock = some b → P b) ∧ CO w (fun i => P i ∧ (Value.slice A l c).ownBlock ≠ some i) ks xs

theorem vO_iff {w : World} {P : Nat → Prop} {k n : Nat} {t : ByteArray} {ks : List V} {x0 x1 x2 x3 : Value} : VO w (.mk k n t ks) P x0 x1 x2 x3 ↔ ∃ A l c, x0 = .int .u8 (k : Int) ∧ x1 = .int .u64 (n : Int) ∧ x2 = .string t ∧ x3 = .slice A l c ∧ k < 256 ∧ n < 18446744073709551616 ∧ KsO w P ks A l c := by
  simp only [VO, KsO]
theorem own_keep {w w' : World} {B : Nat} {v : Value} {n : Nat} {xs : List Value} (h : w.ownsRow B 27 4 v n xs) (hk : ∀ b, v.ownBlock = some b → w'.heap[b]? = w.heap[b]?) : w'.ownsRow B 27 4 v n xs := by
  refine ⟨h.1, ?_⟩
  rcases h.2 with hn | ⟨g, cap, cur, hv, hb, hgg, hrest⟩
  · exact .inl hn
  · exact .inr ⟨g, cap, cur, hv, hb, (hk g (by rw [hv]; rfl)).trans hgg, hrest⟩
mutual
theorem VO.keep {w w' : World} : ∀ {v : V} {P : Nat → Prop} {x0 x1 x2 x3 : Value}, (∀ i, P i → w'.heap[i]? = w.heap[i]?) → VO w v P x0 x1 x2 x3 → VO w' v P x0 x1 x2 x3
  | .mk _ _ _ _, _, _, _, _, _, hk, h => by
    obtain ⟨A, l, c, e0, e1, e2, e3, a1, a2, xs, ho, hP, hc⟩ := h
    exact ⟨A, l, c, e0, e1, e2, e3, a1, a2, xs, own_keep ho fun b hb => hk b (hP b hb), hP, CO.keep (fun i hi => hk i hi.1) hc⟩
theorem CO.keep {w w' : World} : ∀ {P : Nat → Prop} {vs : List V} {xs : List Value}, (∀ i, P i → w'.heap[i]? = w.heap[i]?) → CO w P vs xs → CO w' P vs xs
  | _, [], _, _, h => h
  | _, _ :: _, _, hk, h => by
    obtain ⟨x0, x1, x2, x3, ys, e, hv, hr⟩ := h
    exact ⟨x0, x1, x2, x3, ys, e, VO.keep hk hv, CO.keep hk hr⟩
end
mutual
theorem VO.mono {w : World} : ∀ {v : V} {P P' : Nat → Prop} {x0 x1 x2 x3 : Value}, VO w v P x0 x1 x2 x3 → (∀ i, P i → P' i) → VO w v P' x0 x1 x2 x3
  | .mk _ _ _ _, _, _, _, _, _, _, h, hk => by
    obtain ⟨A, l, c, e0, e1, e2, e3, a1, a2, xs, ho, hP, hc⟩ := h
    exact ⟨A, l, c, e0, e1, e2, e3, a1, a2, xs, ho, fun b hb => hk b (hP b hb), CO.mono hc fun i hi => ⟨hk i hi.1, hi.2⟩⟩
theorem CO.mono {w : World} : ∀ {P P' : Nat → Prop} {vs : List V} {xs : List Value}, CO w P vs xs → (∀ i, P i → P' i) → CO w P' vs xs
  | _, _, [], _, h, _ => h
  | _, _, _ :: _, _, h, hk => by
    obtain ⟨x0, x1, x2, x3, ys, e, hv, hr⟩ := h
    exact ⟨x0, x1, x2, x3, ys, e, VO.mono hv hk, CO.mono hr hk⟩
end
theorem KsO.keep {w w' : World} {P : Nat → Prop} {ks : List V} {A : Option Addr} {l c : Nat} (h : KsO w P ks A l c) (hk : ∀ i, P i → w'.heap[i]? = w.heap[i]?) : KsO w' P ks A l c := by
  obtain ⟨xs, ho, hP, hc⟩ := h
  exact ⟨xs, own_keep ho fun b hb => hk b (hP b hb), hP, CO.keep (fun i hi => hk i hi.1) hc⟩
theorem KsO.mono {w : World} {P P' : Nat → Prop} {ks : List V} {A : Option Addr} {l c : Nat} (h : KsO w P ks A l c) (hk : ∀ i, P i → P' i) : KsO w P' ks A l c := by
  obtain ⟨xs, ho, hP, hc⟩ := h
  exact ⟨xs, ho, fun b hb => hk b (hP b hb), CO.mono hc fun i hi => ⟨hk i hi.1, hi.2⟩⟩
theorem CO.snoc {w : World} {P : Nat → Prop} {k n : Nat} {t : ByteArray} {ks : List V} {A : Option Addr} {l c : Nat} (hk : k < 256) (hn : n < 18446744073709551616) (hK : KsO w P ks A l c) :
    ∀ {vs : List V} {xs : List Value}, CO w P vs xs → CO w P (vs ++ [.mk k n t ks]) (xs ++ [.int .u8 (k : Int), .int .u64 (n : Int), .string t, .slice A l c])
  | [], xs, h => by
    rw [show xs = [] from h]
    exact ⟨_, _, _, _, [], rfl, vO_iff.2 ⟨A, l, c, rfl, rfl, rfl, rfl, hk, hn, hK⟩, rfl⟩
  | _ :: _, _, h => by
    obtain ⟨x0, x1, x2, x3, ys, rfl, hv, hr⟩ := h
    exact ⟨x0, x1, x2, x3, _, rfl, hv, CO.snoc hk hn hK hr⟩
theorem CO.len {w : World} {P : Nat → Prop} : ∀ {vs : List V} {xs : List Value}, CO w P vs xs → xs.length = vs.length * 4
  | [], xs, h => by rw [show xs = [] from h]; rfl
  | _ :: _, _, h => by
    obtain ⟨x0, x1, x2, x3, ys, rfl, _, hr⟩ := h
    simp [hr.len]
    omega
/-- What such a row reads as. -/
theorem kids_ofO {w : World} {P : Nat → Prop} {ks : List V} {A : Option Addr} {l c : Nat} {xs : List Value} (ho : w.ownsRow 0 27 4 (.slice A l c) l xs) (hP : ∀ b, (Value.slice A l c).ownBlock = some b → P b) (hc : CellsOf w P ks xs) : Val.Kids true w P ks A l c := by
  refine ⟨by have := ho.1; have := hc.len; omega, own_cap ho, fun hl => ?_⟩
  rcases ho.2 with ⟨_, h0⟩ | ⟨g, cap, cur, hv, hb, hgz, _⟩
  · omega
  · have hob : (Value.slice A l c).ownBlock = some g := by rw [hv]; rfl
    injection hv with h1 _ h3
    refine ⟨g, 0, h1, hP g hob, fun _ => ⟨cur, hgz⟩, hc.row fun j u hu => ?_⟩
    have ho' : w.ownsRow 0 27 4 (.slice (some ⟨g, 0, none⟩) l c) l xs := by rw [← h1]; exact ho
    rw [Nat.zero_add, ho'.cellAt j (by rw [← ho.1]; exact (List.getElem?_eq_some_iff.1 hu).1), hu]
mutual
theorem VO.cells {w : World} : ∀ {v : V} {P : Nat → Prop} {x0 x1 x2 x3 : Value}, VO w v P x0 x1 x2 x3 → ∀ {vs : List V} {ys : List Value}, CellsOf w P vs ys → CellsOf w P (v :: vs) (x0 :: x1 :: x2 :: x3 :: ys)
  | .mk _ _ _ _, _, _, _, _, _, h, _, _, hr => by
    obtain ⟨A, l, c, rfl, rfl, rfl, rfl, a1, a2, xs, ho, hP, hc⟩ := h
    exact ⟨A, l, c, _, rfl, a1, a2, kids_ofO ho hP ((CO.cells hc).mono fun i hi => hi.1), hr⟩
theorem CO.cells {w : World} : ∀ {P : Nat → Prop} {vs : List V} {xs : List Value}, CO w P vs xs → CellsOf w P vs xs
  | _, [], _, h => h
  | _, _ :: _, _, h => by
    obtain ⟨x0, x1, x2, x3, ys, rfl, hv, hr⟩ := h
    exact VO.cells hv (CO.cells hr)
end
theorem KsO.kids {w : World} {P : Nat → Prop} {ks : List V} {A : Option Addr} {l c : Nat} (h : KsO w P ks A l c) : Val.Kids true w P ks A l c := by
  obtain ⟨xs, ho, hP, hc⟩ := h
  exact kids_ofO ho hP (hc.cells.mono fun i hi => hi.1)
theorem KsO.far4 {B : Nat} {w : World} {ks : List V} {A : Option Addr} {l c : Nat} (h : KsO w (fun i => B ≤ i ∧ i < w.heap.size) ks A l c) {g : Nat} (hp : g < B) (x0 x1 x2 x3 : Value) : KsO ((((w.setCell ⟨g, 0, none⟩ x0).setCell ⟨g, 1, none⟩ x1).setCell ⟨g, 2, none⟩ x2).setCell ⟨g, 3, none⟩ x3) (fun i => B ≤ i ∧ i < w.heap.size) ks A l c :=
  h.keep fun i hi => (Below.heap_setCell _ _ _ _ (by simp only; omega)).trans ((Below.heap_setCell _ _ _ _ (by simp only; omega)).trans ((Below.heap_setCell _ _ _ _ (by simp only; omega)).trans (Below.heap_setCell _ _ _ _ (by simp only; omega))))
/-- A value is answered whose kids lie so, in new memory. -/
def GivesO (k n : Nat) (t : ByteArray) (ks : List V) (w : World) (e : Ending) (w' : World) : Prop := ∃ A l c, e = .returned (.agg #[.int .u8 k, .int .u64 n, .string t, .slice A l c]) ∧ KsO w' (fun i => w.heap.size ≤ i ∧ i < w'.heap.size) ks A l c ∧ Below w.heap.size w w'

structure Rows (B : Nat) (w : World) (G : Nat) (rs : List RE) : Prop where
  row : ∀ r ∈ rs, ∃ xs, w.ownsRow B 27 4 (.slice r.A r.m r.c) r.m xs ∧ CO w (Pst B w G rs) r.done xs ∧ r.ob ≠ some G
  dis : rs.Pairwise fun r r' => ∀ b, r.ob = some b → r'.ob ≠ some b

theorem Rows.move {B : Nat} {w w' : World} {G G' : Nat} {rs : List RE} (h : Rows B w G rs) (hk : ∀ i, B ≤ i → i < w.heap.size → i ≠ G → w'.heap[i]? = w.heap[i]?) (hs : w.heap.size ≤ w'.heap.size) (hG : G' = G ∨ w.heap.size ≤ G') : Rows B w' G' rs := by
  refine ⟨fun r hr => ?_, h.dis⟩
  obtain ⟨xs, ho, hc, hg⟩ := h.row r hr
  have hlt := ho.lt
  refine ⟨xs, ?_, (hc.keep fun i hi => hk i hi.1 hi.2.1 hi.2.2.1).mono fun i hi => ⟨hi.1, by have := hi.2.1; omega, by have h1 := hi.2.1; have h2 := hi.2.2.1; omega, hi.2.2.2⟩, fun e => ?_⟩
  · refine ⟨ho.1, ?_⟩
    rcases ho.2 with hn | ⟨g, cap, cur, hv, hb, hgg, hrest⟩
    · exact .inl hn
    · have hob : r.ob = some g := by unfold RE.ob; rw [hv]; rfl
      have hgl := hlt g hob
      exact .inr ⟨g, cap, cur, hv, hb, (hk g hb hgl.2 (fun e => hg (by rw [hob, e]))).trans hgg, hrest⟩
  · have := hlt G' e
    rcases hG with rfl | hG
    · exact hg e
    · omega


/-- A row without anything in it yet is begun, in new memory. -/
theorem Rows.begin {B : Nat} {w w' : World} {G G' : Nat} {rs : List RE} (h : Rows B w G rs) (hk : ∀ i, B ≤ i → i < w.heap.size → i ≠ G → w'.heap[i]? = w.heap[i]?) (hs : w.heap.size ≤ w'.heap.size) (hG : G' = G ∨ w.heap.size ≤ G')
    {r : RE} (hd : r.done = []) (hown : w'.ownsRow B 27 4 (.slice r.A r.m r.c) r.m []) (hnew : ∀ b, r.ob = some b → w.heap.size ≤ b) (hrG : r.ob ≠ some G') : Rows B w' G' (rs ++ [r]) := by
  refine ⟨fun r' hr' => ?_, List.pairwise_append.2 ⟨h.dis, List.pairwise_singleton _ _, fun a ha b hb => ?_⟩⟩
  · rcases List.mem_append.1 hr' with hr' | hr'
    · obtain ⟨xs, ho, hc, hg⟩ := h.row r' hr'
      obtain ⟨_, ho', _, hg'⟩ := (h.move hk hs hG).row r' hr'
      have hxs : ∃ ys, w'.ownsRow B 27 4 (.slice r'.A r'.m r'.c) r'.m ys ∧ ys = xs := by
        have hlt := ho.lt
        refine ⟨xs, ⟨ho.1, ?_⟩, rfl⟩
        rcases ho.2 with hn | ⟨g, cap, cur, hv, hb, hgg, hrest⟩
        · exact .inl hn
        · have hob : r'.ob = some g := by unfold RE.ob; rw [hv]; rfl
          have hgl := hlt g hob
          exact .inr ⟨g, cap, cur, hv, hb, (hk g hb hgl.2 (fun e => hg (by rw [hob, e]))).trans hgg, hrest⟩
      obtain ⟨_, ho2, rfl⟩ := hxs
      refine ⟨_, ho2, (hc.keep fun i hi => hk i hi.1 hi.2.1 hi.2.2.1).mono fun i hi => ⟨hi.1, by have := hi.2.1; omega, by have h1 := hi.2.1; have h2 := hi.2.2.1; omega, fun q hq e => ?_⟩, hg'⟩
      rcases List.mem_append.1 hq with hq | hq
      · exact hi.2.2.2 q hq e
      · rw [List.mem_singleton.1 hq] at e
        have := hnew i e
        have := hi.2.1
        omega
    · rw [List.mem_singleton.1 hr']
      exact ⟨[], hown, by rw [hd]; rfl, hrG⟩
  · rw [List.mem_singleton.1 hb]
    intro i hi e
    have := hnew i e
    obtain ⟨_, ho, _, _⟩ := h.row a ha
    have := (ho.lt i hi).2
    omega

/-- The value of the last row is appended to the one ahead of it. -/
theorem Rows.fuse {B : Nat} {w w' : World} {G : Nat} {rs : List RE} {a z : RE} (h : Rows B w G (rs ++ [a, z])) (hG : G < w.heap.size) {k n : Nat} {t : ByteArray} (hk : k < 256) (hn : n < 18446744073709551616) {xs : List Value} (hcs : CO w (Pst B w G (rs ++ [a, z])) a.done xs)
    {g c : Nat} (hown : w'.ownsRow B 27 4 (.slice (some ⟨g, 0, none⟩) (a.m + 1) c) (a.m + 1) (xs ++ [.int .u8 (k : Int), .int .u64 (n : Int), .string t, .slice z.A z.m z.c])) (hg : w.grownBy w' a.ob) (hat : a.ob = some g ∨ w.heap.size ≤ g) :
    Rows B w' G (rs ++ [⟨some ⟨g, 0, none⟩, a.m + 1, c, a.done ++ [.mk k n t z.done]⟩]) := by
  obtain ⟨hd1, hd2, hd3⟩ := List.pairwise_append.1 h.dis
  obtain ⟨ys, hyo, hyc, hyg⟩ := h.row z (by simp)
  obtain ⟨_, hao, _, hag⟩ := h.row a (by simp)
  have haz : ∀ b, a.ob = some b → z.ob ≠ some b := by
    have := List.pairwise_cons.1 hd2
    exact this.1 z (by simp)
  -- what was made lies as it lay
  have hmv : ∀ i, Pst B w G (rs ++ [a]) i → w'.heap[i]? = w.heap[i]? := fun i hi => hg.block i hi.2.1 (fun e => hi.2.2.2 a (by simp) e.symm)
  have hP : ∀ i, Pst B w G (rs ++ [a]) i → Pst B w' G (rs ++ [⟨some ⟨g, 0, none⟩, a.m + 1, c, a.done ++ [.mk k n t z.done]⟩]) i := fun i hi => by
    refine ⟨hi.1, Nat.lt_of_lt_of_le hi.2.1 hg.size, hi.2.2.1, fun r hr e => ?_⟩
    rcases List.mem_append.1 hr with hr | hr
    · exact hi.2.2.2 r (by simp [hr]) e
    · rw [List.mem_singleton.1 hr] at e
      have e2 : g = i := by simpa [RE.ob, Value.ownBlock] using e
      subst e2
      rcases hat with ha | ha
      · exact hi.2.2.2 a (by simp) ha
      · have := hi.2.1; omega
  have hless : ∀ i, Pst B w G (rs ++ [a, z]) i → Pst B w G (rs ++ [a]) i := fun i hi => hi.less (fun r hr => by simp at hr ⊢; rcases hr with hr | hr <;> simp [hr])
  have hzK : KsO w (Pst B w G (rs ++ [a])) z.done z.A z.m z.c := by
    refine ⟨ys, own_less hyo (Nat.zero_le _), fun b hb => ⟨(hyo.lt b hb).1, (hyo.lt b hb).2, fun e => hyg (by rw [show z.ob = some b from hb, e]), fun r hr e => ?_⟩, hyc.mono fun i hi => ⟨hless i hi, hi.2.2.2 z (by simp)⟩⟩
    rcases List.mem_append.1 hr with hr | hr
    · exact hd3 r hr z (by simp) b e hb
    · rw [List.mem_singleton.1 hr] at e
      exact haz b e hb
  refine ⟨fun r hr => ?_, List.pairwise_append.2 ⟨hd1, List.pairwise_singleton _ _, fun p hp q hq => ?_⟩⟩
  · rcases List.mem_append.1 hr with hr | hr
    · obtain ⟨rx, ho, hc, hg2⟩ := h.row r (by simp [hr])
      refine ⟨rx, ho.kept hg ?_, ((hc.mono hless).keep hmv).mono hP, hg2⟩
      cases hob : r.ob with
      | none => exact .inl hob
      | some b =>
        refine .inr fun e => ?_
        have e2 : a.ob = some b := by
          have e3 : r.ob = a.ob := e
          rw [← e3, hob]
        exact hd3 r hr a (by simp) b hob e2
    · rw [List.mem_singleton.1 hr]
      refine ⟨_, hown, CO.snoc hk hn ((hzK.keep hmv).mono hP) (((hcs.mono hless).keep hmv).mono hP), fun e => ?_⟩
      have e2 : g = G := by simpa [RE.ob, Value.ownBlock] using e
      subst e2
      rcases hat with ha | ha
      · exact hag ha
      · omega
  · rw [List.mem_singleton.1 hq]
    intro b hb e
    have e2 : g = b := by simpa [RE.ob, Value.ownBlock] using e
    subst e2
    rcases hat with ha | ha
    · exact hd3 p hp a (by simp) g hb ha
    · obtain ⟨_, ho, _, _⟩ := h.row p (by simp [hp])
      have := (ho.lt g hb).2
      omega

structure VS (T : Nat) (W0 wr : World) (G n c : Nat) (rest : List VE) (z : VE) (q : V) (g : Nat) : Prop where
  len : rest.length + 1 = n
  own : wr.ownsRow W0.heap.size 58 5 (.slice (some ⟨G, 0, none⟩) n c) n (vflat (rest ++ [z]))
  rows : Rows W0.heap.size wr G ((rest ++ [z]).map (·.r))
  ok : ∀ p ∈ rest ++ [z], Val.Kids false wr (fun i => i < W0.heap.size) p.x.ks p.x.A p.x.l p.x.c ∧ p.k < 256 ∧ p.n < 18446744073709551616 ∧ p.r.m + itemsL p.x.ks ≤ T
  cnt : ∀ p ∈ rest, p.r.m + 1 + itemsL p.x.ks ≤ T
  hq : q = goV rest (.mk z.k z.n z.t (z.r.done ++ z.x.ks))
  hg : vweight (rest ++ [z]) ≤ g
  below : Below W0.heap.size W0 wr
  small : n ≤ g ∧ g ≤ 4294967296

theorem VS.call {T : Nat} {W0 wr w' : World} {G n c : Nat} {rest : List VE} {z : VE} {q : V} {g : Nat} (h : VS T W0 wr G n c rest z q g) (hb : Below wr.heap.size wr w') : VS T W0 w' G n c rest z q g :=
  ⟨h.len, h.own.kept (grown_of_below hb) (.inr (by simp [Value.ownBlock])), h.rows.move (fun i _ hi _ => hb.block i hi) hb.size (.inl rfl), fun p hp => by
    obtain ⟨h1, h2⟩ := h.ok p hp
    exact ⟨h1.keep fun i hi => hb.block i (Nat.lt_of_lt_of_le hi h.below.size), h2⟩, h.cnt, h.hq, h.hg, below_next h.below hb, h.small⟩
theorem VS.drew {T : Nat} {W0 wr : World} {G n c : Nat} {rest : List VE} {z : VE} {q : V} {g : Nat} (h : VS T W0 wr G n c rest z q g) : VS T W0 wr.drew G n c rest z q g := h.call (Below.refl _ _).drew


/-- A value's kids are all through: it is put to the one above. -/
theorem VS.pop {T : Nat} {W0 wr w' : World} {G m c : Nat} {rest : List VE} {a z : VE} {q : V} {g : Nat} (h : VS T W0 wr G (m + 2) c (rest ++ [a]) z q g) (hl : rest.length = m) (hz : z.x.l = 0) {xs : List Value}
    (hcs : CO wr (Pst W0.heap.size wr G ((rest ++ [a] ++ [z]).map (·.r))) a.r.done xs) {g9 cap9 : Nat}
    (hown : w'.ownsRow W0.heap.size 27 4 (.slice (some ⟨g9, 0, none⟩) (a.r.m + 1) cap9) (a.r.m + 1) (xs ++ [.int .u8 (z.k : Int), .int .u64 (z.n : Int), .string z.t, .slice z.r.A z.r.m z.r.c])) (hg : wr.grownBy w' a.r.ob) (hat : a.r.ob = some g9 ∨ wr.heap.size ≤ g9) :
    VS T W0 ((((w'.setCell ⟨G, m * 5 + 1, none⟩ (.int .u8 (a.k : Int))).setCell ⟨G, m * 5 + 2, none⟩ (.int .u64 (a.n : Int))).setCell ⟨G, m * 5 + 3, none⟩ (.string a.t)).setCell ⟨G, m * 5 + 4, none⟩ (.slice (some ⟨g9, 0, none⟩) (a.r.m + 1) cap9)) G (m + 1) c rest
      ⟨a.x, a.k, a.n, a.t, ⟨some ⟨g9, 0, none⟩, a.r.m + 1, cap9, a.r.done ++ [.mk z.k z.n z.t z.r.done]⟩⟩ q (g - 1) := by
  obtain ⟨hz1, hz2, hz3, hz4⟩ := h.ok z (by simp)
  obtain ⟨ha1, ha2, ha3, ha4⟩ := h.ok a (by simp)
  have hac := h.cnt a (by simp)
  have e1 : z.x.ks = [] := List.eq_nil_of_length_eq_zero (by rw [← hz1.len]; exact hz)
  obtain ⟨_, hao, _, haG⟩ := h.rows.row a.r (by simp)
  have hGl := h.own.lt G (by simp [Value.ownBlock])
  have hrows : Rows W0.heap.size wr G (rest.map (·.r) ++ [a.r, z.r]) := by have := h.rows; simpa using this
  have hfuse := hrows.fuse hGl.2 (t := z.t) hz2 hz3 (by simpa using hcs) hown hg hat
  have hown' : w'.ownsRow W0.heap.size 58 5 (.slice (some ⟨G, 0, none⟩) (m + 2) c) (m + 2) (vflat (rest ++ [a] ++ [z])) := h.own.kept hg (.inr (by
    simp only [Value.ownBlock]
    exact fun e => haG e.symm))
  have h1 := (hown'.stored (m * 5 + 1) (.int .u8 (a.k : Int))).1
  have h2 := (h1.stored (m * 5 + 2) (.int .u64 (a.n : Int))).1
  have h3 := (h2.stored (m * 5 + 3) (.string a.t)).1
  have h4 := (h3.stored (m * 5 + 4) (.slice (some ⟨g9, 0, none⟩) (a.r.m + 1) cap9)).1
  rw [vflat_append (rest ++ [a]) [z], vset4 rest a m hl] at h4
  have h5 := own_pop h4 (m := m + 1) (by simp [vflat_len, hl]; omega) (by omega)
  have hw := h.hg
  rw [vweight_snoc] at hw
  have hw2 := hw
  rw [vweight_snoc] at hw2
  have hs := h.small
  have hil := vw_len (rest ++ [a])
  rw [List.length_append, hl] at hil
  simp only [List.length_cons, List.length_nil] at hil
  rw [vweight_snoc] at hil
  have hset : ∀ (W : World) (x0 x1 x2 x3 : Value) (i : Nat), i ≠ G → ((((W.setCell ⟨G, m * 5 + 1, none⟩ x0).setCell ⟨G, m * 5 + 2, none⟩ x1).setCell ⟨G, m * 5 + 3, none⟩ x2).setCell ⟨G, m * 5 + 4, none⟩ x3).heap[i]? = W.heap[i]? := fun W x0 x1 x2 x3 i hi =>
    (Below.heap_setCell _ _ _ _ hi).trans ((Below.heap_setCell _ _ _ _ hi).trans ((Below.heap_setCell _ _ _ _ hi).trans (Below.heap_setCell _ _ _ _ hi)))
  have hob : ∀ i, i < W0.heap.size → w'.heap[i]? = wr.heap[i]? := fun i hi => hg.block i (Nat.lt_of_lt_of_le hi h.below.size) (fun e => by
    have := (hao.lt i e.symm).1
    omega)
  refine ⟨by omega, by rw [vflat_append, vflat_one]; simpa using h5, ?_, fun p hp => ?_, fun p hp => h.cnt p (by simp [hp]), ?_, by rw [vweight_snoc]; simp only; omega, ?_, by omega⟩
  · have := hfuse.move (w' := (((w'.setCell ⟨G, m * 5 + 1, none⟩ (.int .u8 (a.k : Int))).setCell ⟨G, m * 5 + 2, none⟩ (.int .u64 (a.n : Int))).setCell ⟨G, m * 5 + 3, none⟩ (.string a.t)).setCell ⟨G, m * 5 + 4, none⟩ (.slice (some ⟨g9, 0, none⟩) (a.r.m + 1) cap9)) (G' := G) (fun i _ _ hi => hset _ _ _ _ _ i hi) (by simp) (.inl rfl)
    simpa using this
  · have hkeep : ∀ i, i < W0.heap.size → ((((w'.setCell ⟨G, m * 5 + 1, none⟩ (.int .u8 (a.k : Int))).setCell ⟨G, m * 5 + 2, none⟩ (.int .u64 (a.n : Int))).setCell ⟨G, m * 5 + 3, none⟩ (.string a.t)).setCell ⟨G, m * 5 + 4, none⟩ (.slice (some ⟨g9, 0, none⟩) (a.r.m + 1) cap9)).heap[i]? = wr.heap[i]? := fun i hi =>
      (hset _ _ _ _ _ i (by omega)).trans (hob i hi)
    rcases List.mem_append.1 hp with hp | hp
    · obtain ⟨a1, a2⟩ := h.ok p (by simp [hp])
      exact ⟨a1.keep hkeep, a2⟩
    · rw [List.mem_singleton.1 hp]
      exact ⟨ha1.keep hkeep, ha2, ha3, by simp only; omega⟩
  · rw [h.hq, goV_snoc, e1, List.append_nil]
    simp
  · have hbw : Below W0.heap.size W0 w' := h.below.grown hg h.below.size (fun k hk => (hao.lt k hk).1)
    exact (((hbw.setCell (p := ⟨G, m * 5 + 1, none⟩) hGl.1 _).setCell (p := ⟨G, m * 5 + 2, none⟩) hGl.1 _).setCell (p := ⟨G, m * 5 + 3, none⟩) hGl.1 _).setCell (p := ⟨G, m * 5 + 4, none⟩) hGl.1 _

/-- The next kid is gone into. -/
theorem VS.push {T : Nat} {W0 wr w6 : World} {G m c : Nat} {rest : List VE} {z : VE} {x2 y : SE} {q : V} {g : Nat} {kk kn : Nat} {kt : ByteArray} (h : VS T W0 wr G (m + 1) c rest z q g) (hkk : kk < 256) (hkn : kn < 18446744073709551616)
    (hx2 : Val.Kids false w6 (fun i => i < W0.heap.size) x2.ks x2.A x2.l x2.c) (hy : Val.Kids false w6 (fun i => i < W0.heap.size) y.ks y.A y.l y.c) (hks : z.x.ks = .mk kk kn kt y.ks :: x2.ks) {g' cap : Nat} {A1 : Option Addr} {c1 : Nat}
    (hown : w6.ownsRow W0.heap.size 58 5 (.slice (some ⟨g', 0, none⟩) (m + 1 + 1) cap) (m + 1 + 1) (vflat rest ++ [x2.val, .int .u8 (z.k : Int), .int .u64 (z.n : Int), .string z.t, .slice z.r.A z.r.m z.r.c] ++ [y.val, .int .u8 (kk : Int), .int .u64 (kn : Int), .string kt, .slice A1 0 c1])) (hb : Below W0.heap.size wr w6)
    (hk : ∀ i, W0.heap.size ≤ i → i < wr.heap.size → i ≠ G → w6.heap[i]? = wr.heap[i]?) (hG : g' = G ∨ wr.heap.size ≤ g') (hrow : w6.ownsRow W0.heap.size 27 4 (.slice A1 0 c1) 0 []) (hnew : ∀ b, (Value.slice A1 0 c1).ownBlock = some b → wr.heap.size ≤ b) (hrG : (Value.slice A1 0 c1).ownBlock ≠ some g') :
    VS T W0 w6 g' (m + 1 + 1) cap (rest ++ [⟨x2, z.k, z.n, z.t, z.r⟩]) ⟨y, kk, kn, kt, ⟨A1, 0, c1, []⟩⟩ q (g - 1) := by
  have hw := h.hg
  rw [vweight_snoc, hks] at hw
  simp only [itemsL, items] at hw
  have hs := h.small
  obtain ⟨hz1, hz2, hz3, hz4⟩ := h.ok z (by simp)
  rw [hks] at hz4
  simp only [itemsL, items] at hz4
  have hil := vw_len rest
  have hl := h.len
  have hkeep : ∀ i, i < W0.heap.size → w6.heap[i]? = wr.heap[i]? := fun i hi => hb.block i hi
  refine ⟨by simp; omega, by rw [vflat_append, vflat_append, vflat_one, vflat_one]; exact hown, ?_, fun p hp => ?_, fun p hp => ?_, ?_, by rw [vweight_snoc, vweight_snoc]; simp only; omega, h.below.trans hb, by omega⟩
  · have := (h.rows.begin hk hb.size hG (r := ⟨A1, 0, c1, []⟩) rfl hrow hnew hrG)
    simpa using this
  · simp only [List.append_assoc, List.mem_append, List.mem_cons, List.not_mem_nil, or_false] at hp
    rcases hp with hp | rfl | rfl
    · obtain ⟨a1, a2⟩ := h.ok p (by simp [hp])
      exact ⟨a1.keep hkeep, a2⟩
    · exact ⟨hx2, hz2, hz3, by simp only; omega⟩
    · exact ⟨hy, hkk, hkn, by simp only; omega⟩
  · rcases List.mem_append.1 hp with hp | hp
    · exact h.cnt p hp
    · rw [List.mem_singleton.1 hp]
      simp only
      omega
  · rw [h.hq, hks, goV_snoc]
    simp

theorem VS.start {T : Nat} {W0 w1 : World} {A A1 : Option Addr} {l c k n c1 : Nat} {t : ByteArray} {ks : List V} (hb : Below W0.heap.size W0 w1) (hown : w1.ownsRow W0.heap.size 27 4 (.slice A1 0 c1) 0 []) (hK : Val.Kids false W0 (fun i => i < W0.heap.size) ks A l c) (hk : k < 256) (hn : n < 18446744073709551616)
    (hT : itemsL ks ≤ T) (hT2 : itemsL ks ≤ 1073741824) : VS T W0 (w1.alloc (.cells #[.slice A l c, .int .u8 k, .int .u64 n, .string t, .slice A1 0 c1] 58)) w1.heap.size 1 1 [] ⟨⟨A, l, c, ks⟩, k, n, t, ⟨A1, 0, c1, []⟩⟩ (.mk k n t ks) (2 * itemsL ks + 1) := by
  have hs := hb.size
  have hlt := hown.lt
  refine ⟨rfl, ?_, ⟨fun r hr => ?_, List.pairwise_singleton _ _⟩, fun p hp => ?_, fun p hp => (by cases hp), (by simp [goV]), (by simp [vweight]), hb.alloc hs _, by omega⟩
  · have := World.ownsRow_lit (e := 58) (size := 5) (base := W0.heap.size) w1 #[.slice A l c, .int .u8 k, .int .u64 n, .string t, .slice A1 0 c1] 1 hs (by unfold maxLen; omega) rfl
    simpa [vflat, SE.val] using this
  · simp at hr
    subst hr
    exact ⟨[], hown.alloc _, rfl, fun e => by have := (hlt _ e).2; omega⟩
  · simp at hp
    subst hp
    exact ⟨hK.keep fun i hi => (hb.alloc hs _).block i hi, hk, hn, by simpa using hT⟩


set_option maxRecDepth 100000 in
set_option maxHeartbeats 2000000 in
theorem foldO_any (k n : Nat) (t : ByteArray) (ks : List V) (A : Option Addr) (l c : Nat) (w : World) (hN : bulkL ks ≤ 1073741824) (hk : k < 256) (hn : n < 18446744073709551616) (hK : Kd w ks A l c) :
    Calls Tryd.prog 15 #[.agg #[.int .u8 k, .int .u64 n, .string t, .slice A l c], .func (.func 14) #[] #[], .func (.func 16) #[] #[]] w (GivesO k n t ks w) := by
  have hil := itemsL_le ks
  have hlb := length_bulk ks
  have hl1 : l ≤ ks.length := Nat.le_of_eq hK.len
  obtain ⟨W0, hW0⟩ : ∃ W0, W0 = (w.alloc (.cells #[.int .u8 k, .int .u64 n, .string t, .slice A l c] 27)).alloc (.cells #[.int .u8 0, .int .u64 0, .string ⟨#[]⟩, .slice none 0 0] 27) := ⟨_, rfl⟩
  have hb0 : Box W0 w.heap.size (.int .u8 k) (.int .u64 n) (.string t) (.slice A l c) := by rw [hW0]; exact (Box.new w _ _ _ _).alloc _
  have hb1 : Box W0 (w.heap.size + 1) (.int .u8 0) (.int .u64 0) (.string ⟨#[]⟩) (.slice none 0 0) := by rw [hW0]; exact Box.new2 w _ _ _ _ _
  have hB0 : Below w.heap.size w W0 := by rw [hW0]; exact two_boxes w _ _
  have hS0 : W0.heap.size = w.heap.size + 2 := by rw [hW0]; simp
  have hS0a : w.heap.size + 2 ≤ W0.heap.size := Nat.le_of_eq hS0.symm
  have HS0 := Lib.hid hS0
  clear hS0
  obtain ⟨x0, x1, x2, x3, _⟩ := hb0.all
  have hKW : Val.Kids false W0 (fun i => i < W0.heap.size) ks A l c := (hK.call hB0)
  go_enter Tryd.func15, Tryd.ntmps15
  go_upto_region 1 with fail
  rw [← hW0]
  have HW0 := Lib.hid hW0
  clear hW0
  go_cut [7] (fun s7 wx => ∃ G A1 c1, s7 = .slice (some ⟨G, 0, none⟩) 1 1 ∧ VS (itemsL ks) W0 wx G 1 1 [] ⟨⟨A, l, c, ks⟩, k, n, t, ⟨A1, 0, c1, []⟩⟩ (Q0 k n t ks) (2 * itemsL ks + 1))
  case first =>
    go_region_with ((go_at_call 14; refine (copyA_any k n t A l c _ (by omega)).mono ?_; rintro e w1 ⟨A1, c1, rfl, hown1, hb1w⟩; have y3 := box_kept (wr := W0.drew) x3 hb1w (by simp; omega)))
    all_goals
      have hv : VS (itemsL ks) W0 (w1.alloc (.cells #[.slice A l c, .int .u8 k, .int .u64 n, .string t, .slice A1 0 c1] 58)) w1.heap.size 1 1 [] ⟨⟨A, l, c, ks⟩, k, n, t, ⟨A1, 0, c1, []⟩⟩ (Q0 k n t ks) (2 * itemsL ks + 1) :=
        VS.start ((Below.refl _ _).drew.trans hb1w) hown1 hKW hk hn (Nat.le_refl _) (by omega)
      go_wp2_with fail
      go_meet
      exact ⟨_, A1, c1, rfl, by first | exact hv | exact hv.drew⟩
  case rest =>
    obtain ⟨G0, A0, c0, rfl, hI0⟩ := hcut
    clear x0 x1 x2 x3 hb0
    go_wp2
    go_loopg [7] (2 * itemsL ks + 1) (fun g s wr => ∃ G1 n1 c1 rest z, s = .slice (some ⟨G1, 0, none⟩) n1 c1 ∧ VS (itemsL ks) W0 wr G1 n1 c1 rest z (Q0 k n t ks) g)
    case atStart => exact ⟨_, _, _, _, _, rfl, hI0⟩
    case round =>
      obtain ⟨G, n1, c1, rest, z, rfl, hS⟩ := hrel
      clear hI0
      obtain ⟨m, rfl⟩ : ∃ m, n1 = m + 1 := ⟨n1 - 1, by have := hS.len; omega⟩
      have hlen : rest.length = m := by have := hS.len; omega
      obtain ⟨hG1, hG2⟩ := hS.own.lt G (by simp [Value.ownBlock])
      have hsm := hS.small
      have hgk : 1 ≤ gk := by omega
      have own := hS.own
      have hfl : (vflat rest).length = m * 5 := by rw [vflat_len, hlen]
      rw [vflat_append, vflat_one] at own
      have ct0 : wr.cell? ⟨G, m * 5, none⟩ = some z.x.val := by rw [own.cellAt (m * 5) (by omega), List.getElem?_append_right (by omega), hfl]; simp
      have ct1 : wr.cell? ⟨G, m * 5 + 1, none⟩ = some (.int .u8 (z.k : Int)) := by rw [own.cellAt (m * 5 + 1) (by omega), List.getElem?_append_right (by omega), hfl, show m * 5 + 1 - m * 5 = 1 by omega]; rfl
      have ct2 : wr.cell? ⟨G, m * 5 + 1 + 1, none⟩ = some (.int .u64 (z.n : Int)) := by rw [own.cellAt (m * 5 + 1 + 1) (by omega), List.getElem?_append_right (by omega), hfl, show m * 5 + 1 + 1 - m * 5 = 2 by omega]; rfl
      have ct3 : wr.cell? ⟨G, m * 5 + 1 + 2, none⟩ = some (.string z.t) := by rw [own.cellAt (m * 5 + 1 + 2) (by omega), List.getElem?_append_right (by omega), hfl, show m * 5 + 1 + 2 - m * 5 = 3 by omega]; rfl
      have ct4 : wr.cell? ⟨G, m * 5 + 1 + 3, none⟩ = some (.slice z.r.A z.r.m z.r.c) := by rw [own.cellAt (m * 5 + 1 + 3) (by omega), List.getElem?_append_right (by omega), hfl, show m * 5 + 1 + 3 - m * 5 = 4 by omega]; rfl
      have fz : ∀ j, wr.frozen? ⟨G, j, none⟩ = false := own.frozenAt
      have hcap := own_cap own
      obtain ⟨hx, hzk, hzn, hzm⟩ := hS.ok z (by simp)
      obtain ⟨⟨xA, xl, xc, xk⟩, zk, zn, zt, ⟨zA, zm, zc, zd⟩⟩ := z
      simp only [SE.val] at ct0 ct1 ct2 ct3 ct4 hx hzk hzn hzm own
      have HL := Lib.hid hlen
      have HF := Lib.hid hfl
      clear hlen hfl
      rcases Nat.eq_zero_or_pos xl with rfl | hxl
      · rcases Nat.eq_zero_or_pos m with rfl | hm
        · have hr : rest = [] := List.eq_nil_of_length_eq_zero HL.out
          subst hr
          have hxk : xk = [] := List.eq_nil_of_length_eq_zero hx.len.symm
          subst hxk
          have hq := hS.hq
          simp only [goV, List.foldr_nil, List.append_nil, Q0, V.mk.injEq] at hq
          obtain ⟨xs, hro, hrc, hrg⟩ := hS.rows.row ⟨zA, zm, zc, zd⟩ (by simp)
          have hCS : KsO wr (fun i => W0.heap.size ≤ i ∧ i < wr.heap.size) zd zA zm zc := ⟨xs, own_less hro (Nat.zero_le _), hro.lt, hrc.mono fun i hi => ⟨⟨hi.1, hi.2.1⟩, hi.2.2.2 ⟨zA, zm, zc, zd⟩ (by simp)⟩⟩
          have HN := Lib.hid hCS
          have hb := hS.below
          have hbB := hB0.trans (hb.mono (by omega))
          obtain ⟨y0, y1, y2, y3, yf⟩ := (hb1.below hb (by omega)).all
          have HQ := Lib.hid hq
          have HB := Lib.hid hbB
          clear hq hS own hro hrc hCS hb hbB
          simp only [Nat.zero_mul, Nat.zero_add] at ct0 ct1 ct2 ct3 ct4
          go_wp2
          refine bodyPost_ret (v := .agg #[.int .u8 zk, .int .u64 zn, .string zt, .slice zA zm zc]) (by simp [results, Tryd.results15, go_sem, y0, y1, y2, y3]) rfl ?_
          obtain ⟨rfl, rfl, rfl, rfl⟩ := HQ.out
          exact ⟨zA, zm, zc, rfl, (HN.out.far4 (g := w.heap.size + 1) (by omega) _ _ _ _).mono (fun i hi => ⟨by omega, by simpa using hi.2⟩), below_set4 HB.out (by omega) _ _ _ _⟩
        · obtain ⟨m', rfl⟩ : ∃ m', m = m' + 1 := ⟨m - 1, by omega⟩
          obtain ⟨rest0, a, rfl⟩ : ∃ rest0 a, rest = rest0 ++ [a] := by
            have hne : rest ≠ [] := fun e => by have := HL.out; rw [e] at this; simp at this
            exact ⟨rest.dropLast, rest.getLast hne, by have := List.dropLast_concat_getLast hne; exact this.symm⟩
          have hl0 : rest0.length = m' := by have := HL.out; simp at this; omega
          have hfl0 : (vflat rest0).length = m' * 5 := by rw [vflat_len, hl0]
          have hac := hS.cnt a (by simp)
          obtain ⟨xs, hro, hrc, hrg⟩ := hS.rows.row a.r (by simp)
          obtain ⟨ax, ak, an, at_, ⟨aA, am, ac, ad⟩⟩ := a
          have hat : ∀ j, wr.cell? ⟨G, m' * 5 + j, none⟩ = (vflat rest0 ++ [ax.val, .int .u8 (ak : Int), .int .u64 (an : Int), .string at_, .slice aA am ac] ++ [.slice xA 0 xc, .int .u8 (zk : Int), .int .u64 (zn : Int), .string zt, .slice zA zm zc])[m' * 5 + j]? ∨ 10 ≤ j := fun j => by
            rcases Nat.lt_or_ge j 10 with hj | hj
            · left; rw [own.cellAt (m' * 5 + j) (by omega), vflat_append, vflat_one]
            · exact .inr hj
          have hidx : ∀ j, j < 5 → wr.cell? ⟨G, m' * 5 + j, none⟩ = [ax.val, .int .u8 (ak : Int), .int .u64 (an : Int), .string at_, .slice aA am ac][j]? := fun j hj => by
            rcases hat j with h | h
            · rw [h, List.append_assoc, List.getElem?_append_right (by omega), hfl0, show m' * 5 + j - m' * 5 = j by omega, List.getElem?_append_left (by simpa using hj)]
            · omega
          have ca1 : wr.cell? ⟨G, m' * 5 + 1, none⟩ = some (.int .u8 (ak : Int)) := hidx 1 (by omega)
          have ca2 : wr.cell? ⟨G, m' * 5 + 1 + 1, none⟩ = some (.int .u64 (an : Int)) := hidx 2 (by omega)
          have ca3 : wr.cell? ⟨G, m' * 5 + 1 + 2, none⟩ = some (.string at_) := hidx 3 (by omega)
          have ca4 : wr.cell? ⟨G, m' * 5 + 1 + 3, none⟩ = some (.slice aA am ac) := hidx 4 (by omega)
          obtain ⟨hq1, hq2⟩ := cut_top Tryd.underlying59 (show Tryd.prog.elem 59 = 58 by kernel_rfl) (show (Tryd.prog.info? 58).map (·.size) = some 5 by kernel_rfl) (some ⟨G, 0, none⟩) (m' + 1 + 1) c1 (m' + 1) (by omega) hcap
          have hs1' := fun W => hq1 W ((m' : Int) + 1) (by simp)
          have hs2' := fun W => hq2 W ((m' : Int) + 1) (by simp)
          have hwz := hS.below.size
          have ham : am ≤ 1073741824 := by simp only at hac; omega
          have HRG := Lib.hid hrg
          have HS := Lib.hid hS
          have HRC := Lib.hid hrc
          have HL0 := Lib.hid hl0
          have HRO := Lib.hid hro
          clear hq1 hq2 hl0 hfl0 hS own hat hidx hrc hrg hro
          go_wp2_with fail
          go_region_with ((go_at_call 16; refine (copyP_any ak an at_ aA am ac W0.heap.size xs zk zn zt zA zm zc wr.drew ham (by exact hwz) (by exact HRO.out)).mono ?_; rintro e w5 ⟨g9, cap9, rfl, hown9, hg9, hat9⟩; have hcG : ∀ j, w5.cell? ⟨G, j, none⟩ = wr.cell? ⟨G, j, none⟩ := (fun j => hg9.cell_far ⟨G, j, none⟩ hG2 (fun e => HRG.out e.symm)); have hfG : ∀ j, w5.frozen? ⟨G, j, none⟩ = false := (fun j => (hg9.frozen_far ⟨G, j, none⟩ hG2 (fun e => HRG.out e.symm)).trans (fz j))))
          all_goals
            go_wp2
            go_roundg (gk - 1)
            case measure => omega
            case rel => exact ⟨_, _, _, _, _, rfl, HS.out.pop HL0.out rfl HRC.out hown9 (grown_drew hg9) hat9⟩
      · obtain ⟨b, o, k1, n1, t1, ks1, B1, l1, d1, rfl, hb1x, hx1, h0, h1, h2, h3, hk1, hn1, hK1⟩ := Val.Kids.at_ hx hxl
        simp only [Nat.zero_mul, Nat.add_zero] at h0 h1 h2 h3
        have hsz := hS.below.size
        have hbw : b < wr.heap.size := Nat.lt_of_lt_of_le hb1x hsz
        have hxI : (0 : Int) < (xl : Int) := by omega
        have HX1 := Lib.hid hx1
        have hks : itemsL ks1 + 1 ≤ itemsL xk := by
          have := drop_at hx1
          rw [List.drop_zero] at this
          rw [this]; simp only [itemsL, items]; omega
        have hl1b : l1 ≤ 1073741824 := by have := hK1.len; have := length_le ks1; omega
        obtain ⟨C1, e1, he1, hsx1, hsx2, hsx3⟩ := cut_vals (some ⟨b, o, none⟩) xl xc 1 (by omega) hx.cap
        have sx1 := fun W => hsx1 W 1 rfl
        have sx2 := fun W => hsx2 W 1 rfl
        clear hsx1 hsx2 hx1 hN ct1 ct2 ct3 ct4
        obtain ⟨xt, hxt⟩ : ∃ xt, xk.drop 1 = xt := ⟨_, rfl⟩
        have HXT := Lib.hid hxt
        clear hxt
        obtain ⟨wy, hwy⟩ : ∃ wy, wy = wr.setCell ⟨G, m * 5, none⟩ (.slice C1 (xl - 1) e1) := ⟨_, rfl⟩
        have hby : Below W0.heap.size wr wy := by rw [hwy]; exact (Below.refl _ _).setCell (p := ⟨G, m * 5, none⟩) hG1 _
        have hky : ∀ i, i ≠ G → wy.heap[i]? = wr.heap[i]? := fun i hi => by rw [hwy]; exact Below.heap_setCell _ _ _ _ hi
        have hown5 : wy.ownsRow W0.heap.size 58 5 (.slice (some ⟨G, 0, none⟩) (m + 1) c1) (m + 1) (vflat rest ++ [.slice C1 (xl - 1) e1, .int .u8 (zk : Int), .int .u64 (zn : Int), .string zt, .slice zA zm zc]) := by
          have := (hS.own.stored (m * 5) (.slice C1 (xl - 1) e1)).1
          rw [vset0 rest _ m HL.out] at this
          rw [hwy]
          exact this
        have hsw : wr.heap.size = wy.heap.size := by rw [hwy]; simp
        have hszy : W0.heap.size ≤ wy.heap.size := by omega
        have hGy : G < wy.heap.size := by omega
        have hm4 : m + 1 ≤ 4294967296 := by omega
        obtain ⟨i0, hi, hz0, hz1, hz2⟩ := info_parts infoStepV
        have HKY := Lib.hid hky
        have hkb := Box.new wy (.int .u8 k1) (.int .u64 n1) (.string t1) (.slice B1 l1 d1)
        obtain ⟨q0, q1, q2, q3, _⟩ := hkb.all
        have hby2 := hby.alloc hszy (.cells #[.int .u8 k1, .int .u64 n1, .string t1, .slice B1 l1 d1] 27)
        have hown6 := hown5.alloc (.cells #[.int .u8 k1, .int .u64 n1, .string t1, .slice B1 l1 d1] 27)
        have HSW := Lib.hid hsw
        clear hky own hkb hsw
        go_upto_region 7 with fail
        rw [← hwy, HSW.out]
        have HWY := Lib.hid hwy
        clear hwy
        go_cut [7] (fun s7 wx => ∃ g9 cap9 A9 c9, s7 = .slice (some ⟨g9, 0, none⟩) (m + 1 + 1) cap9 ∧ wx.ownsRow W0.heap.size 58 5 (.slice (some ⟨g9, 0, none⟩) (m + 1 + 1) cap9) (m + 1 + 1) (vflat rest ++ [.slice C1 (xl - 1) e1, .int .u8 (zk : Int), .int .u64 (zn : Int), .string zt, .slice zA zm zc] ++ [.slice B1 l1 d1, .int .u8 (k1 : Int), .int .u64 (n1 : Int), .string t1, .slice A9 0 c9]) ∧ Below W0.heap.size wr wx ∧ (∀ i, W0.heap.size ≤ i → i < wr.heap.size → i ≠ G → wx.heap[i]? = wr.heap[i]?) ∧ (g9 = G ∨ wr.heap.size ≤ g9) ∧ wx.ownsRow W0.heap.size 27 4 (.slice A9 0 c9) 0 [] ∧ (∀ b, (Value.slice A9 0 c9).ownBlock = some b → wr.heap.size ≤ b) ∧ (Value.slice A9 0 c9).ownBlock ≠ some g9)
        case first =>
          go_region_law (first
            | (refine step_append_lies _ rfl _ _ 59 rfl W0.heap.size 58 i0 _ 5 80 Tryd.underlying59 hi hz0 hz1 hz2 rfl (by omega) _ _ _ rfl (by exact (hown7.alloc _)) ⟨w1.heap.size, 0, none⟩ 1 1 [.slice B1 l1 d1, .int .u8 k1, .int .u64 n1, .string t1, .slice A1 0 c9] rfl rfl (by exact news5 _ _ _ _ _ _ _ _ (by simp)) (fun u hu => (by simp at hu; rcases hu with rfl | rfl | rfl | rfl | rfl <;> rfl)) (by omega) (by unfold maxLen; omega) (by omega) (by simp; omega) _ rfl ?_; intro g9 cap9 w9 hown9 hgrow9 hat9 _)
            | (go_simp; go_at_call 14; refine (copyA_any k1 n1 t1 B1 l1 d1 (wy.alloc (.cells #[.int .u8 k1, .int .u64 n1, .string t1, .slice B1 l1 d1] 27)).drew hl1b).mono ?_; rintro e w1 ⟨A1, c9, rfl, hown1, hb1w⟩; have y3 := box_kept (wr := (wy.alloc (.cells #[.int .u8 k1, .int .u64 n1, .string t1, .slice B1 l1 d1] 27)).drew) q3 hb1w (by simp); have hown7 := ((show (wy.alloc (.cells #[.int .u8 k1, .int .u64 n1, .string t1, .slice B1 l1 d1] 27)).drew.ownsRow W0.heap.size 58 5 (.slice (some ⟨G, 0, none⟩) (m + 1) c1) (m + 1) (vflat rest ++ [.slice C1 (xl - 1) e1, .int .u8 (zk : Int), .int .u64 (zn : Int), .string zt, .slice zA zm zc]) from hown6)).kept (grown_of_below hb1w) (.inr (by simp [Value.ownBlock])); have hs1w := hb1w.size; simp at hs1w))
          all_goals
            have hat8 : (Value.slice (some ⟨G, 0, none⟩) (m + 1) c1).ownBlock = some g9 ∨ w1.heap.size ≤ g9 := by
              rcases hat9 with h | h
              · exact .inl h
              · right; simp at h; omega
            have hl := push_lands hsz hG2 hG1 HSW.out hby HKY.out hb1w hown1 (by first | exact hgrow9 | exact grown_drew hgrow9) hat8
            go_wp2_with fail
            go_meet
            exact ⟨g9, cap9, A1, c9, rfl, hown9, hl⟩
        case rest =>
          obtain ⟨g9, cap9, A9, c9, rfl, hown9, hb9, hk9, hG9, hrow9, hnew9, hne9⟩ := hcut
          have hpush := hS.push (x2 := ⟨C1, xl - 1, e1, xt⟩) (y := ⟨B1, l1, d1, ks1⟩) hk1 hn1 ((HXT.out ▸ hsx3 _ _ _ _ hx : Val.Kids false wr (fun i => i < W0.heap.size) xt C1 (xl - 1) e1).keep fun i hi => hb9.block i hi) (hK1.keep fun i hi => hb9.block i hi) (by have := drop_at HX1.out; rw [List.drop_zero, HXT.out] at this; exact this) hown9 hb9 hk9 hG9 hrow9 hnew9 hne9
          clear hS hown5 hown6 hown9 hb9 hby hby2 hk9 hrow9 hnew9 hne9 hG9
          go_wp2
          go_roundg (gk - 1)
          case measure => omega
          case rel => exact ⟨_, _, _, _, _, rfl, hpush⟩

theorem copyO_any (k n : Nat) (t : ByteArray) (ks : List V) (A : Option Addr) (l c : Nat) (w : World) (hN : bulkL ks ≤ 1073741824) (hk : k < 256) (hn : n < 18446744073709551616) (hK : Kd w ks A l c) :
    Calls Tryd.prog 6 #[.agg #[.int .u8 k, .int .u64 n, .string t, .slice A l c]] w (GivesO k n t ks w) := by
  have hb1 := Box.new2 w (.cells #[.int .u8 k, .int .u64 n, .string t, .slice A l c] 27) (.int .u8 0) (.int .u64 0) (.string ⟨#[]⟩) (.slice none 0 0)
  have hB := two_boxes w (.cells #[.int .u8 k, .int .u64 n, .string t, .slice A l c] 27) (.cells #[.int .u8 0, .int .u64 0, .string ⟨#[]⟩, .slice none 0 0] 27)
  have HN := Lib.hid hn
  clear hn
  go_enter Tryd.func6, Tryd.ntmps6
  go_wp2_with fail
  refine (foldO_any k n t ks A l c _ hN hk HN.out ((hK.alloc _).alloc _)).mono ?_
  rintro e w1 ⟨A1, l1, c1, rfl, hNw, hb⟩
  obtain ⟨d0, d1, d2, d3, df⟩ := (hb1.call hb).all
  have hB2 := below_next hB hb
  simp only [World.size_alloc] at hNw
  have HW := Lib.hid hNw
  clear hNw
  go_wp2
  refine bodyPost_ret (v := .agg #[.int .u8 k, .int .u64 n, .string t, .slice A1 l1 c1]) (by simp [results, Tryd.results6, go_sem, d0, d1, d2, d3]) rfl ?_
  exact ⟨A1, l1, c1, rfl, (HW.out.far4 (g := w.heap.size + 1) (by omega) _ _ _ _).mono (fun i hi => ⟨by omega, by simpa using hi.2⟩), below_set4 hB2 (by omega) _ _ _ _⟩
end Go.Proofs.YtohmnbefokhjpaaDoor.Sep
