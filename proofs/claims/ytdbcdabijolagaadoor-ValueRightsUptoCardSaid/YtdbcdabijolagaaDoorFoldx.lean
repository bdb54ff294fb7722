/-
  The rounds of fold at values: a kid is gone into; a value that is through is put to the one above it. No condition.
-/
import Derived.Test.YtdbcdabijolagaaDoorFoldw
import Derived.Test.YtdbcdabijolagaaDoorCopyf
namespace Go.Proofs.YtdbcdabijolagaaDoor.Val
open Go.RowKit Go.Proofs.YtdbcdabijolagaaDoor.Utf V

theorem infoStepV : (Tryd.prog.info? 62).map (fun i => (i.zero, i.size, i.bytes)) = some (some (.agg #[.slice none 0 0, .int .u8 0, .int .u64 0, .string ⟨#[]⟩, .slice none 0 0]), 5, 80) := by kernel_rfl

structure VS (T : Nat) (W0 wr : World) (G n c : Nat) (rest : List VE) (z : VE) (q : V) (g : Nat) : Prop where
  len : rest.length + 1 = n
  own : wr.ownsRow W0.heap.size 62 5 (.slice (some ⟨G, 0, none⟩) n c) n (vflat (rest ++ [z]))
  rows : Rows W0.heap.size wr G ((rest ++ [z]).map (·.r))
  ok : ∀ p ∈ rest ++ [z], Kids false wr (fun i => i < W0.heap.size) p.x.ks p.x.A p.x.l p.x.c ∧ p.k < 256 ∧ p.n < 18446744073709551616 ∧ p.r.m + itemsL p.x.ks ≤ T
  cnt : ∀ p ∈ rest, p.r.m + 1 + itemsL p.x.ks ≤ T
  hq : q = goV rest (.mk z.k z.n z.t (z.r.done ++ z.x.ks))
  hg : vweight (rest ++ [z]) ≤ g
  below : Below W0.heap.size W0 wr
  small : n ≤ g ∧ g ≤ 4294967296

theorem VS.call {T : Nat} {W0 wr w' : World} {G n c : Nat} {rest : List VE} {z : VE} {q : V} {g : Nat} (h : VS T W0 wr G n c rest z q g) (hb : Below wr.heap.size wr w') : VS T W0 w' G n c rest z q g :=
  ⟨h.len, h.own.kept (grown_of_below hb) (.inr (by simp [Value.ownBlock])), h.rows.move (fun i _ hi _ => hb.block i hi) hb.size (.inl rfl), fun p hp => by
    obtain ⟨h1, h2⟩ := h.ok p hp
    exact ⟨h1.keep fun i hi => hb.block i (Nat.lt_of_lt_of_le hi h.below.size), h2⟩, h.cnt, h.hq, h.hg, below_next h.below hb, h.small⟩
theorem VS.drew {T : Nat} {W0 wr : World} {G n c : Nat} {rest : List VE} {z : VE} {q : V} {g : Nat} (h : VS T W0 wr G n c rest z q g) : VS T W0 wr.drew G n c rest z q g := h.call (Below.refl _ _).drew

theorem vset0 (rest : List VE) (z : VE) (m : Nat) (hl : rest.length = m) (v : Value) : (vflat (rest ++ [z])).set (m * 5) v = vflat rest ++ [v, .int .u8 (z.k : Int), .int .u64 (z.n : Int), .string z.t, .slice z.r.A z.r.m z.r.c] := by
  have hfl : (vflat rest).length = m * 5 := by rw [vflat_len, hl]
  rw [vflat_append, vflat_one, List.set_append_right _ _ (by omega), hfl, Nat.sub_self]
  rfl
theorem vset4 (rest : List VE) (z : VE) (m : Nat) (hl : rest.length = m) (a b c d : Value) (ys : List Value) : ((((vflat (rest ++ [z]) ++ ys).set (m * 5 + 1) a).set (m * 5 + 2) b).set (m * 5 + 3) c).set (m * 5 + 4) d = vflat rest ++ [z.x.val, a, b, c, d] ++ ys := by
  have hfl : (vflat rest).length = m * 5 := by rw [vflat_len, hl]
  rw [vflat_append, vflat_one, List.append_assoc, List.set_append_right _ _ (by omega), List.set_append_right _ _ (by omega), List.set_append_right _ _ (by omega), List.set_append_right _ _ (by omega), hfl,
    show m * 5 + 1 - m * 5 = 1 by omega, show m * 5 + 2 - m * 5 = 2 by omega, show m * 5 + 3 - m * 5 = 3 by omega, show m * 5 + 4 - m * 5 = 4 by omega]
  simp

/-- A value's kids are all through: it is put to the one above. -/
theorem VS.pop {T : Nat} {W0 wr w' : World} {G m c : Nat} {rest : List VE} {a z : VE} {q : V} {g : Nat} (h : VS T W0 wr G (m + 2) c (rest ++ [a]) z q g) (hl : rest.length = m) (hz : z.x.l = 0) {xs : List Value}
    (hcs : CellsOf wr (Pst W0.heap.size wr G ((rest ++ [a] ++ [z]).map (·.r))) a.r.done xs) {g9 cap9 : Nat}
    (hown : w'.ownsRow W0.heap.size 25 4 (.slice (some ⟨g9, 0, none⟩) (a.r.m + 1) cap9) (a.r.m + 1) (xs ++ [.int .u8 (z.k : Int), .int .u64 (z.n : Int), .string z.t, .slice z.r.A z.r.m z.r.c])) (hg : wr.grownBy w' a.r.ob) (hat : a.r.ob = some g9 ∨ wr.heap.size ≤ g9) :
    VS T W0 ((((w'.setCell ⟨G, m * 5 + 1, none⟩ (.int .u8 (a.k : Int))).setCell ⟨G, m * 5 + 2, none⟩ (.int .u64 (a.n : Int))).setCell ⟨G, m * 5 + 3, none⟩ (.string a.t)).setCell ⟨G, m * 5 + 4, none⟩ (.slice (some ⟨g9, 0, none⟩) (a.r.m + 1) cap9)) G (m + 1) c rest
      ⟨a.x, a.k, a.n, a.t, ⟨some ⟨g9, 0, none⟩, a.r.m + 1, cap9, a.r.done ++ [.mk z.k z.n z.t z.r.done]⟩⟩ q (g - 1) := by
  obtain ⟨hz1, hz2, hz3, hz4⟩ := h.ok z (by simp)
  obtain ⟨ha1, ha2, ha3, ha4⟩ := h.ok a (by simp)
  have hac := h.cnt a (by simp)
  have e1 : z.x.ks = [] := List.eq_nil_of_length_eq_zero (by rw [← hz1.len]; exact hz)
  obtain ⟨_, hao, _, haG⟩ := h.rows.row a.r (by simp)
  have hGl := h.own.lt G (by simp [Value.ownBlock])
  have hrows : Rows W0.heap.size wr G (rest.map (·.r) ++ [a.r, z.r]) := by have := h.rows; simpa using this
  have hfuse := hrows.fuse hGl.2 (t := z.t) hz2 hz3 (by simpa using hcs) hown hg hat
  have hown' : w'.ownsRow W0.heap.size 62 5 (.slice (some ⟨G, 0, none⟩) (m + 2) c) (m + 2) (vflat (rest ++ [a] ++ [z])) := h.own.kept hg (.inr (by
    simp only [Value.ownBlock]
    exact fun e => haG e.symm))
  have h1 := (hown'.stored (m * 5 + 1) (.int .u8 (a.k : Int))).1
  have h2 := (h1.stored (m * 5 + 2) (.int .u64 (a.n : Int))).1
  have h3 := (h2.stored (m * 5 + 3) (.string a.t)).1
  have h4 := (h3.stored (m * 5 + 4) (.slice (some ⟨g9, 0, none⟩) (a.r.m + 1) cap9)).1
  rw [vflat_append (rest ++ [a]) [z], vset4 rest a m hl] at h4
  have h5 := own_pop h4 (m := m + 1) (by simp [vflat_len, hl]; omega) (by omega)
  have hw := h.hg
  rw [vweight_snoc] at hw
  have hw2 := hw
  rw [vweight_snoc] at hw2
  have hs := h.small
  have hil := vw_len (rest ++ [a])
  rw [List.length_append, hl] at hil
  simp only [List.length_cons, List.length_nil] at hil
  rw [vweight_snoc] at hil
  have hset : ∀ (W : World) (x0 x1 x2 x3 : Value) (i : Nat), i ≠ G → ((((W.setCell ⟨G, m * 5 + 1, none⟩ x0).setCell ⟨G, m * 5 + 2, none⟩ x1).setCell ⟨G, m * 5 + 3, none⟩ x2).setCell ⟨G, m * 5 + 4, none⟩ x3).heap[i]? = W.heap[i]? := fun W x0 x1 x2 x3 i hi =>
    (Below.heap_setCell _ _ _ _ hi).trans ((Below.heap_setCell _ _ _ _ hi).trans ((Below.heap_setCell _ _ _ _ hi).trans (Below.heap_setCell _ _ _ _ hi)))
  have hob : ∀ i, i < W0.heap.size → w'.heap[i]? = wr.heap[i]? := fun i hi => hg.block i (Nat.lt_of_lt_of_le hi h.below.size) (fun e => by
    have := (hao.lt i e.symm).1
    omega)
  refine ⟨by omega, by rw [vflat_append, vflat_one]; simpa using h5, ?_, fun p hp => ?_, fun p hp => h.cnt p (by simp [hp]), ?_, by rw [vweight_snoc]; simp only; omega, ?_, by omega⟩
  · have := hfuse.move (w' := (((w'.setCell ⟨G, m * 5 + 1, none⟩ (.int .u8 (a.k : Int))).setCell ⟨G, m * 5 + 2, none⟩ (.int .u64 (a.n : Int))).setCell ⟨G, m * 5 + 3, none⟩ (.string a.t)).setCell ⟨G, m * 5 + 4, none⟩ (.slice (some ⟨g9, 0, none⟩) (a.r.m + 1) cap9)) (G' := G) (fun i _ _ hi => hset _ _ _ _ _ i hi) (by simp) (.inl rfl)
    simpa using this
  · have hkeep : ∀ i, i < W0.heap.size → ((((w'.setCell ⟨G, m * 5 + 1, none⟩ (.int .u8 (a.k : Int))).setCell ⟨G, m * 5 + 2, none⟩ (.int .u64 (a.n : Int))).setCell ⟨G, m * 5 + 3, none⟩ (.string a.t)).setCell ⟨G, m * 5 + 4, none⟩ (.slice (some ⟨g9, 0, none⟩) (a.r.m + 1) cap9)).heap[i]? = wr.heap[i]? := fun i hi =>
      (hset _ _ _ _ _ i (by omega)).trans (hob i hi)
    rcases List.mem_append.1 hp with hp | hp
    · obtain ⟨a1, a2⟩ := h.ok p (by simp [hp])
      exact ⟨a1.keep hkeep, a2⟩
    · rw [List.mem_singleton.1 hp]
      exact ⟨ha1.keep hkeep, ha2, ha3, by simp only; omega⟩
  · rw [h.hq, goV_snoc, e1, List.append_nil]
    simp
  · have hbw : Below W0.heap.size W0 w' := h.below.grown hg h.below.size (fun k hk => (hao.lt k hk).1)
    exact (((hbw.setCell (p := ⟨G, m * 5 + 1, none⟩) hGl.1 _).setCell (p := ⟨G, m * 5 + 2, none⟩) hGl.1 _).setCell (p := ⟨G, m * 5 + 3, none⟩) hGl.1 _).setCell (p := ⟨G, m * 5 + 4, none⟩) hGl.1 _

/-- The next kid is gone into. -/
theorem VS.push {T : Nat} {W0 wr w6 : World} {G m c : Nat} {rest : List VE} {z : VE} {x2 y : SE} {q : V} {g : Nat} {kk kn : Nat} {kt : ByteArray} (h : VS T W0 wr G (m + 1) c rest z q g) (hkk : kk < 256) (hkn : kn < 18446744073709551616)
    (hx2 : Kids false w6 (fun i => i < W0.heap.size) x2.ks x2.A x2.l x2.c) (hy : Kids false w6 (fun i => i < W0.heap.size) y.ks y.A y.l y.c) (hks : z.x.ks = .mk kk kn kt y.ks :: x2.ks) {g' cap : Nat} {A1 : Option Addr} {c1 : Nat}
    (hown : w6.ownsRow W0.heap.size 62 5 (.slice (some ⟨g', 0, none⟩) (m + 1 + 1) cap) (m + 1 + 1) (vflat rest ++ [x2.val, .int .u8 (z.k : Int), .int .u64 (z.n : Int), .string z.t, .slice z.r.A z.r.m z.r.c] ++ [y.val, .int .u8 (kk : Int), .int .u64 (kn : Int), .string kt, .slice A1 0 c1])) (hb : Below W0.heap.size wr w6)
    (hk : ∀ i, W0.heap.size ≤ i → i < wr.heap.size → i ≠ G → w6.heap[i]? = wr.heap[i]?) (hG : g' = G ∨ wr.heap.size ≤ g') (hrow : w6.ownsRow W0.heap.size 25 4 (.slice A1 0 c1) 0 []) (hnew : ∀ b, (Value.slice A1 0 c1).ownBlock = some b → wr.heap.size ≤ b) (hrG : (Value.slice A1 0 c1).ownBlock ≠ some g') :
    VS T W0 w6 g' (m + 1 + 1) cap (rest ++ [⟨x2, z.k, z.n, z.t, z.r⟩]) ⟨y, kk, kn, kt, ⟨A1, 0, c1, []⟩⟩ q (g - 1) := by
  have hw := h.hg
  rw [vweight_snoc, hks] at hw
  simp only [itemsL, items] at hw
  have hs := h.small
  obtain ⟨hz1, hz2, hz3, hz4⟩ := h.ok z (by simp)
  rw [hks] at hz4
  simp only [itemsL, items] at hz4
  have hil := vw_len rest
  have hl := h.len
  have hkeep : ∀ i, i < W0.heap.size → w6.heap[i]? = wr.heap[i]? := fun i hi => hb.block i hi
  refine ⟨by simp; omega, by rw [vflat_append, vflat_append, vflat_one, vflat_one]; exact hown, ?_, fun p hp => ?_, fun p hp => ?_, ?_, by rw [vweight_snoc, vweight_snoc]; simp only; omega, h.below.trans hb, by omega⟩
  · have := (h.rows.begin hk hb.size hG (r := ⟨A1, 0, c1, []⟩) rfl hrow hnew hrG)
    simpa using this
  · simp only [List.append_assoc, List.mem_append, List.mem_cons, List.not_mem_nil, or_false] at hp
    rcases hp with hp | rfl | rfl
    · obtain ⟨a1, a2⟩ := h.ok p (by simp [hp])
      exact ⟨a1.keep hkeep, a2⟩
    · exact ⟨hx2, hz2, hz3, by simp only; omega⟩
    · exact ⟨hy, hkk, hkn, by simp only; omega⟩
  · rcases List.mem_append.1 hp with hp | hp
    · exact h.cnt p hp
    · rw [List.mem_singleton.1 hp]
      simp only
      omega
  · rw [h.hq, hks, goV_snoc]
    simp
end Go.Proofs.YtdbcdabijolagaaDoor.Val
