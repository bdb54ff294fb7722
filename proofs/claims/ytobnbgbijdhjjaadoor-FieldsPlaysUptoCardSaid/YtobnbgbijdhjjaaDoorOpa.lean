/-
  Arguments of questions (one, and many) and of many texts, opened. No condition.
-/
import Derived.Test.YtobnbgbijdhjjaaDoorOpen
import Derived.Test.YtobnbgbijdhjjaaDoorFsa
import Derived.Deep.Strs
namespace Go.Proofs.YtobnbgbijdhjjaaDoor.Fl
set_option maxRecDepth 100000
open Go.ChangeShapes Go.WideShapes Go.ChangeAt Go.RowKit Go.Proofs.YtobnbgbijdhjjaaDoor.Utf Go.Proofs.YtobnbgbijdhjjaaDoor.Val V
variable {H : Type} {enc : TypeId × Value → H}

theorem bulk_lits (k : IntKind) (zs : List Int) : Rows.uptoBulkAll (H := H) (lits k zs) = zs.length := by
  induction zs with
  | nil => rfl
  | cons z zs ih =>
    show Rows.uptoBulk (DataW.lit (.int k z)) + Rows.uptoBulkAll (lits k zs) = _
    rw [ih]
    simp only [Rows.uptoBulk, List.length_cons]
    omega
theorem open_bytes_of {W : World} {fuel : Nat} {cs : List Value} {x : DataW H × List MemPlace} (h : DataW.trod enc Tryd.prog W 0 (fun _ => true) true fuel 42 cs = some x) (hlt : ∀ p ∈ x.2, p.block < W.heap.size) :
    ∃ A n c L, cs = [.slice A n c] ∧ Rd .u8 256 W W.heap.size A n L ∧ n ≤ Rows.uptoBulk x.1 := by
  rcases open_ints Tryd.underlying42 Tryd.underlying5 cells5 h with ⟨rfl, rfl⟩ | ⟨a, len, cap, zs, rfl, _, hl, hm, hz, rfl, hcell, hwz⟩
  · exact ⟨none, 0, 0, [], rfl, Rd.zero _ _ _ _ _, Nat.zero_le _⟩
  · simp only [if_true] at hz
    refine ⟨some a, len, cap, (zs.take len).map fun z => z.toNat, rfl, ⟨by simp; omega, ?_, fun hn => ?_⟩, ?_⟩
    · intro x hx
      obtain ⟨z, hz', rfl⟩ := List.mem_map.1 hx
      exact (u8_of_wf (hwz z (List.mem_of_mem_take hz'))).2
    · obtain ⟨b, off, spot⟩ := a
      have hspot : spot = none := by simpa [Addr.add] using World.cell?_spot (hcell 0 (by omega))
      subst hspot
      refine ⟨b, off, rfl, hlt (.cell b off) (MemPlace.mem_row.2 ⟨0, by omega, by simp⟩), fun k hk => ?_⟩
      have hk' : k < len := by simp at hk; omega
      have hkz : k < zs.length := by omega
      have := hcell k hkz
      rw [add_plain] at this
      rw [this, List.getD_eq_getElem?_getD, List.getElem?_eq_getElem hkz, Option.getD_some, List.getElem_map, List.getElem_take]
      have h0 := (u8_of_wf (hwz _ (List.getElem_mem hkz))).1
      rw [Int.toNat_of_nonneg h0]
    · simp only [Rows.uptoBulk, bulk_lits, List.length_take]
      omega

/-- What a reading of a question's six cells says. -/
def FitsA (W : World) (cs : List Value) (q : AQ) (B : Nat) : Prop := ∃ KA kl kc, cs = [.int .i64 q.what, .int .i64 q.i, .int .u8 (q.kind : Int), .bool q.must, .int .u64 (q.z : Int), .slice KA kl kc] ∧ q.z < 18446744073709551616 ∧ Rd .u8 256 W W.heap.size KA kl q.L ∧ kl ≤ B
theorem open_ask_of {W : World} {fuel : Nat} {cs : List Value} {x : DataW H × List MemPlace} (h : DataW.trod enc Tryd.prog W 0 (fun _ => true) true fuel 44 cs = some x) (hlt : ∀ p ∈ x.2, p.block < W.heap.size) :
    ∃ q, FitsA W cs q (Rows.uptoBulk x.1) := by
  obtain ⟨xs, m, rfl, rfl, hl, hlen, hf⟩ := DataW.trod_struct Tryd.underlying44 h
  match xs, hlen with
  | [y0, y1, y2, y3, y4, y5], _ =>
    have h0 := hf 0 _ rfl
    have h1 := hf 1 _ rfl
    have h2 := hf 2 _ rfl
    have h3 := hf 3 _ rfl
    have h4 := hf 4 _ rfl
    have h5 := hf 5 _ rfl
    rw [show Tryd.prog.cellsOf 44 = 6 by kernel_rfl] at hl
    match cs, hl with
    | [c0, c1, c2, c3, c4, c5], _ =>
      have e0 : ((List.drop 0 [c0, c1, c2, c3, c4, c5]).take (Tryd.prog.cellsOf 3)) = [c0] := by rw [show Tryd.prog.cellsOf 3 = 1 by kernel_rfl]; rfl
      have e1 : ((List.drop 1 [c0, c1, c2, c3, c4, c5]).take (Tryd.prog.cellsOf 3)) = [c1] := by rw [show Tryd.prog.cellsOf 3 = 1 by kernel_rfl]; rfl
      have e2 : ((List.drop 2 [c0, c1, c2, c3, c4, c5]).take (Tryd.prog.cellsOf 5)) = [c2] := by rw [show Tryd.prog.cellsOf 5 = 1 by kernel_rfl]; rfl
      have e3 : ((List.drop 3 [c0, c1, c2, c3, c4, c5]).take (Tryd.prog.cellsOf 4)) = [c3] := by rw [show Tryd.prog.cellsOf 4 = 1 by kernel_rfl]; rfl
      have e4 : ((List.drop 4 [c0, c1, c2, c3, c4, c5]).take (Tryd.prog.cellsOf 22)) = [c4] := by rw [show Tryd.prog.cellsOf 22 = 1 by kernel_rfl]; rfl
      have e5 : ((List.drop 5 [c0, c1, c2, c3, c4, c5]).take (Tryd.prog.cellsOf 42)) = [c5] := by rw [show Tryd.prog.cellsOf 42 = 1 by kernel_rfl]; rfl
      have g0 : DataW.trod enc Tryd.prog W 0 (fun _ => true) true m 3 [c0] = some y0 := by rw [← e0]; exact h0
      have g1 : DataW.trod enc Tryd.prog W 0 (fun _ => true) true m 3 [c1] = some y1 := by rw [← e1]; exact h1
      have g2 : DataW.trod enc Tryd.prog W 0 (fun _ => true) true m 5 [c2] = some y2 := by rw [← e2]; exact h2
      have g3 : DataW.trod enc Tryd.prog W 0 (fun _ => true) true m 4 [c3] = some y3 := by rw [← e3]; exact h3
      have g4 : DataW.trod enc Tryd.prog W 0 (fun _ => true) true m 22 [c4] = some y4 := by rw [← e4]; exact h4
      have g5 : DataW.trod enc Tryd.prog W 0 (fun _ => true) true m 42 [c5] = some y5 := by rw [← e5]; exact h5
      obtain ⟨a, ha, rfl, _⟩ := DataW.trod_int Tryd.underlying3 g0
      obtain ⟨i, hi, rfl, _⟩ := DataW.trod_int Tryd.underlying3 g1
      obtain ⟨k, hk, rfl, wk⟩ := DataW.trod_int Tryd.underlying5 g2
      obtain ⟨b, hb, rfl⟩ := DataW.trod_bool Tryd.underlying4 g3
      obtain ⟨u, hu, rfl, wu⟩ := DataW.trod_int Tryd.underlying22 g4
      obtain ⟨A, n, c, L, hs, hr, hn⟩ := open_bytes_of g5 (fun p hp => hlt p (by simp [hp]))
      have bk : 0 ≤ k ∧ k < 256 := by simp [Lit.wf, IntKind.min, IntKind.max, IntKind.signed, IntKind.bits] at wk; omega
      have bu : 0 ≤ u ∧ u < 18446744073709551616 := by simp [Lit.wf, IntKind.min, IntKind.max, IntKind.signed, IntKind.bits] at wu; omega
      obtain ⟨k', rfl⟩ := Int.eq_ofNat_of_zero_le bk.1
      obtain ⟨u', rfl⟩ := Int.eq_ofNat_of_zero_le bu.1
      simp only [List.cons.injEq, and_true] at ha hi hk hb hu hs
      subst ha hi hk hb hu hs
      refine ⟨⟨a, i, k', b, u', L⟩, A, n, c, rfl, (by show u' < _; omega), hr, ?_⟩
      simp only [List.map_cons, List.map_nil, Rows.uptoBulk, Rows.uptoBulkAll]
      omega
/-- An argument that is a question. -/
theorem open_ask {W : World} {r : Reach} {b0 : Nat} {v : Value} {d : DataW H} {p : List MemPlace} (hval : Value.okWide Tryd.prog W r b0 44 v) (h : DataW.Trod enc Tryd.prog W 0 (fun _ => true) true 44 v d p) (hlt : ∀ x ∈ p, x.block < W.heap.size) :
    ∃ (q : AQ) (KA : Option Addr) (kl kc : Nat), v = .agg #[.int .i64 q.what, .int .i64 q.i, .int .u8 (q.kind : Int), .bool q.must, .int .u64 (q.z : Int), .slice KA kl kc] ∧ q.z < 18446744073709551616 ∧ Rd .u8 256 W W.heap.size KA kl q.L ∧ kl ≤ Rows.uptoBulk d := by
  obtain ⟨cs, rfl, hsz⟩ := okWide_struct Tryd.underlying44 hval
  obtain ⟨fuel, hf⟩ := h
  obtain ⟨q, KA, kl, kc, hcs, hz, hr, hn⟩ := open_ask_of hf hlt
  simp only [Value.cells] at hcs
  refine ⟨q, KA, kl, kc, ?_, hz, hr, hn⟩
  congr 1
  cases cs
  simp at hcs
  simp [hcs]

/-- Questions in memory. -/
def Qs (w : World) (A : Option Addr) (n : Nat) (qs : List AQ) : Prop := n = qs.length ∧ ∀ j, j < n → ∃ b o q KA kl kc, A = some ⟨b, o, none⟩ ∧ b < w.heap.size ∧ qs[j]? = some q ∧
  w.cell? ⟨b, o + j * 6, none⟩ = some (.int .i64 q.what) ∧ w.cell? ⟨b, o + j * 6 + 1, none⟩ = some (.int .i64 q.i) ∧ w.cell? ⟨b, o + j * 6 + 2, none⟩ = some (.int .u8 (q.kind : Int)) ∧ w.cell? ⟨b, o + j * 6 + 3, none⟩ = some (.bool q.must) ∧ w.cell? ⟨b, o + j * 6 + 4, none⟩ = some (.int .u64 (q.z : Int)) ∧ w.cell? ⟨b, o + j * 6 + 5, none⟩ = some (.slice KA kl kc) ∧
  q.z < 18446744073709551616 ∧ Kinds w KA kl q.L
theorem Qs.call {w w' : World} {A : Option Addr} {n : Nat} {qs : List AQ} (h : Qs w A n qs) (hb : Below w.heap.size w w') : Qs w' A n qs :=
  ⟨h.1, fun j hj => by
    obtain ⟨b, o, q, KA, kl, kc, e, hl, hx, c0, c1, c2, c3, c4, c5, hz, hk⟩ := h.2 j hj
    exact ⟨b, o, q, KA, kl, kc, e, Nat.lt_of_lt_of_le hl hb.size, hx, (hb.cell (p := ⟨b, o + j * 6, none⟩) hl).trans c0, (hb.cell (p := ⟨b, o + j * 6 + 1, none⟩) hl).trans c1, (hb.cell (p := ⟨b, o + j * 6 + 2, none⟩) hl).trans c2, (hb.cell (p := ⟨b, o + j * 6 + 3, none⟩) hl).trans c3, (hb.cell (p := ⟨b, o + j * 6 + 4, none⟩) hl).trans c4, (hb.cell (p := ⟨b, o + j * 6 + 5, none⟩) hl).trans c5, hz, hk.call hb⟩⟩
theorem bulk_mem {es : List (DataW H)} {d : DataW H} (h : d ∈ es) : Rows.uptoBulk d ≤ Rows.uptoBulkAll es := by
  induction es with
  | nil => cases h
  | cons e es ih =>
    simp only [Rows.uptoBulkAll]
    rcases List.mem_cons.1 h with rfl | h
    · omega
    · have := ih h; omega
/-- An argument of questions. -/
theorem open_asks {W : World} {r : Reach} {b0 : Nat} {v : Value} {d : DataW H} {p : List MemPlace} (hval : Value.okWide Tryd.prog W r b0 26 v) (h : DataW.Trod enc Tryd.prog W 0 (fun _ => true) true 26 v d p) (hlt : ∀ x ∈ p, x.block < W.heap.size) :
    ∃ qs A l c, v = .slice A l c ∧ l ≤ c ∧ (Rows.uptoBulk d ≤ 1099511627776 → Qs W A l qs) := by
  obtain ⟨a0, len0, cap0, rfl⟩ := okWide_slice Tryd.underlying26 hval
  obtain ⟨fuel, hf⟩ := h
  rcases DataW.trod_slice Tryd.underlying26 hf with ⟨hcs, _⟩ | ⟨a, len, cap, elems, rest, n, _, hcs, hd, _, hl, hm, hlen, hel, _, _⟩
  · simp only [Value.cells, List.cons.injEq, Value.slice.injEq, and_true] at hcs
    obtain ⟨rfl, rfl, rfl⟩ := hcs
    exact ⟨[], none, 0, 0, rfl, Nat.le_refl _, fun _ => ⟨rfl, fun j hj => by omega⟩⟩
  simp only [Value.cells, List.cons.injEq, Value.slice.injEq, and_true] at hcs
  obtain ⟨rfl, rfl, rfl⟩ := hcs
  injection hd with hd hp
  have hat : ∀ i, i < len0 → ∃ q : AQ, ∃ e cs', elems[i]? = some e ∧ W.cells? 0 (a.add (i * 6)) 6 = some cs' ∧ FitsA W cs' q (Rows.uptoBulk e.1) := by
    intro i hi
    have he : elems[i]? = some elems[i] := List.getElem?_eq_getElem (by omega)
    have hb := hel i hi
    rw [show Tryd.prog.cellsOf 44 = 6 by kernel_rfl, he] at hb
    obtain ⟨cs', h1, h2⟩ := Option.bind_eq_some_iff.1 hb
    obtain ⟨q, hq⟩ := open_ask_of h2 (fun x hx => hlt x (by rw [hp]; simp only [List.mem_append, List.mem_flatMap]; exact Or.inr ⟨elems[i], Or.inl (List.getElem_mem _), hx⟩))
    exact ⟨q, elems[i], cs', he, h1, hq⟩
  obtain ⟨qs, hql, hq⟩ := list_of hat
  refine ⟨qs, some a, len0, cap0, rfl, hl, fun hbig => ⟨hql.symm, fun j hj => ?_⟩⟩
  obtain ⟨q, hx⟩ : ∃ q, qs[j]? = some q := ⟨qs[j]'(by omega), List.getElem?_eq_getElem (by omega)⟩
  obtain ⟨e, cs', he, hc, KA, kl, kc, hcs, hz, hr, hn⟩ := hq j q hx
  have hblk := World.cells?_block hc (by omega)
  obtain ⟨_, hcl, hcc⟩ := World.cells?_some hc
  obtain ⟨b, o, spot⟩ := a
  have hspot : spot = none := by
    obtain ⟨q0', hx0⟩ : ∃ q, qs[0]? = some q := ⟨qs[0]'(by omega), List.getElem?_eq_getElem (by omega)⟩
    obtain ⟨e0, cs0, _, hc0, _⟩ := hq 0 q0' hx0
    obtain ⟨_, hcl0, hcc0⟩ := World.cells?_some hc0
    have h00 := hcc0 0 (by omega)
    obtain ⟨c0, hc00⟩ : ∃ c, cs0[0]? = some c := ⟨cs0[0]'(by omega), List.getElem?_eq_getElem (by omega)⟩
    rw [hc00] at h00
    simpa [Addr.add] using World.cell?_spot h00
  subst hspot
  subst hcs
  rw [add_plain] at hblk
  have q0 := hcc 0 (by omega)
  have q1 := hcc 1 (by omega)
  have q2 := hcc 2 (by omega)
  have q3 := hcc 3 (by omega)
  have q4 := hcc 4 (by omega)
  have q5 := hcc 5 (by omega)
  simp only [add_plain, List.getElem?_cons_zero, List.getElem?_cons_succ, Nat.add_zero] at q0 q1 q2 q3 q4 q5
  refine ⟨b, o, q, KA, kl, kc, rfl, hblk, hx, q0, q1, q2, q3, q4, q5, hz, hr, ?_⟩
  have hmem : Rows.uptoBulk e.1 ≤ Rows.uptoBulkAll (elems.map (·.1)) := bulk_mem (List.mem_map.2 ⟨e, List.mem_of_getElem? he, rfl⟩)
  rw [hd] at hbig
  simp only [Rows.uptoBulk] at hbig
  omega
end Go.Proofs.YtobnbgbijdhjjaaDoor.Fl
