/-
  What the rows' condition says: the table of package utf lies in memory as its text lays it; how arguments []byte and []uint32 are opened.
-/
import Derived.Test.YtohmnbefokhjpaaDoorEq
import Derived.Test.YtohmnbefokhjpaaDoorTie
import Derived.Test.YtohmnbefokhjpaaDoorCards
import Derived.ProofKit
import Derived.LaidMore
import Derived.OpenShut
import Derived.Carry
import Derived.Stop.Joined
import Derived.SevenTiedAt
import Derived.Deep.Strs
namespace Go.Proofs.YtohmnbefokhjpaaDoor.Utf
set_option maxRecDepth 100000
open Go.ChangeShapes Go.WideShapes Go.ChangeAt Go.RowKit

theorem own : ownKnob Tryd.prog.godebug = none := by kernel_rfl
theorem gShapes : Tryd.prog.globalNamed "bellwether/utf.shapes" = some 0 := by kernel_rfl
theorem tShapes : (Tryd.prog.globals[0]?).map (·.type) = some 114 := by kernel_rfl
theorem cells5 : Tryd.prog.cellsOf 5 = 1 := by kernel_rfl
theorem cells36 : Tryd.prog.cellsOf 105 = 1 := by kernel_rfl
theorem cells54 : Tryd.prog.cellsOf 113 = 3 := by kernel_rfl
theorem cells55 : Tryd.prog.cellsOf 114 = 12 := by kernel_rfl

abbrev laid : List (String × DataW Unit) := [("bellwether/utf.shapes", Rows.laid_bellwether_utf_shapes)]

theorem door_met (os : Os) (args : Array Value) : laidMetH Tryd.prog laid ((World.doorLaid Tryd.prog 400 os).forCall (fun _ _ => 0) ⟨#[], args, []⟩).memory :=
  laidMetH_of_parts3 (fuel := 8) (laidMet_of_run' 8 (by kernel_rfl) (by kernel_rfl)) (by kernel_rfl) (by kernel_rfl)

theorem shape_of {W : World} {m : Nat} {a b c : Value} {y : DataW Unit × List MemPlace} {x0 x1 x2 : Int} (h : DataW.trod (fun _ => ()) Tryd.prog W 0 (fun _ => true) false m 113 [a, b, c] = some y)
    (e : y.1 = .agg [.lit (.int .u32 x0), .lit (.int .u8 x1), .lit (.int .u8 x2)]) : a = .int .u32 x0 ∧ b = .int .u8 x1 ∧ c = .int .u8 x2 := by
  obtain ⟨y0, y1, y2, n, rfl, _, h0, h1, h2⟩ := Go.Deep.trod_struct3 Tryd.underlying113 h
  simp only [cells36, cells5] at h0 h1 h2
  obtain ⟨k0, e0, f0, _⟩ := DataW.trod_int Tryd.underlying105 h0
  obtain ⟨k1, e1, f1, _⟩ := DataW.trod_int Tryd.underlying5 h1
  obtain ⟨k2, e2, f2, _⟩ := DataW.trod_int Tryd.underlying5 h2
  subst f0
  subst f1
  subst f2
  simp at e e0 e1 e2
  obtain ⟨rfl, rfl, rfl⟩ := e
  exact ⟨e0, e1, e2⟩

theorem of_laid {W : World} (h : laidMetH Tryd.prog laid W) : Tab W := by
  rw [MakeChecks.laidMetH_plain _ _ _ (by kernel_rfl)] at h
  obtain ⟨ps, ⟨g0, t0, cs0, f0, p0, q0, hg0, ht0, hv0, hd0, _⟩, _, _⟩ := h
  obtain rfl := Option.some.inj (gShapes.symm.trans hg0)
  obtain rfl := Option.some.inj (tShapes.symm.trans ht0)
  obtain ⟨xs, m1, e1, hx1, hlen, hn3, hel⟩ := DataW.trod_array Tryd.underlying114 hd0
  rw [cells55] at hlen
  simp only [cells54] at hel
  have hx := congrArg Prod.fst hx1
  simp only [Rows.laid_bellwether_utf_shapes, DataW.agg.injEq] at hx
  obtain ⟨l0⟩ := cs0
  have hh0 := hel 0 (by decide)
  have hh1 := hel 1 (by decide)
  have hh2 := hel 2 (by decide)
  have hh3 := hel 3 (by decide)
  have htab : l0 = tab.toList := by
    match l0, hlen, xs, hn3, hx, hh0, hh1, hh2, hh3 with
    | [a0, a1, a2, a3, a4, a5, a6, a7, a8, a9, a10, a11], _, [y0, y1, y2, y3], _, hx, hh0, hh1, hh2, hh3 =>
      simp only [List.map_cons, List.map_nil, List.cons.injEq, and_true] at hx
      obtain ⟨r0, r1, r2⟩ := shape_of (show DataW.trod _ Tryd.prog W 0 _ false m1 113 [a0, a1, a2] = some y0 from hh0) hx.1.symm
      obtain ⟨r3, r4, r5⟩ := shape_of (show DataW.trod _ Tryd.prog W 0 _ false m1 113 [a3, a4, a5] = some y1 from hh1) hx.2.1.symm
      obtain ⟨r6, r7, r8⟩ := shape_of (show DataW.trod _ Tryd.prog W 0 _ false m1 113 [a6, a7, a8] = some y2 from hh2) hx.2.2.1.symm
      obtain ⟨r9, r10, r11⟩ := shape_of (show DataW.trod _ Tryd.prog W 0 _ false m1 113 [a9, a10, a11] = some y3 from hh3) hx.2.2.2.symm
      subst r0; subst r1; subst r2; subst r3; subst r4; subst r5; subst r6; subst r7; subst r8; subst r9; subst r10; subst r11
      rfl
  subst htab
  unfold World.var? at hv0
  rw [gShapes] at hv0
  simp only [Option.bind_some] at hv0
  split at hv0
  · rename_i cs t fr hh
    injection hv0 with hv0
    subst hv0
    exact ⟨t, fr, hh⟩
  · cases hv0

section
variable {H : Type} {enc : TypeId × Value → H}

theorem u8_of_wf {z : Int} (h : (Lit.int .u8 z).wf = true) : 0 ≤ z ∧ z.toNat < 256 := by
  have : 0 ≤ z ∧ z ≤ 255 := by simpa [Lit.wf, IntKind.min, IntKind.max, IntKind.signed, IntKind.bits] using h
  omega
theorem u32_of_wf {z : Int} (h : (Lit.int .u32 z).wf = true) : 0 ≤ z ∧ z.toNat < 4294967296 := by
  have : 0 ≤ z ∧ z ≤ 4294967295 := by simpa [Lit.wf, IntKind.min, IntKind.max, IntKind.signed, IntKind.bits] using h
  omega

/-- An argument []byte or []uint32, opened: it is a slice that is read. -/
theorem open_nums {K : IntKind} {M : Nat} {t et : TypeId} (ht : Tryd.prog.underlying t = some (.slice et)) (he : Tryd.prog.underlying et = some (.int K)) (hce : Tryd.prog.cellsOf et = 1) (hwf : ∀ z : Int, (Lit.int K z).wf = true → 0 ≤ z ∧ z.toNat < M)
    {W : World} {r : Reach} {b0 : Nat} {v : Value} {d : DataW H} {p : List MemPlace} (hval : Value.okWide Tryd.prog W r b0 t v) (h : DataW.Trod enc Tryd.prog W 0 (fun _ => true) true t v d p) (hlt : ∀ x ∈ p, x.block < W.heap.size) :
    ∃ A n c l, v = .slice A n c ∧ n ≤ c ∧ c ≤ maxLen ∧ Rd K M W W.heap.size A n l := by
  obtain ⟨a0, len, cap, rfl⟩ := okWide_slice ht hval
  obtain ⟨fuel, hf⟩ := h
  rcases open_ints ht he hce hf with ⟨hcs, hx⟩ | ⟨a, len', cap', zs, hcs, _, hl, hm, hz, hx, hcell, hwz⟩
  · simp [Value.cells] at hcs
    obtain ⟨rfl, rfl, rfl⟩ := hcs
    exact ⟨none, 0, 0, [], rfl, Nat.le_refl _, by unfold maxLen; omega, Rd.zero _ _ _ _ _⟩
  · simp [Value.cells] at hcs
    obtain ⟨rfl, rfl, rfl⟩ := hcs
    simp only [Prod.mk.injEq] at hx
    obtain ⟨rfl, rfl⟩ := hx
    simp only [if_true] at hz
    refine ⟨some a, len, cap, (zs.take len).map fun z => z.toNat, rfl, hl, hm, by simp; omega, ?_, fun hn => ?_⟩
    · intro x hx
      obtain ⟨z, hz', rfl⟩ := List.mem_map.1 hx
      exact (hwf z (hwz z (List.mem_of_mem_take hz'))).2
    obtain ⟨b, off, spot⟩ := a
    have hspot : spot = none := by simpa [Addr.add] using World.cell?_spot (hcell 0 (by omega))
    subst hspot
    refine ⟨b, off, rfl, hlt (.cell b off) (MemPlace.mem_row.2 ⟨0, by omega, by simp⟩), fun k hk => ?_⟩
    have hk' : k < len := by simp at hk; omega
    have hkz : k < zs.length := by omega
    have := hcell k hkz
    rw [add_plain] at this
    rw [this, List.getD_eq_getElem?_getD, List.getElem?_eq_getElem hkz, Option.getD_some, List.getElem_map, List.getElem_take]
    have h0 := (hwf _ (hwz _ (List.getElem_mem hkz))).1
    rw [Int.toNat_of_nonneg h0]
end

theorem laidOut : laidOutB Tryd.prog = true := by kernel_rfl

end Go.Proofs.YtohmnbefokhjpaaDoor.Utf
