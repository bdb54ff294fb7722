/-
  Contracts of encode.canAll and first: the first code that can tell all. Memory that was there stays. Condition: what plans tell of their kids is below 2^50.
-/
import Derived.Test.YtikjnbognjicdaaDoorAllC
namespace Go.Proofs.YtikjnbognjicdaaDoor.Enc
set_option maxRecDepth 100000
open Go.RowKit Go.Proofs.YtikjnbognjicdaaDoor.Utf Go.Proofs.YtikjnbognjicdaaDoor.Val

/-- What a plan tells of its kids is within bounds. -/
def Bnd (l : List Pl) : Prop := ∀ p ∈ l, p.re < 2 ^ 50 ∧ p.im < 2 ^ 50
/-- The function value answers what f says, of any plan within bounds. -/
def Says (w : World) (f : Can) (fn : FuncId) (cap : Array Value) : Prop := ∀ (ns ks : List Pl) (NA : Option Addr) (nl nc k n : Nat) (t : ByteArray) (VA : Option Addr) (vl vc code : Nat) (bb : Bool) (KA : Option Addr) (kl kc re im : Nat) (wx : World), Below w.heap.size w wx → re < 2 ^ 50 → im < 2 ^ 50 → Calls Tryd.prog fn (#[.agg #[.slice NA nl nc, .int .u8 (k : Int), .int .u64 (n : Int), .string t, .slice VA vl vc, .int .u8 (code : Int), .bool bb, .slice KA kl kc, .complex .f64 (fb re) (fb im)]] ++ cap) wx (GivesB (can f (.mk ns k n t code bb ks re im)) wx)
theorem all_take {f : Can} {l : List Pl} {j : Nat} {p : Pl} (h : l[j]? = some p) (ht : (l.take j).all (can f) = true) (hp : can f p = true) : (l.take (j + 1)).all (can f) = true := by
  rw [takeP_snoc h, List.all_append, ht]
  simp [hp]
theorem all_no {f : Can} {l : List Pl} {j : Nat} {p : Pl} (h : l[j]? = some p) (hp : can f p = false) : l.all (can f) = false := by
  cases ha : l.all (can f) with
  | false => rfl
  | true => rw [List.all_eq_true.1 ha p (List.mem_of_getElem? h)] at hp; cases hp

set_option maxHeartbeats 1000000 in
theorem canAll_any (f : Can) (fv : Value) (l : List Pl) (A : Option Addr) (m c : Nat) (w : World) (hf : CanV w f fv) (hL : Pd w l A m c) (hB : Bnd l) (hm : m ≤ 1099511627776) : Calls Tryd.prog 71 #[fv, .slice A m c] w (GivesB (l.all (can f)) w) := by
  have hl1 : m ≤ l.length := Nat.le_of_eq hL.len
  have hl2 : l.length ≤ m := Nat.le_of_eq hL.len.symm
  have hsc := store_cplx
  have hF : ∃ fn cap, fv = .func (.func fn) #[] cap ∧ Says w f fn cap := by
    cases f with
    | all => exact ⟨_, _, hf, fun ns ks NA nl nc k n t VA vl vc code bb KA kl kc re im wx _ _ _ => all_any NA nl nc k n t VA vl vc code bb KA kl kc re im wx⟩
    | just x =>
      obtain ⟨g, e, hg, hc⟩ := hf
      exact ⟨_, _, e, fun ns ks NA nl nc k n t VA vl vc code bb KA kl kc re im wx hb _ _ => just_said NA nl nc k n t VA vl vc code bb KA kl kc re im wx x g ((hb.cell (p := ⟨g, 0, none⟩) hg).trans hc) (Nat.lt_of_lt_of_le hg hb.size)⟩
    | upto x =>
      obtain ⟨g, e, hg, hc⟩ := hf
      exact ⟨_, _, e, fun ns ks NA nl nc k n t VA vl vc code bb KA kl kc re im wx hb _ _ => upto_said NA nl nc k n t VA vl vc code bb KA kl kc re im wx x g ((hb.cell (p := ⟨g, 0, none⟩) hg).trans hc) (Nat.lt_of_lt_of_le hg hb.size)⟩
    | short => exact ⟨_, _, hf, fun ns ks NA nl nc k n t VA vl vc code bb KA kl kc re im wx _ _ _ => short_any NA nl nc k n t VA vl vc code bb KA kl kc re im wx⟩
    | near => exact ⟨_, _, hf, fun ns ks NA nl nc k n t VA vl vc code bb KA kl kc re im wx _ _ _ => near_any NA nl nc k n t VA vl vc code bb KA kl kc re im wx⟩
    | none_ => exact ⟨_, _, hf, fun ns ks NA nl nc k n t VA vl vc code bb KA kl kc re im wx _ _ h => none_any NA nl nc k n t VA vl vc code bb KA kl kc re im wx h⟩
    | small => exact ⟨_, _, hf, fun ns ks NA nl nc k n t VA vl vc code bb KA kl kc re im wx _ h h' => small_any NA nl nc k n t VA vl vc code bb KA kl kc re im wx h h'⟩
  have hcase : ∃ fn cap, fv = .func (.func fn) #[] cap ∧ Says w f fn cap ∧ (∀ args wx, (callFunc fn args).run Tryd.prog wx = .ok (.enter fn args) wx) := by
    cases f with
    | all => obtain ⟨fn, cap, e, h⟩ := hF; rw [hf] at e; injection e with e1 _ e2; injection e1 with e1; subst e1 e2; exact ⟨_, _, hf, h, fun args wx => Tryd.call40 args wx⟩
    | just x => obtain ⟨fn, cap, e, h⟩ := hF; obtain ⟨g, e', hg, hc⟩ := hf; rw [e'] at e; injection e with e1 _ e2; injection e1 with e1; subst e1 e2; exact ⟨_, _, e', h, fun args wx => Tryd.call49 args wx⟩
    | upto x => obtain ⟨fn, cap, e, h⟩ := hF; obtain ⟨g, e', hg, hc⟩ := hf; rw [e'] at e; injection e with e1 _ e2; injection e1 with e1; subst e1 e2; exact ⟨_, _, e', h, fun args wx => Tryd.call51 args wx⟩
    | short => obtain ⟨fn, cap, e, h⟩ := hF; rw [hf] at e; injection e with e1 _ e2; injection e1 with e1; subst e1 e2; exact ⟨_, _, hf, h, fun args wx => Tryd.call43 args wx⟩
    | near => obtain ⟨fn, cap, e, h⟩ := hF; rw [hf] at e; injection e with e1 _ e2; injection e1 with e1; subst e1 e2; exact ⟨_, _, hf, h, fun args wx => Tryd.call46 args wx⟩
    | none_ => obtain ⟨fn, cap, e, h⟩ := hF; rw [hf] at e; injection e with e1 _ e2; injection e1 with e1; subst e1 e2; exact ⟨_, _, hf, h, fun args wx => Tryd.call41 args wx⟩
    | small => obtain ⟨fn, cap, e, h⟩ := hF; rw [hf] at e; injection e with e1 _ e2; injection e1 with e1; subst e1 e2; exact ⟨_, _, hf, h, fun args wx => Tryd.call44 args wx⟩
  clear hF hf
  obtain ⟨fn, cap, rfl, hsay, hcall⟩ := hcase
  have HS := Lib.hid hsay
  clear hsay
  go_enter Tryd.func71, Tryd.ntmps71
  go_wp2
  go_loopw [9] (fun i wr => ∃ j : Nat, j ≤ m ∧ i = .int .i64 j ∧ (l.take j).all (can f) = true ∧ Below w.heap.size w wr) (fun i _ => m - (intOf i).toNat)
  case atStart => exact ⟨0, Nat.zero_le _, rfl, by simp, Below.refl _ _⟩
  case round =>
    obtain ⟨j, hj, rfl, ht, hb⟩ := hrel
    have HT := Lib.hid ht
    clear ht
    by_cases hlt : j < m
    · obtain ⟨b, o, ns, k, n, t, code, bb, ks, re, im, NA, nl, nc, VA, vl, vc, KA, kl, kc, rfl, hb', hx, ⟨a0, a1, a2, a3, a4, a5, a6, a7, a8⟩, hN', hK'⟩ := (hL.call hb).at_ hlt
      have hbn := hB _ (List.mem_of_getElem? hx)
      have hb3 := hb.alloc hb.size (.cells #[.slice NA nl nc, .int .u8 (k : Int), .int .u64 (n : Int), .string t, .slice VA vl vc, .int .u8 (code : Int), .bool bb, .slice KA kl kc, .complex .f64 (fb re) (fb im)] 56)
      have hcl := HS.out ns ks NA nl nc k n t VA vl vc code bb KA kl kc re im (wr.alloc (.cells #[.slice NA nl nc, .int .u8 (k : Int), .int .u64 (n : Int), .string t, .slice VA vl vc, .int .u8 (code : Int), .bool bb, .slice KA kl kc, .complex .f64 (fb re) (fb im)] 56)) hb3 hbn.1 hbn.2
      obtain ⟨r, hr⟩ : ∃ r, can f (.mk ns k n t code bb ks re im) = r := ⟨_, rfl⟩
      rw [hr] at hcl
      have HX := Lib.hid hx
      have HR := Lib.hid hr
      clear hx hr hbn
      cases r with
      | true =>
        go_wp2_with fail
        refine hcl.mono ?_
        rintro e w2 ⟨rfl, hb2⟩
        have hb4 := below_next hb3 hb2
        go_wp2
        go_roundw
        case rel => exact ⟨j + 1, by omega, by go_num, all_take HX.out HT.out HR.out, hb4⟩
        case measure => simp [intOf]; omega
      | false =>
        have hno : Hid (l.all (can f) = false) := Lib.hid (all_no HX.out HR.out)
        go_wp2_with fail
        refine hcl.mono ?_
        rintro e w2 ⟨rfl, hb2⟩
        have hb4 := below_next hb3 hb2
        go_wp2
        go_ret
        rw [hno.out]
        exact ⟨rfl, hb4⟩
    · have HE : Hid (l.take j = l) := Lib.hid (List.take_of_length_le (by omega))
      go_wp2
      go_ret
      have hA : l.all (can f) = true := HE.out ▸ HT.out
      rw [hA]
      exact ⟨rfl, hb⟩

def GivesC (n : Nat) (w : World) (e : Ending) (w' : World) : Prop := e = .returned (.int .u8 (n : Int)) ∧ Below w.heap.size w w'
theorem pick_step {cs : List (Nat × Can)} {l : List Pl} {j c : Nat} {f : Can} (h : cs[j]? = some (c, f)) (hf : l.all (can f) = false) : pick (cs.drop j) l = pick (cs.drop (j + 1)) l := by
  obtain ⟨hj, e⟩ := List.getElem?_eq_some_iff.1 h
  rw [List.drop_eq_getElem_cons hj, e]
  simp [pick, hf]
theorem pick_here {cs : List (Nat × Can)} {l : List Pl} {j c : Nat} {f : Can} (h : cs[j]? = some (c, f)) (hf : l.all (can f) = true) : pick (cs.drop j) l = c := by
  obtain ⟨hj, e⟩ := List.getElem?_eq_some_iff.1 h
  rw [List.drop_eq_getElem_cons hj, e]
  simp [pick, hf]
theorem chs_len (k : Nat) : (chs k).length ≤ 3 := by
  unfold chs
  split <;> decide

set_option maxHeartbeats 1000000 in
theorem first_any (l : List Pl) (bm : Nat) (A : Option Addr) (m c : Nat) (w : World) (hM : CM w bm) (hL : Pd w l A m c) (hB : Bnd l) (hm : m ≤ 1099511627776) {ns ks : List Pl} {k n : Nat} {t : ByteArray} {code : Nat} {bb : Bool} {re im : Nat} (h0 : l[0]? = some (.mk ns k n t code bb ks re im)) (hk1 : 1 ≤ k) (hk2 : k ≤ 24) :
    Calls Tryd.prog 54 #[.map (some bm), .slice A m c] w (GivesC (first l) w) := by
  have hfl : first l = pick (chs k) l := by
    cases l with
    | nil => cases h0
    | cons p r =>
      simp at h0
      subst h0
      rfl
  have hm0 : 0 < m := by
    rw [hL.len]
    exact (List.getElem?_eq_some_iff.1 h0).1
  obtain ⟨v, hrun, ⟨b, cc, rfl, hbl, hch⟩⟩ := run_kind hM hk1 hk2
  obtain ⟨lb, lo, ns', k', n', t', code', bb', ks', re', im', NA, nl, nc, VA, vl, vc, KA, kl, kc, rfl, hb', hx, ⟨a0, a1, a2, a3, a4, a5, a6, a7, a8⟩, hN', hK'⟩ := hL.at_ hm0
  rw [h0] at hx
  injection hx with hx
  injection hx with _ hx
  subst hx
  rw [Nat.zero_mul, Nat.add_zero] at a0 a1 a2 a3 a4 a5 a6 a7 a8
  have hN := chs_len k
  obtain ⟨N, hNN⟩ : ∃ N, (chs k).length = N := ⟨_, rfl⟩
  rw [hNN] at hrun hN
  have HNN := Lib.hid hNN
  have HH := Lib.hid hch
  have HL := Lib.hid hL
  rw [hfl]
  have hmI : (0 : Int) < (m : Int) := by omega
  have hsf := store_func
  clear hNN hch hL hfl h0 hN' hK' hM
  go_enter Tryd.func54, Tryd.ntmps54
  go_wp2
  go_loopw [15] (fun i wr => ∃ j : Nat, j ≤ N ∧ i = .int .i64 j ∧ pick (chs k) l = pick ((chs k).drop j) l ∧ Below w.heap.size w wr) (fun i _ => N - (intOf i).toNat)
  case atStart => exact ⟨0, Nat.zero_le _, rfl, by simp, Below.refl _ _⟩
  case round =>
    obtain ⟨j, hj, rfl, ht, hb⟩ := hrel
    have HT := Lib.hid ht
    clear ht
    by_cases hlt : j < N
    · have hjl : j < (chs k).length := by rw [HNN.out]; exact hlt
      obtain ⟨⟨c0, f0⟩, hcj⟩ : ∃ x, (chs k)[j]? = some x := ⟨_, List.getElem?_eq_getElem hjl⟩
      obtain ⟨q0, fv, q1, q2⟩ := chV_at (HH.out.keep hb.size (fun g hg o _ hc => (hb.cell (p := ⟨g, o, none⟩) hg).trans hc) hbl) hcj
      rw [Nat.zero_add] at q0 q1
      obtain ⟨fn, cap, rfl⟩ := canV_form q2
      have hb3 := hb.alloc hb.size (.cells #[.int .u8 (c0 : Int), .func fn #[] cap] 82)
      have hcl := canAll_any f0 (.func fn #[] cap) l (some ⟨lb, lo, none⟩) m c (wr.alloc (.cells #[.int .u8 (c0 : Int), .func fn #[] cap] 82)) (q2.alloc _) ((HL.out.call hb).alloc _) hB hm
      obtain ⟨r, hr⟩ : ∃ r, l.all (can f0) = r := ⟨_, rfl⟩
      rw [hr] at hcl
      have HX := Lib.hid hcj
      have HR := Lib.hid hr
      have hbx : (wr.alloc (.cells #[.int .u8 (c0 : Int), .func fn #[] cap] 82)).cell? ⟨wr.heap.size, 0, none⟩ = some (.int .u8 (c0 : Int)) := by simp
      clear hcj hr
      cases r with
      | true =>
        go_wp2_with (go_at_call 71; (with_reducible refine hcl.mono ?_); rintro e w2 ⟨rfl, hb2⟩; have hb4 := below_next hb3 hb2; have hbx2 := (hb2.cell (p := ⟨wr.heap.size, 0, none⟩) (by simp)).trans hbx)
        go_ret
        rw [HT.out, pick_here HX.out HR.out]
        exact ⟨rfl, hb4⟩
      | false =>
        go_wp2_with (go_at_call 71; (with_reducible refine hcl.mono ?_); rintro e w2 ⟨rfl, hb2⟩; have hb4 := below_next hb3 hb2)
        go_roundw
        case rel => exact ⟨j + 1, by omega, by go_num, by rw [HT.out, pick_step HX.out HR.out], hb4⟩
        case measure => simp [intOf]; omega
    · have HE : Hid (pick (chs k) l = 0) := Lib.hid (by rw [HT.out, List.drop_eq_nil_of_le (by rw [HNN.out]; omega)]; rfl)
      go_wp2
      go_ret
      rw [HE.out]
      exact ⟨rfl, hb⟩
end Go.Proofs.YtikjnbognjicdaaDoor.Enc
