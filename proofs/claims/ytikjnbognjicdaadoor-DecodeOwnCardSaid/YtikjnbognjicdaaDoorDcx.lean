/-
  Contract of the reader's kids: what a list, a map or an array is made of, given what the reader's told does. Condition: at most 2^40 bytes.
-/
import Derived.Test.YtikjnbognjicdaaDoorDcw
namespace Go.Proofs.YtikjnbognjicdaaDoor.Dec
set_option maxRecDepth 100000
open Go.RowKit Go.Proofs.YtikjnbognjicdaaDoor.Utf Go.Proofs.YtikjnbognjicdaaDoor.Val V

/-- Kids are made, in new memory (from block S on). -/
def GotL (S : Nat) (vs : List V) (e : Ending) (w' : World) : Prop := ∃ Ak nk ck, e = .returned (.slice Ak nk ck) ∧ Nw S w' vs Ak nk ck
/-- What kids answers; there are more parts. -/
def KidsR (ib : Nat) (R : Option (List V × Nat)) (w : World) (e : Ending) (w' : World) : Prop :=
  match R with
  | none => Fails 6 ib ib w e w'
  | some (vs, it') => GotL w.heap.size vs e w' ∧ it' ≤ 1024 ∧ w'.cell? ⟨ib, 0, none⟩ = some (.int .i64 (it' : Int)) ∧ (∀ j, w'.frozen? ⟨ib, j, none⟩ = false) ∧ Up ib ib w w'
/-- What is made, if nothing is left. -/
def endL (R : Option (List V × Nat × List Nat)) : Option (List V × Nat) := match R with | some (vs, it', []) => some (vs, it') | _ => none
/-- What stands ahead is put ahead. -/
def preL (done : List V) (R : Option (List V × Nat × List Nat)) : Option (List V × Nat × List Nat) := R.map fun p => (done ++ p.1, p.2.1, p.2.2)
theorem preL_nil (R : Option (List V × Nat × List Nat)) : preL [] R = R := by cases R <;> rfl
theorem loop_none {step : Nat → List Nat → Option (V × Nat × List Nat)} {m it : Nat} {l : List Nat} (h : step it l = none) (done : List V) : preL done (loopN step (m + 1) it l) = none := by
  rw [loopN, h]; rfl
theorem loop_some {step : Nat → List Nat → Option (V × Nat × List Nat)} {m it it' : Nat} {l r : List Nat} {v : V} (h : step it l = some (v, it', r)) (done : List V) : preL done (loopN step (m + 1) it l) = preL (done ++ [v]) (loopN step m it' r) := by
  rw [loopN, h]
  simp only
  cases loopN step m it' r with
  | none => rfl
  | some p => obtain ⟨a, b, c⟩ := p; simp [preL]
theorem loop_end {step : Nat → List Nat → Option (V × Nat × List Nat)} {it : Nat} {l : List Nat} (done : List V) : preL done (loopN step 0 it l) = some (done, it, l) := by simp [loopN, preL]
theorem data_len {c : Nat} {l d r : List Nat} (h : dataD c l = some (d, r)) : d.length + r.length ≤ l.length := by
  obtain ⟨p, e⟩ := data_parts h
  subst e
  simp only [List.length_append]; omega
theorem stepV_len {tl : Nat → List V → Nat → List Nat → Option (V × Nat)} {it it' : Nat} {l r : List Nat} {v : V} (h : stepV tl it l = some (v, it', r)) : r.length ≤ l.length := by
  unfold stepV at h
  cases hh : headD l with
  | error s => rw [hh] at h; cases h
  | ok p =>
    obtain ⟨ns, c, r1⟩ := p
    have h1 := (headN_lt _ _ _ _ _ hh).1
    rw [hh] at h
    simp only at h
    cases hd : dataD c r1 with
    | none => rw [hd] at h; cases h
    | some q =>
      obtain ⟨d, r2⟩ := q
      have h2 := data_len hd
      rw [hd] at h
      simp only at h
      cases ht : tl it (ns.take 16) c d with
      | none => rw [ht] at h; cases h
      | some q =>
        rw [ht] at h
        injection h with h
        injection h with _ h
        injection h with _ h
        subst h
        omega
theorem stepA_len {tl : Nat → List V → Nat → List Nat → Option (V × Nat)} {ns : List V} {c it it' : Nat} {l r : List Nat} {v : V} (h : stepA tl ns c it l = some (v, it', r)) : r.length ≤ l.length := by
  unfold stepA at h
  cases hd : dataD c l with
  | none => rw [hd] at h; cases h
  | some q =>
    obtain ⟨d, r2⟩ := q
    have h2 := data_len hd
    rw [hd] at h
    simp only at h
    cases ht : tl it ns c d with
    | none => rw [ht] at h; cases h
    | some q =>
      rw [ht] at h
      injection h with h
      injection h with _ h
      injection h with _ h
      subst h
      omega

/-- At the head of a round: done are made, in a row of the call's own (from block S on); left is L. -/
structure KS (rb ib B S : Nat) (w5 wr : World) (done : List V) (L : List Nat) (it M : Nat) (Ak : Option Addr) (j ck : Nat) (xs : List Value) : Prop where
  row : CS S wr Ak j ck done xs
  rdr : ∃ A n c, Rdr wr rb ib B A n c L 6 it
  few : it ≤ 1024
  up : Up rb ib w5 wr
  sz : S = w5.heap.size
  low : rb < S ∧ ib < S
  len : L.length ≤ M
/-- One more. -/
theorem KS.more {rb ib B S it it' M j ck : Nat} {w5 wr w2 w9 : World} {done : List V} {L r : List Nat} {Ak : Option Addr} {xs : List Value} (h : KS rb ib B S w5 wr done L it M Ak j ck xs)
    (hu : Up rb ib wr w2) (hit : it' ≤ 1024) (hR : ∃ A n c, Rdr w2 rb ib B A n c r 6 it') (hr : r.length ≤ L.length) {v : V} {Av : Option Addr} {lv cv : Nat} (hvk : v.kind < 256) (hvn : v.num < 18446744073709551616) (hnv : Nw wr.heap.size w2 v.kids Av lv cv)
    {g cap : Nat} (o : Obj) (hown : w9.ownsRow S 25 4 (.slice (some ⟨g, 0, none⟩) (j + 1) cap) (j + 1) (xs ++ [.int .u8 (v.kind : Int), .int .u64 (v.num : Int), .string v.text, .slice Av lv cv])) (hg : (w2.alloc o).grownBy w9 (Value.slice Ak j ck).ownBlock) (hat : (Value.slice Ak j ck).ownBlock = some g ∨ w2.heap.size ≤ g) :
    KS rb ib B S w5 w9 (done ++ [v]) r it' M (some ⟨g, 0, none⟩) (j + 1) cap (xs ++ [.int .u8 (v.kind : Int), .int .u64 (v.num : Int), .string v.text, .slice Av lv cv]) := by
  obtain ⟨vk, vn, vt, vks⟩ := v
  have hl := h.low
  have hsz := h.sz
  have h5 := h.up.size
  have h2 := hu.size
  have hrow := h.row.own.lt
  have hold : ∀ i, i < S → w9.heap[i]? = w2.heap[i]? := fun i hi => by
    rw [hg.block i (by simp; omega) (fun e => by have := hrow i e.symm; omega)]
    exact Below.heap_alloc _ _ _ (by omega)
  have hs9 := hg.size
  simp at hs9
  have hK : Val.Kids true w2 (fun i => S ≤ i ∧ i < w2.heap.size ∧ (Value.slice Ak j ck).ownBlock ≠ some i) vks Av lv cv := Val.Kids.mono hnv fun i hi => ⟨by omega, hi.2, fun e => by have := hrow i e; omega⟩
  refine ⟨(h.row.up hu hl.1 hl.2).push hvk hvn hK o rfl hown hg hat, ?_, hit, ?_, hsz, hl, Nat.le_trans hr h.len⟩
  · obtain ⟨A, n, c, hr⟩ := hR
    exact ⟨A, n, c, hr.keep (fun i hi => hold i (by have := hr.hr; rcases hi with rfl | rfl | hi <;> omega)) (by omega)⟩
  · exact ((h.up.trans hu).call ((Below.refl _ _).alloc (Nat.le_refl _) o)).grown hg (fun i e => by have := hrow i e; omega)

theorem Rdr.inner {w : World} {rb ib B n c sh it nd cd : Nat} {A Ad : Option Addr} {L d : List Nat} (h : Rdr w rb ib B A n c L sh it) (hr : Rd .u8 256 w B Ad nd d) (hc : nd ≤ cd) (hl : nd ≤ 1099511627776) :
    Rdr (w.alloc (.cells #[.slice Ad nd cd, .int .i64 6, .pointer (some ⟨ib, 0, none⟩)] 66)) w.heap.size ib B Ad nd cd d 6 it := by
  have hb : Below w.heap.size w (w.alloc (.cells #[.slice Ad nd cd, .int .i64 6, .pointer (some ⟨ib, 0, none⟩)] 66)) := (Below.refl _ _).alloc (Nat.le_refl _) _
  have hli := h.li
  have hnew := heap_alloc_new w (.cells #[.slice Ad nd cd, .int .i64 6, .pointer (some ⟨ib, 0, none⟩)] 66)
  have hz : ∀ (W : World) (b : Nat) (a : Array Value) (t : TypeId), W.heap[b]? = some (.cells a t (0, 0)) → ∀ j, W.frozen? ⟨b, j, none⟩ = false := fun W b a t h j => by simp [World.frozen?, h]
  exact ⟨by simp, by simp, by simp, (hb.cell (p := ⟨ib, 0, none⟩) hli).trans h.item, fun j => hz _ _ _ _ hnew j, fun j => (hb.frozen (p := ⟨ib, j, none⟩) hli).trans (h.fi j), hr.below (hb.mono h.low), hc, hl, h.low, h.hi, by omega, by simp, by simp; omega⟩

set_option maxHeartbeats 4000000 in
theorem kids_few {w : World} {rb ib B n c sh it : Nat} {A : Option Addr} {L : List Nat} (h : Rdr w rb ib B A n c L sh it) {code nd cd : Nat} {d : List Nat} {Ad : Option Addr}
    (hr : Rd .u8 256 w B Ad nd d) (hc : nd ≤ cd) (hl : nd ≤ 1099511627776) (hlt : d.length < sw code) :
    Calls Tryd.prog 102 #[.pointer (some ⟨rb, 0, none⟩), .int .u8 (code : Int), .slice Ad nd cd] w (Fails 6 ib ib w) := by
  have h1 := h.inner hr hc hl
  have hp := h.ptr
  obtain ⟨W1, hW1⟩ : ∃ W1, w.alloc (.cells #[.slice Ad nd cd, .int .i64 6, .pointer (some ⟨ib, 0, none⟩)] 66) = W1 := ⟨_, rfl⟩
  have hB1 : Below w.heap.size w W1 := by rw [← hW1]; exact (Below.refl _ _).alloc (Nat.le_refl _) _
  rw [hW1] at h1
  go_enter Tryd.func102, Tryd.ntmps102
  go_wp2_with (first
    | (go_at_call 87; refine (size_any code _).mono ?_; rintro e W1 ⟨rfl, rfl⟩)
    | (go_at_call 88; refine (number_no h1 (sw code) hlt).mono ?_; rintro e w2 ⟨rfl, hu2⟩))
  exact ⟨rfl, rfl, Up.inner (Up.of hB1) hu2 (Nat.le_refl _)⟩
set_option maxHeartbeats 4000000 in
theorem kids_many {w : World} {rb ib B n c sh it : Nat} {A : Option Addr} {L : List Nat} (h : Rdr w rb ib B A n c L sh it) {code nd cd : Nat} {d : List Nat} {Ad : Option Addr}
    (hr : Rd .u8 256 w B Ad nd d) (hc : nd ≤ cd) (hl : nd ≤ 1099511627776) (hle : sw code ≤ d.length) (hlt : 1024 < tn (d.take (sw code))) :
    Calls Tryd.prog 102 #[.pointer (some ⟨rb, 0, none⟩), .int .u8 (code : Int), .slice Ad nd cd] w (Fails 6 ib ib w) := by
  have h1 := h.inner hr hc hl
  have hp := h.ptr
  obtain ⟨cnt, hcnt⟩ : ∃ cnt, tn (d.take (sw code)) = cnt := ⟨_, rfl⟩
  have hd : (cnt : Int) > 1024 := by omega
  have HC := Lib.hid hcnt
  obtain ⟨W1, hW1⟩ : ∃ W1, w.alloc (.cells #[.slice Ad nd cd, .int .i64 6, .pointer (some ⟨ib, 0, none⟩)] 66) = W1 := ⟨_, rfl⟩
  have hB1 : Below w.heap.size w W1 := by rw [← hW1]; exact (Below.refl _ _).alloc (Nat.le_refl _) _
  rw [hW1] at h1
  clear hcnt hlt
  go_enter Tryd.func102, Tryd.ntmps102
  go_wp2_with (first
    | (go_at_call 87; refine (size_any code _).mono ?_; rintro e W1 ⟨rfl, rfl⟩)
    | (go_at_call 88; refine (number_ok h1 (sw code) hle).mono ?_; rintro e w2 ⟨A2, n2, c2, rfl, hR2, hu2⟩; rw [HC.out]))
  exact ⟨rfl, rfl, Up.inner (Up.of hB1) hu2 (Nat.le_refl _)⟩
set_option maxHeartbeats 4000000 in
theorem kids_flat {F : Nat} (hT : Told F) {w : World} {rb ib B n c sh it : Nat} {A : Option Addr} {L : List Nat} (h : Rdr w rb ib B A n c L sh it) (hit : it ≤ 1024) {code nd cd cnt : Nat} {d L0 : List Nat} {Ad : Option Addr}
    (hr : Rd .u8 256 w B Ad nd d) (hc : nd ≤ cd) (hl : nd ≤ 1099511627776) (hle : sw code ≤ d.length) (hcnt : tn (d.take (sw code)) = cnt) (hL0 : d.drop (sw code) = L0) (hlt : cnt ≤ 1024) (hk : kof code ≠ 24) (hF : d.length ≤ F) {R : Option (List V × Nat × List Nat)} (hR : loopN (stepV (toldN F)) cnt it L0 = R) :
    Calls Tryd.prog 102 #[.pointer (some ⟨rb, 0, none⟩), .int .u8 (code : Int), .slice Ad nd cd] w (KidsR ib (endL R) w) := by
  have h1 := h.inner hr hc hl
  have hp := h.ptr
  have hdc : ¬ (cnt : Int) > 1024 := by omega
  have hdk : ((kof code : Int) == 24) = false := by simp; omega
  have hli := h.li
  have HC := Lib.hid hcnt
  have HR := Lib.hid hR
  obtain ⟨M, hM⟩ : ∃ M, M = L0.length := ⟨_, rfl⟩
  have hMF : M ≤ F := by have := congrArg List.length hL0; rw [List.length_drop] at this; omega
  have HL0 := Lib.hid hL0
  obtain ⟨W1, hW1⟩ : ∃ W1, w.alloc (.cells #[.slice Ad nd cd, .int .i64 6, .pointer (some ⟨ib, 0, none⟩)] 66) = W1 := ⟨_, rfl⟩
  have hB1 : Below w.heap.size w W1 := by rw [← hW1]; exact (Below.refl _ _).alloc (Nat.le_refl _) _
  have hs1 : W1.heap.size = w.heap.size + 1 := by rw [← hW1]; simp
  rw [hW1] at h1
  have HS1 := Lib.hid hs1
  have HMM := Lib.hid hM
  clear hcnt hk hR hL0 hs1 hM
  go_enter Tryd.func102, Tryd.ntmps102
  go_wp2_with (first
    | (go_at_call 87; refine (size_any code _).mono ?_; rintro e W1 ⟨rfl, rfl⟩)
    | (go_at_call 88; refine (number_ok h1 (sw code) hle).mono ?_; rintro e w2 ⟨A2, n2, c2, rfl, hR2, hu2⟩; rw [HC.out])
    | (go_at_call 85; refine (kind_any code _).mono ?_; rintro e w2 ⟨rfl, rfl⟩))
  rw [HL0.out] at hR2
  obtain ⟨W5, hW5⟩ : ∃ W5, w2 = W5 := ⟨_, rfl⟩
  rw [hW5]
  rw [hW5] at hR2 hu2
  clear hW5
  obtain ⟨S, hS5⟩ : ∃ S, S = W5.heap.size := ⟨_, rfl⟩
  have hs5 := hu2.size
  have hs1 := HS1.out
  have hK0 : KS w.heap.size ib B S W5 W5 [] L0 it M none 0 0 [] := ⟨CS.nil _ _, ⟨_, _, _, hR2⟩, hit, Up.refl _ _ _, hS5, by omega, Nat.le_of_eq HMM.out.symm⟩
  have hUP : ∀ w', Up w.heap.size ib W5 w' → Up ib ib w w' := fun w' hu => Up.inner (Up.of hB1) (hu2.trans hu) (Nat.le_refl _)
  have hSS : w.heap.size ≤ S := by omega
  clear hs1 hs5
  go_loopg [11, 31] cnt (fun g s11 s31 wr => ∃ j done it' L' Ak ck xs, j ≤ cnt ∧ g = cnt - j ∧ s31 = .int .u64 j ∧ s11 = .slice Ak j ck ∧ KS w.heap.size ib B S W5 wr done L' it' M Ak j ck xs ∧ R = preL done (loopN (stepV (toldN F)) (cnt - j) it' L'))
  case atStart => exact ⟨0, [], it, L0, none, 0, [], Nat.zero_le _, rfl, rfl, rfl, hK0, by rw [preL_nil]; exact HR.out.symm⟩
  case round =>
    obtain ⟨j, done, it', L', Ak, ck, xs, hj, hgk, rfl, rfl, hS, hRL⟩ := hrel
    obtain ⟨A1, n1, c1, hr1⟩ := hS.rdr
    have hfew := hS.few
    have hlen' := hS.len
    have hlow' := hS.low
    have hsz' := hS.sz
    have hup' := hS.up
    by_cases hlt : j < cnt
    · have hd : (j : Int) < (cnt : Int) := by omega
      obtain ⟨m, hm⟩ : ∃ m, cnt - j = m + 1 := ⟨cnt - j - 1, by omega⟩
      rw [hm] at hRL
      have hgk' : m < gk := by omega
      have hm' : cnt - (j + 1) = m := by omega
      have HM := Lib.hid hm'
      clear hm hm'
      have hA := kid0_any hT hr1 hfew (Nat.le_trans hlen' hMF)
      cases hst : stepV (toldN F) it' L' with
      | none =>
        rw [loop_none hst] at hRL
        have hRe : R = none := hRL
        have HRE := Lib.hid hRe
        rw [hst] at hA
        clear hRL hRe hgk' hgk
        go_wp2_with ((go_at_call 36; refine hA.mono ?_; rintro e w4 ⟨rfl, hu4⟩))
        rw [HRE.out]
        exact ⟨rfl, rfl, hUP _ (hup'.trans hu4)⟩
      | some q =>
        obtain ⟨v, it2, r⟩ := q
        rw [loop_some hst] at hRL
        rw [hst] at hA
        have hrl := stepV_len hst
        have HRL := Lib.hid hRL
        have HGK := Lib.hid hgk'
        have hncap := own_cap hS.row.own
        obtain ⟨i0, hi, hz0, hz1, hz2⟩ := info_parts infoV
        have HHS := Lib.hid hS
        have HLT := Lib.hid hlt
        clear hRL hgk' hgk hS hlt
        go_wp2_with (first
          | (go_at_call 36; refine hA.mono ?_; rintro e w2 ⟨⟨Av, lv, cv, rfl, hvk, hvn, hnv⟩, hit2, hR2, hu2⟩; have hs2 := hu2.size; have hrow2 := HHS.out.row.up hu2 hlow'.1 hlow'.2)
          | (at_builtin; refine wpList_append_lies _ rfl _ _ 23 rfl S 25 i0 _ 4 56 Tryd.underlying23 hi hz0 hz1 hz2 rfl (by omega) _ _ _ rfl (hrow2.own.alloc _) ⟨w2.heap.size, 0, none⟩ 1 1 [.int .u8 (v.kind : Int), .int .u64 (v.num : Int), .string v.text, .slice Av lv cv] rfl rfl (news4 _ _ _ _ _ _ _ (by simp)) (fun u hu => (by simp at hu; rcases hu with rfl | rfl | rfl | rfl <;> rfl)) (by omega) (by unfold maxLen; omega) (by omega) (by simp; have := hup'.size; omega) _ rfl ?_; intro g9 cap9 w9 hown9 hgrow9 hat9 _))
        go_roundg m
        case measure => exact HGK.out
        case rel => exact ⟨j + 1, done ++ [v], it2, r, _, _, _, HLT.out, HM.out.symm, by go_num, rfl, HHS.out.more hu2 hit2 hR2 hrl hvk hvn hnv _ hown9 hgrow9 (hat9.imp id fun h => by simp at h; omega), by rw [HM.out]; exact HRL.out⟩
    · have hd : ¬ (j : Int) < (cnt : Int) := by omega
      have hm : cnt - j = 0 := by omega
      have hjc : j = cnt := by omega
      rw [hm, loop_end] at hRL
      have x9 := hr1.left
      have hn1 := hr1.rd.len
      clear hm hgk hlt
      cases L' with
      | nil =>
        have h0 : n1 = 0 := hn1.symm
        subst h0
        have HRL := Lib.hid hRL
        clear hRL hjc hn1
        go_wp2
        go_ret
        rw [HRL.out]
        exact ⟨⟨Ak, j, ck, rfl, hS.row.nw.less hSS⟩, hfew, hr1.item, hr1.fi, hUP _ hup'⟩
      | cons y l =>
        have hp : (n1 : Int) > 0 := by simp only [List.length_cons] at hn1; omega
        have HRL := Lib.hid hRL
        clear hRL hjc hn1
        go_wp2
        rw [HRL.out]
        exact ⟨rfl, rfl, hUP _ hup'⟩
set_option maxHeartbeats 4000000 in
theorem kids_head {w : World} {rb ib B n c sh it : Nat} {A : Option Addr} {L : List Nat} (h : Rdr w rb ib B A n c L sh it) {code nd cd cnt : Nat} {d L1 : List Nat} {Ad : Option Addr} {s : Bool}
    (hr : Rd .u8 256 w B Ad nd d) (hc : nd ≤ cd) (hl : nd ≤ 1099511627776) (hle : sw code ≤ d.length) (hcnt : tn (d.take (sw code)) = cnt) (hL1 : d.drop (sw code) = L1) (hlt : cnt ≤ 1024) (hk : kof code = 24) (hH : headD L1 = .error s) :
    Calls Tryd.prog 102 #[.pointer (some ⟨rb, 0, none⟩), .int .u8 (code : Int), .slice Ad nd cd] w (Fails 6 ib ib w) := by
  have h1 := h.inner hr hc hl
  have hp := h.ptr
  have hdc : ¬ (cnt : Int) > 1024 := by omega
  have HK := Lib.hid hk
  have HC := Lib.hid hcnt
  have HL1 := Lib.hid hL1
  obtain ⟨W1, hW1⟩ : ∃ W1, w.alloc (.cells #[.slice Ad nd cd, .int .i64 6, .pointer (some ⟨ib, 0, none⟩)] 66) = W1 := ⟨_, rfl⟩
  have hB1 : Below w.heap.size w W1 := by rw [← hW1]; exact (Below.refl _ _).alloc (Nat.le_refl _) _
  rw [hW1] at h1
  clear hcnt hk hL1
  go_enter Tryd.func102, Tryd.ntmps102
  go_wp2_with (first
    | (go_at_call 87; refine (size_any code _).mono ?_; rintro e W1 ⟨rfl, rfl⟩)
    | (go_at_call 88; refine (number_ok h1 (sw code) hle).mono ?_; rintro e w2 ⟨A2, n2, c2, rfl, hR2, hu2⟩; rw [HC.out]; rw [HL1.out] at hR2; have hA := head_any hR2; rw [hH] at hA)
    | (go_at_call 85; refine (kind_any code _).mono ?_; rintro e w2 ⟨rfl, rfl⟩; rw [HK.out])
    | (go_at_call 62; refine hA.mono ?_; rintro e w3 ⟨rfl, hu3⟩))
  rw [sel_six]
  exact ⟨rfl, rfl, Up.inner (Up.of hB1) (hu2.trans hu3) (Nat.le_refl _)⟩
set_option maxHeartbeats 4000000 in
theorem kids_array {F : Nat} (hT : Told F) {w : World} {rb ib B n c sh it : Nat} {A : Option Addr} {L : List Nat} (h : Rdr w rb ib B A n c L sh it) (hit : it ≤ 1024) {code nd cd cnt : Nat} {d L1 L0 : List Nat} {Ad : Option Addr} {ns ms : List V} {k : Nat}
    (hr : Rd .u8 256 w B Ad nd d) (hc : nd ≤ cd) (hl : nd ≤ 1099511627776) (hle : sw code ≤ d.length) (hcnt : tn (d.take (sw code)) = cnt) (hL1 : d.drop (sw code) = L1) (hlt : cnt ≤ 1024) (hk : kof code = 24) (hH : headD L1 = .ok (ns, k, L0)) (hms : ns.take 16 = ms) (hF : d.length ≤ F) {R : Option (List V × Nat × List Nat)} (hR : loopN (stepA (toldN F) ms k) cnt it L0 = R) :
    Calls Tryd.prog 102 #[.pointer (some ⟨rb, 0, none⟩), .int .u8 (code : Int), .slice Ad nd cd] w (KidsR ib (endL R) w) := by
  have h1 := h.inner hr hc hl
  have hp := h.ptr
  have hdc : ¬ (cnt : Int) > 1024 := by omega
  have hli := h.li
  have HK := Lib.hid hk
  have HC := Lib.hid hcnt
  have HR := Lib.hid hR
  have HMS := Lib.hid hms
  obtain ⟨M, hM⟩ : ∃ M, M = L0.length := ⟨_, rfl⟩
  obtain ⟨hfl, hkb, hrb, hrl⟩ := head_fl _ _ _ _ _ hH fun x hx => hr.lim x (List.mem_of_mem_drop (hL1 ▸ hx))
  have hMF : M < F := by have := congrArg List.length hL1; rw [List.length_drop] at this; omega
  have hfl16 : ∀ v ∈ ms, Fl v := fun v hv => hfl v (List.mem_of_mem_take (hms ▸ hv))
  have hln16 : ms.length ≤ 16 := by rw [← hms, List.length_take]; omega
  have HL1 := Lib.hid hL1
  obtain ⟨W1, hW1⟩ : ∃ W1, w.alloc (.cells #[.slice Ad nd cd, .int .i64 6, .pointer (some ⟨ib, 0, none⟩)] 66) = W1 := ⟨_, rfl⟩
  have hB1 : Below w.heap.size w W1 := by rw [← hW1]; exact (Below.refl _ _).alloc (Nat.le_refl _) _
  have hs1 : W1.heap.size = w.heap.size + 1 := by rw [← hW1]; simp
  rw [hW1] at h1
  have HS1 := Lib.hid hs1
  have HMM := Lib.hid hM
  clear hcnt hk hR hL1 hs1 hM hms hfl
  go_enter Tryd.func102, Tryd.ntmps102
  go_wp2_with (first
    | (go_at_call 87; refine (size_any code _).mono ?_; rintro e W1 ⟨rfl, rfl⟩)
    | (go_at_call 88; refine (number_ok h1 (sw code) hle).mono ?_; rintro e w2 ⟨A2, n2, c2, rfl, hR2, hu2⟩; rw [HC.out]; rw [HL1.out] at hR2; have hA := head_any hR2; rw [hH] at hA)
    | (go_at_call 85; refine (kind_any code _).mono ?_; rintro e w2 ⟨rfl, rfl⟩; rw [HK.out])
    | (go_at_call 62; refine hA.mono ?_; rintro e w3 ⟨An, nn, cn, A3, n3, c3, rfl, hnw3, hR3, hu3⟩; rw [HMS.out] at hnw3))
  obtain ⟨W5, hW5⟩ : ∃ W5, w3.alloc (.cells #[.slice An nn cn, .int .u8 (k : Int)] 92) = W5 := ⟨_, rfl⟩
  have hB5 : Below w3.heap.size w3 W5 := by rw [← hW5]; exact (Below.refl _ _).alloc (Nat.le_refl _) _
  have hbx5 : HBox W5 w3.heap.size (.slice An nn cn) (.int .u8 (k : Int)) := by rw [← hW5]; exact HBox.new _ _ _
  have hs5 : W5.heap.size = w3.heap.size + 1 := by rw [← hW5]; simp
  rw [hW5]
  clear hW5
  obtain ⟨S, hS5⟩ : ∃ S, S = W5.heap.size := ⟨_, rfl⟩
  obtain ⟨G, hG⟩ : ∃ G, w3.heap.size = G := ⟨_, rfl⟩
  rw [hG] at hbx5 hs5
  rw [hG]
  have hs2 := hu2.size
  have hs3 := hu3.size
  have hs1 := HS1.out
  have hnm5 : Nms W5 w.heap.size ib ms An nn cn := Nms.of hnw3 (by omega) (by omega) (fun i hi _ _ => hB5.block i hi) hB5.size hfl16 hln16
  have hK0 : KS w.heap.size ib B S W5 W5 [] L0 it M none 0 0 [] := ⟨CS.nil _ _, ⟨_, _, _, hR3.call hB5⟩, hit, Up.refl _ _ _, hS5, by omega, Nat.le_of_eq HMM.out.symm⟩
  have hUP : ∀ w', Up w.heap.size ib W5 w' → Up ib ib w w' := fun w' hu => Up.inner (Up.of hB1) (((hu2.trans hu3).call hB5).trans hu) (Nat.le_refl _)
  have hSS : w.heap.size ≤ S := by omega
  have hGs : G ≠ w.heap.size ∧ G ≠ ib ∧ G < S := by omega
  have hNM : ∀ {w'}, Up w.heap.size ib W5 w' → Nms w' w.heap.size ib ms An nn cn := fun {w'} hu => ⟨(hnm5.kids.keep fun i hi => hu.block i hi.1 hi.2.1 hi.2.2).mono fun i hi => ⟨Nat.lt_of_lt_of_le hi.1 hu.size, hi.2⟩, hfl16, hnm5.few⟩
  clear hs1 hs2 hs3 hG hnm5
  go_loopg [11, 31] cnt (fun g s11 s31 wr => ∃ j done it' L' Ak ck xs, j ≤ cnt ∧ g = cnt - j ∧ s31 = .int .u64 j ∧ s11 = .slice Ak j ck ∧ KS w.heap.size ib B S W5 wr done L' it' M Ak j ck xs ∧ R = preL done (loopN (stepA (toldN F) ms k) (cnt - j) it' L'))
  case atStart => exact ⟨0, [], it, L0, none, 0, [], Nat.zero_le _, rfl, rfl, rfl, hK0, by rw [preL_nil]; exact HR.out.symm⟩
  case round =>
    obtain ⟨j, done, it', L', Ak, ck, xs, hj, hgk, rfl, rfl, hS, hRL⟩ := hrel
    obtain ⟨A1, n1, c1, hr1⟩ := hS.rdr
    have hfew := hS.few
    have hlen' := hS.len
    have hlow' := hS.low
    have hsz' := hS.sz
    have hup' := hS.up
    by_cases hlt : j < cnt
    · have hd : (j : Int) < (cnt : Int) := by omega
      obtain ⟨m, hm⟩ : ∃ m, cnt - j = m + 1 := ⟨cnt - j - 1, by omega⟩
      rw [hm] at hRL
      have hgk' : m < gk := by omega
      have hm' : cnt - (j + 1) = m := by omega
      have HM := Lib.hid hm'
      clear hm hm'
      have hA := kid1_any hT hr1 hfew (Nat.lt_of_le_of_lt hlen' hMF) (hbx5.keep (hup'.block _ hbx5.lt hGs.1 hGs.2.1)) hGs.1 hGs.2.1 (hNM hup') hkb
      cases hst : stepA (toldN F) ms k it' L' with
      | none =>
        rw [loop_none hst] at hRL
        have hRe : R = none := hRL
        have HRE := Lib.hid hRe
        rw [hst] at hA
        clear hRL hRe hgk' hgk
        go_wp2_with ((go_at_call 112; refine hA.mono ?_; rintro e w4 ⟨rfl, hu4⟩))
        rw [HRE.out]
        exact ⟨rfl, rfl, hUP _ (hup'.trans hu4)⟩
      | some q =>
        obtain ⟨v, it2, r⟩ := q
        rw [loop_some hst] at hRL
        rw [hst] at hA
        have hrl := stepA_len hst
        have HRL := Lib.hid hRL
        have HGK := Lib.hid hgk'
        have hncap := own_cap hS.row.own
        obtain ⟨i0, hi, hz0, hz1, hz2⟩ := info_parts infoV
        have HHS := Lib.hid hS
        have HLT := Lib.hid hlt
        clear hRL hgk' hgk hS hlt
        go_wp2_with (first
          | (go_at_call 112; refine hA.mono ?_; rintro e w2 ⟨⟨Av, lv, cv, rfl, hvk, hvn, hnv⟩, hit2, hR2, hu2⟩; have hs2 := hu2.size; have hrow2 := HHS.out.row.up hu2 hlow'.1 hlow'.2)
          | (at_builtin; refine wpList_append_lies _ rfl _ _ 23 rfl S 25 i0 _ 4 56 Tryd.underlying23 hi hz0 hz1 hz2 rfl (by omega) _ _ _ rfl (hrow2.own.alloc _) ⟨w2.heap.size, 0, none⟩ 1 1 [.int .u8 (v.kind : Int), .int .u64 (v.num : Int), .string v.text, .slice Av lv cv] rfl rfl (news4 _ _ _ _ _ _ _ (by simp)) (fun u hu => (by simp at hu; rcases hu with rfl | rfl | rfl | rfl <;> rfl)) (by omega) (by unfold maxLen; omega) (by omega) (by simp; have := hup'.size; omega) _ rfl ?_; intro g9 cap9 w9 hown9 hgrow9 hat9 _))
        go_roundg m
        case measure => exact HGK.out
        case rel => exact ⟨j + 1, done ++ [v], it2, r, _, _, _, HLT.out, HM.out.symm, by go_num, rfl, HHS.out.more hu2 hit2 hR2 hrl hvk hvn hnv _ hown9 hgrow9 (hat9.imp id fun h => by simp at h; omega), by rw [HM.out]; exact HRL.out⟩
    · have hd : ¬ (j : Int) < (cnt : Int) := by omega
      have hm : cnt - j = 0 := by omega
      have hjc : j = cnt := by omega
      rw [hm, loop_end] at hRL
      have x9 := hr1.left
      have hn1 := hr1.rd.len
      clear hm hgk hlt
      cases L' with
      | nil =>
        have h0 : n1 = 0 := hn1.symm
        subst h0
        have HRL := Lib.hid hRL
        clear hRL hjc hn1
        go_wp2
        go_ret
        rw [HRL.out]
        exact ⟨⟨Ak, j, ck, rfl, hS.row.nw.less hSS⟩, hfew, hr1.item, hr1.fi, hUP _ hup'⟩
      | cons y l =>
        have hp : (n1 : Int) > 0 := by simp only [List.length_cons] at hn1; omega
        have HRL := Lib.hid hRL
        clear hRL hjc hn1
        go_wp2
        rw [HRL.out]
        exact ⟨rfl, rfl, hUP _ hup'⟩

theorem kids_any {F : Nat} (hT : Told F) {w : World} {rb ib B n c sh it : Nat} {A : Option Addr} {L : List Nat} (h : Rdr w rb ib B A n c L sh it) (hit : it ≤ 1024) {code nd cd : Nat} {d : List Nat} {Ad : Option Addr}
    (hr : Rd .u8 256 w B Ad nd d) (hc : nd ≤ cd) (hl : nd ≤ 1099511627776) (hF : d.length ≤ F) :
    Calls Tryd.prog 102 #[.pointer (some ⟨rb, 0, none⟩), .int .u8 (code : Int), .slice Ad nd cd] w (KidsR ib (kidsD (toldN F) code it d) w) := by
  unfold kidsD
  by_cases h0 : d.length < sw code
  · rw [if_pos h0]; exact kids_few h hr hc hl h0
  rw [if_neg h0]
  by_cases h1 : 1024 < tn (d.take (sw code))
  · rw [if_pos h1]; exact kids_many h hr hc hl (by omega) h1
  rw [if_neg h1]
  by_cases hk : kof code = 24
  · rw [if_pos hk]
    cases hH : headD (d.drop (sw code)) with
    | error s => exact kids_head h hr hc hl (by omega) rfl rfl (by omega) hk hH
    | ok p =>
      obtain ⟨ns, k, L0⟩ := p
      exact kids_array hT h hit hr hc hl (by omega) rfl rfl (by omega) hk hH rfl hF rfl
  · rw [if_neg hk]
    exact kids_flat hT h hit hr hc hl (by omega) rfl rfl (by omega) hk hF rfl
end Go.Proofs.YtikjnbognjicdaaDoor.Dec
