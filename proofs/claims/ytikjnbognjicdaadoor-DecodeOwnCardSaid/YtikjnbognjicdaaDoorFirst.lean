/-
  Contract of utf.first: the character with which bytes begin, and how many they are; 0 and 0, if they begin with none. Memory that was there stays.
-/
import Derived.Test.YtikjnbognjicdaaDoorLead
import Derived.ScopeJumps
import Derived.WalkMore
namespace Go.Proofs.YtikjnbognjicdaaDoor.Utf
open Go.RowKit

theorem fc63 : ∀ x : Fin 256, ((x.val &&& (255 - 63)) == 128) = cont x.val := by decide +kernel
theorem fm63 : ∀ x : Fin 256, cont x.val = true → (x.val &&& 63) = x.val - 128 := by decide +kernel
theorem ne63 (x : Nat) (h : x < 256) : (bits .andNot .u8 (x : Int) 63 != 128) = !cont x := by
  have : (bits .andNot .u8 (x : Int) 63 == 128) = cont x := by
    rw [show (63 : Int) = ((63 : Nat) : Int) from rfl, an x 63 h (by omega), show (128 : Int) = ((128 : Nat) : Int) from rfl, eqb]; exact fc63 ⟨x, h⟩
  rw [bne, this]
theorem and63 (x : Nat) (h : x < 256) (hc : cont x = true) : bits .and .u8 (x : Int) 63 = ((x - 128 : Nat) : Int) := by
  rw [show (63 : Int) = ((63 : Nat) : Int) from rfl, aw x 63 h (by omega)]; exact congrArg Nat.cast (fm63 ⟨x, h⟩ hc)
theorem or6 (c y : Nat) (hc : c < 67108864) (hy : y < 64) : bits .or .u32 ((c : Int) * 64) (y : Int) = ((c * 64 + y : Nat) : Int) := by
  have e : (c : Int) * 64 = ((c * 64 : Nat) : Int) := by simp
  rw [e, u32_or_nat _ _ (by omega) (by omega), nat_join 6 (c * 64) y (by omega) hy]
theorem cont_lt {x : Nat} (h : cont x = true) : 128 ≤ x ∧ x < 192 := by simpa [cont] using h

/-- What first answers. -/
def fv (l : List Nat) : Value := match dec l with
  | none => .tuple #[.int .u32 0, .int .i64 0]
  | some (c, m) => .tuple #[.int .u32 (c : Nat), .int .i64 (m : Nat)]

theorem fv_none {l : List Nat} (h : dec l = none) : fv l = .tuple #[.int .u32 0, .int .i64 0] := by simp [fv, h]
theorem fv_some {l : List Nat} {c m : Nat} (h : dec l = some (c, m)) : fv l = .tuple #[.int .u32 (c : Nat), .int .i64 (m : Nat)] := by simp [fv, h]

theorem dec_lead {o : Nat} {r : List Nat} (h : ld o = none) : dec (o :: r) = none := by simp [dec, h]
theorem dec_gon_none {o n c : Nat} {r : List Nat} (h : ld o = some (n, c)) (hg : gon n c r = none) : dec (o :: r) = none := by
  simp only [dec, h, hg]
theorem dec_gon_some {o n c d : Nat} {r : List Nat} (h : ld o = some (n, c)) (hg : gon n c r = some d) : dec (o :: r) = if fits n d then some (d, n + 1) else none := by
  simp only [dec, h, hg]
theorem ld_bound {o n c : Nat} (h : ld o = some (n, c)) (ho : o < 256) : n ≤ 3 ∧ c < 128 ∧ (n = 0 ∨ c < 32) := by
  unfold ld at h
  split at h
  · cases h; omega
  split at h
  · cases h
  split at h
  · cases h; omega
  split at h
  · cases h; omega
  split at h
  · cases h; omega
  · cases h

theorem gon_short : ∀ (n c : Nat) (r : List Nat), r.length < n → gon n c r = none
  | 0, _, _, h => by omega
  | n + 1, c, [], _ => rfl
  | n + 1, c, x :: r, h => by
    unfold gon
    split
    · exact gon_short n _ r (by simp at h; omega)
    · rfl

theorem gon_step {n c x : Nat} {r : List Nat} (h : cont x = true) : gon (n + 1) c (x :: r) = gon n (c * 64 + (x - 128)) r := by simp [gon, h]
theorem gon_stop {n c x : Nat} {r : List Nat} (h : cont x = false) : gon (n + 1) c (x :: r) = none := by simp [gon, h]
theorem drop_at {l : List Nat} {k x : Nat} (h : l[k]? = some x) : l.drop k = x :: l.drop (k + 1) := by
  obtain ⟨hk, rfl⟩ := List.getElem?_eq_some_iff.1 h
  exact List.drop_eq_getElem_cons hk

/-- Jumping back: what holds at the label. -/
def Jmp (w : World) (b o n c x : Nat) (l : List Nat) (a' : Act) (w' : World) : Prop :=
  ∃ m c0 j c1 : Nat, ld x = some (m, c0) ∧ m < n ∧ j ≤ m ∧ (m = 0 ∨ c1 < 32 * 64 ^ j) ∧ c1 < 8388608 ∧ gon m c0 (l.drop 1) = gon (m - j) c1 (l.drop (j + 1)) ∧ Rd .u8 256 w' w.heap.size (some ⟨b, o, none⟩) n l ∧ Tab w' ∧ Below w.heap.size w w' ∧
    ∃ u1 u2 u3 u6 u8 u9 u10 u11 u12 u13 u14 u15 u16 u17 u18 u19 u20 u21 u22 u23 u24 u25 u26 u27 u28 u29 u30 u31 u32 u33 u34 u35 u36 u37 u38 u39 u40 u41 u42 u43 u44 u45 u46 u47 u48 u49 u50 u51 u52 u53 u54 u55 u56 : Value, a' = { tmps := #[.slice (some ⟨b, o, none⟩) n c, u1, u2, u3, .int .i64 (m : Nat), .int .u32 (c1 : Nat), u6, .int .i64 ((j : Int) + 1), u8, u9, u10, u11, u12, u13, u14, u15, u16, u17, u18, u19, u20, u21, u22, u23, u24, u25, u26, u27, u28, u29, u30, u31, u32, u33, u34, u35, u36, u37, u38, u39, u40, u41, u42, u43, u44, u45, u46, u47, u48, u49, u50, u51, u52, u53, u54, u55, u56], defers := [] }
def slotJ (a' : Act) : Nat := 5 - (intOf (a'.tmps.getD 7 undef)).toNat

theorem wp_scope_to {P : Program} {a : Act} {w : World} {Q : Exit → Act → World → Prop} {c rest : Code} (l : Nat) (J : Act → World → Prop) (μ : Act → World → Nat) (hf : findLabel c l = some (Code.skip.seq rest))
    (pass : ∀ a w, J a w → rest.wp P (Exit.jump l (fun a' w' => J a' w' ∧ μ a' w' < μ a w) Q) a w)
    (first : (∀ a w, J a w → rest.wp P (Exit.jump l J Q) a w) → c.wp P (Exit.jump l J Q) a w) : (Code.scope c).wp P Q a w :=
  wp_scope_jumps l J μ hf (first fun a w h => wp_mono (pass a w h) fun e a' w' hq => by
    cases e with
    | goto l' => exact ⟨hq.1, hq.2.1⟩
    | _ => exact hq) fun a w h => wp_seq (wp_skip (pass a w h))
theorem jump_ret {l : Nat} {J : Act → World → Prop} {Q : Exit → Act → World → Prop} {a : Act} {w : World} : Exit.jump l J Q .ret a w = Q .ret a w := rfl

theorem step_bound {m j c1 y : Nat} (hm : m ≤ 3) (hj : j < m) (h : m = 0 ∨ c1 < 32 * 64 ^ j) (hy : y < 64) : c1 < 131072 ∧ (m = 0 ∨ c1 * 64 + y < 32 * 64 ^ (j + 1)) ∧ c1 * 64 + y < 8388608 := by
  have h' : c1 < 32 * 64 ^ j := by omega
  have : j = 0 ∨ j = 1 ∨ j = 2 := by omega
  rcases this with rfl | rfl | rfl <;> simp at h' ⊢ <;> omega

set_option maxRecDepth 1000000 in
theorem first_x (b o n c : Nat) (l : List Nat) (w : World) (ht : Tab w) (hr : Rd .u8 256 w w.heap.size (some ⟨b, o, none⟩) n l) (hn : 0 < n) (hn2 : n ≤ 4611686018427387904) : Calls Tryd.prog 116 #[.slice (some ⟨b, o, none⟩) n c] w fun e w' => e = .returned (fv l) ∧ Below w.heap.size w w' := by
  obtain ⟨b', o', x, e, hb, hx, hx2, hc⟩ := hr.at_ hn
  injection e with e
  injection e with e1 e2
  subst e1
  subst e2
  have hl : l = x :: l.drop 1 := by simpa using drop_at hx
  have HL := Lib.hid hl
  have hlen := hr.len
  clear hx
  rw [Nat.add_zero] at hc
  go_enter Tryd.func116, Tryd.ntmps116
  go_wp2
  refine wp_scope_to 0 (Jmp w b o n c x l) (fun a' _ => slotJ a') rfl ?_ ?_
  · rintro a' w' ⟨m, c0, j, c1, hld, hmn, hj, hcb, hc23, hg, hr', ht', hb', u1, u2, u3, u6, u8, u9, u10, u11, u12, u13, u14, u15, u16, u17, u18, u19, u20, u21, u22, u23, u24, u25, u26, u27, u28, u29, u30, u31, u32, u33, u34, u35, u36, u37, u38, u39, u40, u41, u42, u43, u44, u45, u46, u47, u48, u49, u50, u51, u52, u53, u54, u55, u56, rfl⟩
    clear hc
    have hm3 := ld_bound hld hx2
    by_cases hjm : j < m
    · obtain ⟨b', o', y, e, hby, hy, hy2, hcy⟩ := hr'.at_ (k := j + 1) (by omega)
      injection e with e
      injection e with e1 e2
      subst e1
      subst e2
      have hne := ne63 y hy2
      have hD := drop_at hy
      have hmj : m - j = (m - j - 1) + 1 := by omega
      rw [hD, hmj] at hg
      by_cases hcont : cont y = true
      · rw [hcont] at hne
        have hand := and63 y hy2 hcont
        rw [gon_step hcont] at hg
        obtain ⟨z, hz⟩ : ∃ z, y - 128 = z := ⟨_, rfl⟩
        have hz64 : z < 64 := by have := cont_lt hcont; omega
        rw [hz] at hand hg
        obtain ⟨hc17, hc1', hc23'⟩ := step_bound hm3.1 hjm hcb hz64
        have HO := Lib.hid (or6 c1 z (by omega) hz64)
        have HG : Hid (gon m c0 (List.drop 1 l) = gon (m - (j + 1)) (c1 * 64 + z) (l.drop (j + 1 + 1))) := Lib.hid (by rw [hg, Nat.sub_sub])
        have HB := Lib.hid hc1'
        have HE := Lib.hid hld
        clear hc1' hz hg hD hmj hcb hy hcont hld
        have hm9 : m ≤ 3 := hm3.1
        clear hm3
        go_wp2
        go_step3
        rw [HO.out]
        refine ⟨rfl, ⟨m, c0, j + 1, c1 * 64 + z, HE.out, hmn, by omega, HB.out, by omega, HG.out, hr', ht', hb', _, _, _, _, _, _, _, _, _, _, _, _, _, _, _, _, _, _, _, _, _, _, _, _, _, _, _, _, _, _, _, _, _, _, _, _, _, _, _, _, _, _, _, _, _, _, _, _, _, _, _, _, _, rfl⟩, ?_⟩
        simp [slotJ, intOf]
        omega
      · have hcf : cont y = false := by simpa using hcont
        rw [hcf] at hne
        rw [gon_stop hcf] at hg
        have HV : Hid (fv l = .tuple #[.int .u32 0, .int .i64 0]) := Lib.hid (fv_none (by rw [hl]; exact dec_gon_none hld hg))
        clear hg hD hmj hcb hy hcont hcf hld
        have hm9 : m ≤ 3 := hm3.1
        clear hm3
        go_wp2
        rw [jump_ret]
        go_ret2
        exact ⟨by rw [HV.out]; rfl, hb'⟩
    · have hjm' : j = m := by omega
      subst hjm'
      rw [Nat.sub_self] at hg
      simp only [gon] at hg
      have hd := dec_gon_some (r := l.drop 1) hld hg
      rw [← hl] at hd
      have hm9 : j ≤ 3 := hm3.1
      clear hm3 hg hcb hld
      by_cases hC : isC c1 = true
      · by_cases hF : fu c1 = j
        · have HV : Hid (fv l = .tuple #[.int .u32 (c1 : Nat), .int .i64 ((j : Int) + 1)]) := Lib.hid (by
            have hfit : fits j c1 = true := by simp [fits, hC, hF]
            rw [hfit, if_pos rfl] at hd
            rw [fv_some hd]
            simp)
          clear hd
          go_wp2_with fail
          refine (char_any c1 w').mono ?_
          rw [hC]
          rintro e w2 ⟨rfl, rfl⟩
          go_wp2_with fail
          refine (further_any c1 w' ht').mono ?_
          rw [hF]
          rintro e w2 ⟨rfl, rfl⟩
          clear hC hF
          go_wp2
          rw [jump_ret]
          go_ret2
          exact ⟨by rw [HV.out]; rfl, hb'⟩
        · have HV : Hid (fv l = .tuple #[.int .u32 0, .int .i64 0]) := Lib.hid (fv_none (by rw [hd, if_neg (by simp [fits, hF])]))
          have hne : (((fu c1 : Nat) : Int) != (j : Int)) = true := by simp; omega
          clear hd hF
          go_wp2_with fail
          refine (char_any c1 w').mono ?_
          rw [hC]
          rintro e w2 ⟨rfl, rfl⟩
          go_wp2_with fail
          refine (further_any c1 w' ht').mono ?_
          rintro e w2 ⟨rfl, rfl⟩
          clear hC
          generalize fu c1 = f at *
          go_wp2
          rw [jump_ret]
          go_ret2
          exact ⟨by rw [HV.out]; rfl, hb'⟩
      · have hCf : isC c1 = false := by simpa using hC
        have HV : Hid (fv l = .tuple #[.int .u32 0, .int .i64 0]) := Lib.hid (fv_none (by rw [hd, if_neg (by simp [fits, hCf])]))
        clear hd hC
        go_wp2_with fail
        refine (char_any c1 w').mono ?_
        rw [hCf]
        rintro e w2 ⟨rfl, rfl⟩
        clear hCf
        go_wp2
        rw [jump_ret]
        go_ret2
        exact ⟨by rw [HV.out]; rfl, hb'⟩
  · intro HJ
    have HJ' := Lib.hid HJ
    clear HJ hl
    go_wp2_with fail
    refine (lead_any x hx2 w ht).mono ?_
    rintro e w1 ⟨rfl, hb1⟩
    have hr1 := hr.below hb1
    have ht1 := ht.call hb1
    cases hld : ld x with
    | none =>
      have hlv : leadv x = .tuple #[.int .i64 0, .int .u32 0, .bool false] := by simp [leadv, hld]
      have HV : Hid (fv l = .tuple #[.int .u32 0, .int .i64 0]) := Lib.hid (fv_none (by rw [HL.out]; exact dec_lead hld))
      rw [hlv]
      clear hlv hld
      go_wp2
      rw [jump_ret]
      go_ret2
      exact ⟨by rw [HV.out]; rfl, hb1⟩
    | some p =>
      obtain ⟨m, c0⟩ := p
      have hlv : leadv x = .tuple #[.int .i64 (m : Nat), .int .u32 (c0 : Nat), .bool true] := by simp [leadv, hld]
      have hm3 := ld_bound hld hx2
      by_cases hmn : n ≤ m
      · have HV : Hid (fv l = .tuple #[.int .u32 0, .int .i64 0]) := Lib.hid (fv_none (by rw [HL.out]; exact dec_gon_none hld (gon_short _ _ _ (by rw [List.length_drop]; omega))))
        rw [hlv]
        clear hlv hld hm3
        go_wp2
        rw [jump_ret]
        go_ret2
        exact ⟨by rw [HV.out]; rfl, hb1⟩
      · rw [hlv]
        clear hlv
        have HLD := Lib.hid hld
        have hm9 : m ≤ 3 := hm3.1
        have HB : Hid (m = 0 ∨ c0 < 32 * 64 ^ 0) := Lib.hid (by simp; exact hm3.2.2)
        have hc128 : c0 < 128 := hm3.2.1
        clear hld hm3
        go_wp2
        go_step3
        rename_i hK
        refine hK _ _ (HJ'.out _ _ ?_)
        exact ⟨m, c0, 0, c0, HLD.out, by omega, by omega, HB.out, by omega, rfl, hr1, ht1, hb1, _, _, _, _, _, _, _, _, _, _, _, _, _, _, _, _, _, _, _, _, _, _, _, _, _, _, _, _, _, _, _, _, _, _, _, _, _, _, _, _, _, _, _, _, _, _, _, _, _, _, _, _, _, rfl⟩

theorem first_any (A : Option Addr) (n c : Nat) (l : List Nat) (w : World) (ht : Tab w) (hr : Rd .u8 256 w w.heap.size A n l) (hn : 0 < n) (hn2 : n ≤ 4611686018427387904) : Calls Tryd.prog 116 #[.slice A n c] w fun e w' => e = .returned (fv l) ∧ Below w.heap.size w w' := by
  obtain ⟨b, o, _, rfl, _⟩ := hr.at_ hn
  exact first_x b o n c l w ht hr hn hn2
end Go.Proofs.YtikjnbognjicdaaDoor.Utf
