/-
  Contract of the laws' told: what an intake tells of bytes that come in pieces. Memory that was there stays, but for the intake's two blocks. Condition: at most 2^14 bytes.
-/
import Derived.Test.YtdjncacknmejoaaIfs
namespace Go.Proofs.Ytdjncacknmejoaa.It
set_option maxRecDepth 100000
open Go.RowKit Go.Proofs.Ytdjncacknmejoaa.Utf Go.Proofs.Ytdjncacknmejoaa.Enc Go.Proofs.Ytdjncacknmejoaa.Fr

theorem own_off2 {w w' : World} {base n c : Nat} {A : Option Addr} {l : List Nat} {X : Nat → Prop} (h : Own .u8 256 5 w base A n c l) (ho : Off X w w') (hx : ∀ i, Bof A i → ¬ X i) : Own .u8 256 5 w' base A n c l := by
  have hk : ∀ g, (Value.slice A n c).ownBlock = some g → w'.heap[g]? = w.heap[g]? := fun g hg => by
    refine ho.block g (h.blk g hg).2 (hx g ?_)
    rcases h.2.1.2 with ⟨h1, _⟩ | ⟨g1, cap, cur, h1, _⟩
    · rw [h1] at hg; cases hg
    · injection h1 with h1 _ _
      subst h1
      have e : g1 = g := by simpa [Value.ownBlock] using hg
      exact ⟨0, by rw [e]⟩
  refine ⟨h.1, ⟨h.2.1.1, ?_⟩, h.2.2.keep hk⟩
  rcases h.2.1.2 with h1 | ⟨g, cap, cur, h1, h2, h3, h4⟩
  · exact .inl h1
  · exact .inr ⟨g, cap, cur, h1, h2, (hk g (by rw [h1]; rfl)).trans h3, h4⟩
/-- Kinds and frames, side by side. -/
structure KF (w : World) (base : Nat) (A1 : Option Addr) (n c1 : Nat) (A2 : Option Addr) (c2 : Nat) (E : List Ev) : Prop where
  kin : Own .u8 256 5 w base A1 n c1 (E.map (·.1))
  frs : FrsI w base (Bof A1) A2 n c2 (E.map (·.2))
  ne : ∀ b, Bof A1 b → ¬ Bof A2 b
section
variable {w w' : World} {base n c1 c2 : Nat} {A1 A2 : Option Addr} {E : List Ev} {X : Nat → Prop}
theorem KF.nil (w : World) (base : Nat) : KF w base none 0 0 none 0 [] := ⟨Own.nil _ _ _ _ _, FrsI.nil _ _ _, fun b ⟨o, e⟩ => by cases e⟩
theorem KF.off (h : KF w base A1 n c1 A2 c2 E) (ho : Off X w w') (hx : ∀ i, X i → i < base) : KF w' base A1 n c1 A2 c2 E :=
  ⟨own_off h.kin ho hx, h.frs.off ho (fun i hX => Or.inl (hx i hX)), h.ne⟩
theorem KF.call (h : KF w base A1 n c1 A2 c2 E) (hb : Below w.heap.size w w') : KF w' base A1 n c1 A2 c2 E := h.off (X := fun _ => False) (Off.of _ hb) (fun _ h => h.elim)
theorem FrsI.blk {Z : Nat → Prop} {F : List (Nat × List Nat)} (h : FrsI w base Z A2 n c2 F) {b : Nat} (hb : Bof A2 b) : base ≤ b ∧ b < w.heap.size := by
  obtain ⟨xs, hown, _⟩ := h.own
  obtain ⟨o, e⟩ := hb
  exact hown.lt b (by rw [e]; rfl)
theorem KF.blk1 (h : KF w base A1 n c1 A2 c2 E) {b : Nat} (hb : Bof A1 b) : base ≤ b ∧ b < w.heap.size := by
  obtain ⟨o, e⟩ := hb
  exact h.kin.blk b (by rw [e]; rfl)
/-- When a kind was appended. -/
theorem KF.kind (h : KF w base A1 n c1 A2 c2 E) (ho : Off (Bof A1) w w') {A1' : Option Addr} (hin : ∀ i, Bof A1' i → Bof A1 i ∨ w.heap.size ≤ i) : FrsI w' base (Bof A1') A2 n c2 (E.map (·.2)) ∧ ∀ b, Bof A1' b → ¬ Bof A2 b := by
  constructor
  · have h1 : FrsI w base (fun b => Bof A1 b ∨ w.heap.size ≤ b) A2 n c2 (E.map (·.2)) := h.frs.re fun b hb h => h.elim id fun h => by omega
    have h2 := h1.off ho fun i hi => Or.inr ⟨Or.inl hi, h.ne i hi⟩
    exact h2.re fun b _ hb => hin b hb
  · intro b hb hb2
    rcases hin b hb with h1 | h1
    · exact h.ne b h1 hb2
    · have := (h.frs.blk hb2).2
      omega
end
/-- When both were appended. -/
theorem KF.both {w1 w2 w3 : World} {base n c3 c4 k ch : Nat} {A2 A3 A4 : Option Addr} {E : List Ev} {bd : List Nat} (hk : Own .u8 256 5 w1 base A3 (n + 1) c3 (E.map (·.1) ++ [k])) (hne : ∀ b, Bof A3 b → ¬ Bof A2 b) (hb : Below w1.heap.size w1 w2)
    (hf : FrsI w3 base (Bof A3) A4 (n + 1) c4 (E.map (·.2) ++ [(ch, bd)])) (ho : Off (Bof A2) w2 w3) (hin : ∀ i, Bof A4 i → Bof A2 i ∨ w2.heap.size ≤ i) : KF w3 base A3 (n + 1) c3 A4 c4 (E ++ [(k, ch, bd)]) := by
  refine ⟨?_, ?_, fun b h3 h4 => ?_⟩
  · rw [List.map_append]
    exact own_off2 (hk.below hb) ho hne
  · rw [List.map_append]
    exact hf
  · rcases hin b h4 with h5 | h5
    · exact hne b h3 h5
    · obtain ⟨o, e⟩ := h3
      have := (hk.blk b (by rw [e]; rfl)).2
      have := hb.size
      omega
theorem In.low {w w' : World} {g h B : Nat} {s : St} (i : In w g h s) (hb : Below B w w') (hg : g < B) (hh : h < B) : In w' g h s :=
  i.off (X := fun i => B ≤ i) ⟨hb.os, hb.tape, hb.output, hb.size, fun k _ hx => hb.block k (by omega)⟩ (by omega) (by omega)
theorem Off.low {X : Nat → Prop} {w w1 w2 : World} (h : Off X w w1) (hb : Below w.heap.size w1 w2) : Off X w w2 := ⟨hb.os.trans h.os, hb.tape.trans h.tape, hb.output.trans h.output, Nat.le_trans h.size hb.size, fun i hi hx => (hb.block i hi).trans (h.block i hi hx)⟩
/-- How much the intake holds, as its block says. -/
def heldN (w : World) (g : Nat) : Nat := match w.cell? ⟨g, 1, none⟩ with
  | some (.slice _ n _) => n
  | _ => 0
theorem heldN_in {w : World} {g h : Nat} {s : St} (i : In w g h s) : heldN w g = s.held.length := by
  unfold heldN
  rw [i.cells.2.1]
  rcases hb : s.bad with _ | _
  · rw [hv_ok hb]
  · rw [hv_bad hb, i.ok.bad hb]
    rfl
def GivesTold (m : Nat) (b : List Nat) (g h : Nat) (w : World) (e : Ending) (w' : World) : Prop :=
  ∃ A1 n c1 A2 c2 at_, e = .returned (.tuple #[.slice A1 n c1, .slice A2 n c2, .int .i64 (at_ : Nat)]) ∧ KF w' w.heap.size A1 n c1 A2 c2 (evs m false b) ∧ Off (Xi g h) w w'
set_option maxHeartbeats 4000000 in
theorem told_any (g h m N c np pc : Nat) (A PA : Option Addr) (b ps : List Nat) (w : World) (hi : In w g h ⟨m, [], false, false⟩) (B : Nat) (hr : Rd .u8 256 w B A N b) (hNc : N ≤ c) (hN : N ≤ 16384) (hp : Rd .u16 65536 w B PA np ps) (hB : B ≤ g ∧ B ≤ h ∧ B ≤ w.heap.size) :
    Calls Try.prog 23 #[.pointer (some ⟨g, 0, none⟩), .slice A N c, .slice PA np pc] w (GivesTold m b g h w) := by
  have HI := Lib.hid hi
  have HR := Lib.hid hr
  have HP := Lib.hid hp
  have HGL : Hid (g < w.heap.size ∧ h < w.heap.size) := Lib.hid ⟨hi.glt, hi.lt⟩
  have hbl := hr.len
  have HBL := Lib.hid hbl
  have HOLD : Hid (∀ wx, Off (Xi g h) w wx → ∀ p : Addr, p.block < B → wx.cell? p = w.cell? p) := Lib.hid fun wx ho p hp => World.cell?_of_block (ho.block p.block (by omega) (fun e => by rcases e with e | e <;> omega))
  have HBW : Hid (∀ wx, Off (Xi g h) w wx → B ≤ wx.heap.size) := Lib.hid fun wx ho => Nat.le_trans hB.2.2 ho.size
  clear hi hr hp hbl hB
  go_enter Try.func23, Try.ntmps23
  go_wp2_with fail
  go_loopw [9, 10, 11, 12] (fun kn fr a i wr => ∃ (E : List Ev) (s : St) (at_ j : Nat) (A1 : Option Addr) (n c1 : Nat) (A2 : Option Addr) (c2 : Nat), kn = .slice A1 n c1 ∧ fr = .slice A2 n c2 ∧ a = .int .i64 (at_ : Int) ∧ i = .int .i64 (j : Int) ∧ at_ ≤ N ∧ j ≤ at_ ∧ s.most = m ∧ kind s = 0 ∧ Rel b E s at_ ∧ In wr g h s ∧ KF wr w.heap.size A1 n c1 A2 c2 E ∧ Off (Xi g h) w wr) (fun _ _ a _ _ => N - (intOf a).toNat)
  case atStart => exact ⟨[], _, 0, 0, none, 0, 0, none, 0, rfl, rfl, rfl, rfl, by omega, by omega, rfl, by rfl, Rel.start b m, HI.out, KF.nil _ _, Off.refl _ _⟩
  case round =>
    obtain ⟨E, s, at_, j, A1, n, c1, A2, c2, rfl, rfl, rfl, rfl, hat, hj, hsm, hk0, hrel, hi, hkf, ho⟩ := hrel
    have HIX := Lib.hid hi
    have HKF := Lib.hid hkf
    have HO := Lib.hid ho
    have HREL := Lib.hid hrel
    have HSM := Lib.hid hsm
    have HK0 := Lib.hid hk0
    clear hi hkf ho hrel hsm hk0
    by_cases hlt : at_ < N
    · have d1 : decide ((at_ : Int) < (N : Int)) = true := by simp; omega
      obtain ⟨d, hd⟩ : ∃ d, N - at_ = d := ⟨_, rfl⟩
      have hdi : (N : Int) - (at_ : Int) = (d : Int) := by omega
      have hdw : IntKind.i64.wrap ((N : Int) - (at_ : Int)) = (d : Int) := by rw [hdi]; exact IntWalk.i64_in _ (by omega)
      by_cases hjn : j < np
      · have hpr := HP.out.keep (HOLD.out _ HO.out)
        obtain ⟨pb, po, pv, eP, hpb, hpx, hpv, hcp⟩ := hpr.at_ hjn
        subst eP
        have d2 : decide ((j : Int) < (np : Int)) = true := by simp; omega
        have i0 : (0 : Int) ≤ (j : Int) := by omega
        have i1 : (j : Int) < (np : Int) := by omega
        obtain ⟨q, hq⟩ : ∃ q, pv % 700 = q := ⟨_, rfl⟩
        have K1 : (pv : Int).tmod 700 = (q : Int) := by rw [← hq]; exact Int.ofNat_tmod pv 700
        have K2 : (pv : Int) % 700 = (q : Int) := by omega
        have hq7 : q < 700 := by omega
        obtain ⟨t, ht⟩ : ∃ t, 1 + q = t := ⟨_, rfl⟩
        have hti : 1 + (q : Int) = (t : Int) := by omega
        have htw : IntKind.i64.wrap (1 + (q : Int)) = (t : Int) := by rw [hti]; exact IntWalk.i64_in _ (by omega)
        have hpv2 : pv < 65536 := hpv
        clear hpr hpx hq
        by_cases htd : t < d
        · have htdi : (t : Int) < (d : Int) := by omega
          obtain ⟨AT, hAT⟩ : ∃ AT, at_ + t = AT := ⟨_, rfl⟩
          have hATi : (at_ : Int) + (t : Int) = (AT : Int) := by omega
          have hATw : IntKind.i64.wrap ((at_ : Int) + (t : Int)) = (AT : Int) := by rw [hATi]; exact IntWalk.i64_in _ (by omega)
          obtain ⟨AA, cc, hcc, q1, q2, hcut⟩ := cut_mix .i64 .i64 A N c at_ AT (by omega) (by omega) hNc
          rw [show AT - at_ = t by omega] at hcc q1 q2 hcut
          have q1' : ∀ W : World, (Instr.slice 24 (.slice A N c) (some (.int .i64 (at_ : Int))) (some (.int .i64 (AT : Int))) none).run Try.prog W = .ok (.slice AA t cc) W := fun W => q1 W
          have q2' : ∀ W : World, (Instr.sliceAt 24 (.slice A N c) (some (.int .i64 (at_ : Int))) (some (.int .i64 (AT : Int))) none).run Try.prog W = .ok (.slice AA t cc) W := fun W => q2 W
          have hrA := (HR.out.keep (HOLD.out _ HO.out)).mono (HBW.out _ HO.out)
          have hrT := hcut _ _ _ hrA
          obtain ⟨rm, hrm⟩ : ∃ rm, room s = rm := ⟨_, rfl⟩
          obtain ⟨tk, htk⟩ : ∃ tk, min t rm = tk := ⟨_, rfl⟩
          have hrm0 : 0 < rm := by rw [← hrm]; exact room_none HIX.out.ok HK0.out
          have htk0 : 1 ≤ tk ∧ tk ≤ t := by omega
          obtain ⟨at2, hat2⟩ : ∃ at2, at_ + tk = at2 := ⟨_, rfl⟩
          have ha2i : (at_ : Int) + (tk : Int) = (at2 : Int) := by omega
          have ha2w : IntKind.i64.wrap ((at_ : Int) + (tk : Int)) = (at2 : Int) := by rw [ha2i]; exact IntWalk.i64_in _ (by omega)
          have htkz : ((tk : Int) == 0) = false := by simp; omega
          have htkn : ¬ tk = 0 := by omega
          have htkb : (tk == 0) = false := by simp; omega
          have HPT := Lib.hid (put_s HIX.out hrT hcc (by omega) _ (tk : Int) rfl (by rw [hrm, htk]))
          have HREL1 := Lib.hid (by have := HREL.out.put t; rw [hrm, htk, hat2] at this; exact this : Rel b E (put s ((b.drop at_).take t)) at2)
          have HAT2 : Hid (at2 ≤ N ∧ j + 1 ≤ at2) := Lib.hid (by omega)
          have HLT2 : Hid (at_ < at2 ∧ at2 ≤ N) := Lib.hid (by omega)
          have hj64 : (j : Int) < 16384 := by omega
          have ha264 : at2 ≤ 16384 := by omega
          clear hcut hrA hrT hrm htk hrm0 htk0 hat2 q1 q2
          go_wp2_with (first
            | (go_at_call 14; (with_reducible refine HPT.out.mono ?_); rintro e w4 ⟨rfl, hi4, ho4⟩)
            | fail)
          have HI4 := Lib.hid hi4
          have HK4 := Lib.hid (HKF.out.off ho4 (fun i e => by have := HGL.out; rcases e with e | e <;> omega))
          have HO4 := Lib.hid (HO.out.trans ho4)
          clear hi4 ho4 ha2i ha2w hATi hATw hdi hdw
          go_loopw [9, 10, 15] (fun kn fr bd wx => bd = .bool false ∧ ∃ (E' : List Ev) (s' : St) (A1' : Option Addr) (n' c1' : Nat) (A2' : Option Addr) (c2' : Nat), kn = .slice A1' n' c1' ∧ fr = .slice A2' n' c2' ∧ s'.most = m ∧ Rel b E' s' at2 ∧ In wx g h s' ∧ KF wx w.heap.size A1' n' c1' A2' c2' E' ∧ Off (Xi g h) w wx) (fun _ _ _ wx => heldN wx g)
          case atStart => exact ⟨rfl, E, put s ((b.drop at_).take t), A1, n, c1, A2, c2, rfl, rfl, HSM.out, HREL1.out, HI4.out, HK4.out, HO4.out⟩
          case round =>
            obtain ⟨rfl, E', s', A1', n', c1', A2', c2', rfl, rfl, hsm, hrel, hi, hkf, ho⟩ := hrel
            rename World => wy
            have HME := Lib.hid (heldN_in hi)
            have HIY := Lib.hid hi
            have HKY := Lib.hid hkf
            have HOY := Lib.hid ho
            have HRELY := Lib.hid hrel
            have HSMY := Lib.hid hsm
            clear hi hkf ho hrel hsm
            have hcases : kind s' = 0 ∨ (kind s' = 1 ∨ kind s' = 2) ∨ kind s' = 3 := by have := kind_cases s'; omega
            rcases hcases with hkc | hkc | hkc
            · skip
              have HN := Lib.hid (next_at HIY.out 0 0 0 [] s' (by rw [hkc]; rfl) (chN0 (by omega)) (bdN0 (by omega)) rfl (next_none hkc))
              have HK00 := Lib.hid hkc
              clear hkc
              go_wp2_with (first
                | (go_at_call 17; (with_reducible refine HN.out.mono ?_); rintro e w7 ⟨A7, c7, rfl, _, hi7, ho7⟩; have HI7 := Lib.hid (hi7.call (ba (Below.refl _ _) (.cells #[.int .u16 0, .slice A7 0 c7] 39))); have HO7 := Lib.hid ((HOY.out.trans ho7).alloc (.cells #[.int .u16 0, .slice A7 0 c7] 39)); have HK7 := Lib.hid ((HKY.out.off ho7 (fun i e => by have := HGL.out; rcases e with e | e <;> omega)).call (ba (Below.refl _ _) (.cells #[.int .u16 0, .slice A7 0 c7] 39))))
                | fail)
              go_roundw
              case rel => exact ⟨E', s', at2, j + 1, A1', n', c1', A2', c2', rfl, rfl, rfl, by go_num, HAT2.out.1, HAT2.out.2, HSMY.out, HK00.out, HRELY.out, HI7.out, HK7.out, HO7.out⟩
              case measure => have := HLT2.out; simp [intOf]; omega
            · skip
              obtain ⟨k, hk⟩ : ∃ k, kind s' = k := ⟨_, rfl⟩
              obtain ⟨ch, hch⟩ : ∃ ch, chN s' = ch := ⟨_, rfl⟩
              obtain ⟨bl, hblen⟩ : ∃ bl, (bdN s').length = bl := ⟨_, rfl⟩
              have hkv : k = 1 ∨ k = 2 := by omega
              have hk256 : k < 256 := by omega
              have e1 : ((k : Int) == 0) = false := by simp; omega
              have e2 : decide (3 < (k : Int)) = false := by simp; omega
              have e3 : ((k : Int) == 3) = false := by simp; omega
              have hev : evN s' = (k, ch, bdN s') := by unfold evN; rw [hk, hch]
              have HEV := Lib.hid hev
              have HN := Lib.hid (next_at HIY.out (k : Int) (ch : Int) bl (bdN s') (next s') (by rw [hk]) (by rw [hch]) rfl hblen rfl)
              have hcnt : n' ≤ 16385 := by
                have h1 := HRELY.out.len
                have h2 := HKY.out.kin.len
                rw [List.length_map] at h2
                have := HBL.out
                omega
              have HREL2 := Lib.hid (HRELY.out.next (by rw [hk]; exact hkv))
              have HNN := Lib.hid (next_on (s := s') (by rw [hk]; exact hkv))
              clear hk hch hblen hkv hev hkc
              go_wp2_with fail
              (with_reducible refine HN.out.mono ?_)
              rintro e w7 ⟨A7, c7, rfl, hO7, hi7, ho7⟩
              have hs7 := ho7.size
              have HI7 := Lib.hid hi7
              have HO7 := Lib.hid ho7
              have HOW7 := Lib.hid hO7
              have hc7 := hO7.cap.1
              have hkf7 := HKY.out.off ho7 (fun i e => by have := HGL.out; rcases e with e | e <;> omega)
              have hkf8 := hkf7.call (ba (Below.refl _ _) (.cells #[.int .u16 (ch : Int), .slice A7 bl c7] 39))
              have hkf9 := hkf8.call (ba (Below.refl _ _) (.cells #[.int .u8 (k : Int)] 5))
              have HKF9 := Lib.hid hkf9
              have hx8 : BxF (w7.alloc (.cells #[.int .u16 (ch : Int), .slice A7 bl c7] 39)) w7.heap.size ch A7 bl c7 := heap_alloc_new w7 _
              have hx9 := hx8.call (ba (Below.refl _ _) (.cells #[.int .u8 (k : Int)] 5))
              have hcell9 : ((w7.alloc (.cells #[.int .u16 (ch : Int), .slice A7 bl c7] 39)).alloc (.cells #[.int .u8 (k : Int)] 5)).cell? ⟨w7.heap.size + 1, 0, none⟩ = some (.int .u8 (k : Int)) := by
                rw [World.cell?_alloc_at _ _ _ _ (by rw [World.size_alloc])]; rfl
              have hbase9 : w.heap.size ≤ ((w7.alloc (.cells #[.int .u16 (ch : Int), .slice A7 bl c7] 39)).alloc (.cells #[.int .u8 (k : Int)] 5)).heap.size := by have := HOY.out.size; simp; omega
              have hsz9 : ((w7.alloc (.cells #[.int .u16 (ch : Int), .slice A7 bl c7] 39)).alloc (.cells #[.int .u8 (k : Int)] 5)).heap.size = w7.heap.size + 2 := by simp
              have HX9 := Lib.hid hx9
              have HOF9 := Lib.hid (((Off.refl (Xi g h) w7).alloc (.cells #[.int .u16 (ch : Int), .slice A7 bl c7] 39)).alloc (.cells #[.int .u8 (k : Int)] 5))
              have HRD9 := Lib.hid ((hO7.rd.call (ba (Below.refl _ _) (.cells #[.int .u16 (ch : Int), .slice A7 bl c7] 39))).call (ba (Below.refl _ _) (.cells #[.int .u8 (k : Int)] 5)))
              have hin9 := HI7.out.call (ba (ba (Below.refl _ _) (.cells #[.int .u16 (ch : Int), .slice A7 bl c7] 39)) (.cells #[.int .u8 (k : Int)] 5))
              obtain ⟨z0, z1, _, _⟩ := hx8.all
              have HIN9 := Lib.hid hin9
              have hkin9 := hkf9.kin
              have hA2b : ∀ x, Bof A2' x → x < wy.heap.size := fun x hx => (HKY.out.frs.blk hx).2
              have hA1b : ∀ x, Bof A1' x → x < wy.heap.size := fun x hx => (HKY.out.blk1 hx).2
              have hB7 : ∀ x, Bof A7 x → wy.heap.size ≤ x ∧ x < w7.heap.size := fun x ⟨o, e⟩ => hO7.blk x (by rw [e]; rfl)
              have HA2B := Lib.hid hA2b
              have HA1B := Lib.hid hA1b
              have HB7 := Lib.hid hB7
              have hbw7 : w.heap.size ≤ wy.heap.size := HOY.out.size
              clear hx8 hx9 hi7 ho7 hO7 hkf7 hkf8 hkf9 hin9 hA2b hA1b hB7
              go_wp2_with (first
                | (at_builtin; refine wpList_kind (base := w.heap.size) (k := k) rfl _ _ rfl rfl hkin9 rfl hcell9 hk256 (by omega) hbase9 ?_; intro A3 c3 w10 hk10 hb10 ho10 hin10; obtain ⟨hfr10, hne10⟩ := HKF9.out.kind ho10 hin10; have hs10 := ho10.size; have hx10 := BxF.off HX9.out ho10 (fun h => by have := HA1B.out _ h; omega); obtain ⟨y0, y1, _, _⟩ := hx10.all; have hcell11 : (w10.alloc (.cells #[.int .u16 (ch : Int), .slice A7 bl c7] 39)).cell? ⟨w10.heap.size, 0, none⟩ = some (.int .u16 (ch : Int)) := (by rw [World.cell?_alloc_at _ _ _ _ rfl]; rfl); have hcell12 : (w10.alloc (.cells #[.int .u16 (ch : Int), .slice A7 bl c7] 39)).cell? ⟨w10.heap.size, 1, none⟩ = some (.slice A7 bl c7) := (by rw [World.cell?_alloc_at _ _ _ _ rfl]; rfl); have hfr11 := hfr10.call (ba (Below.refl _ _) (.cells #[.int .u16 (ch : Int), .slice A7 bl c7] 39)); have hrd11 := ((ho10.rd HRD9.out (fun x o e => ⟨by have := (HB7.out x ⟨o, e⟩).2; omega, fun h => by have := (HB7.out x ⟨o, e⟩).1; have := HA1B.out x h; omega⟩)).mono hs10).call (ba (Below.refl _ _) (.cells #[.int .u16 (ch : Int), .slice A7 bl c7] 39)); have hB11 : ∀ x, Bof A7 x → w.heap.size ≤ x ∧ x < (w10.alloc (.cells #[.int .u16 (ch : Int), .slice A7 bl c7] 39)).heap.size ∧ ¬ (Bof A3 x ∨ Bof A2' x) := (fun x hx => ⟨by have := (HB7.out x hx).1; omega, by have := (HB7.out x hx).2; rw [World.size_alloc]; omega, fun h => by (rcases h with h | h; (rcases hin10 x h with h | h; (have := HA1B.out x h; have := (HB7.out x hx).1; omega); (have := (HB7.out x hx).2; omega)); (have := HA2B.out x h; have := (HB7.out x hx).1; omega))⟩); have hbase11 : w.heap.size ≤ (w10.alloc (.cells #[.int .u16 (ch : Int), .slice A7 bl c7] 39)).heap.size := (by rw [World.size_alloc]; omega))
                | (at_builtin; refine wpList_frs (base := w.heap.size) (Z := Bof A3) (ch := ch) rfl _ _ rfl rfl hfr11 rfl hcell11 hcell12 hrd11 hc7 hB11 (by omega) hbase11 ?_; intro A4 c4 w12 hf12 hb12 ho12 hin12)
                | fail)
              have HKF12 := Lib.hid (KF.both hk10 hne10 (ba (Below.refl _ _) (.cells #[.int .u16 (ch : Int), .slice A7 bl c7] 39)) hf12 ho12 hin12)
              have hbase10x : w.heap.size ≤ w10.heap.size := Nat.le_trans hbase9 hs10
              have hlow : Below w.heap.size ((w7.alloc (.cells #[.int .u16 (ch : Int), .slice A7 bl c7] 39)).alloc (.cells #[.int .u8 (k : Int)] 5)) w12 := (hb10.alloc hbase10x _).trans hb12
              have HI12 := Lib.hid (In.low HIN9.out hlow HGL.out.1 HGL.out.2)
              have HO12 := Lib.hid (Off.low ((HOY.out.trans HO7.out).trans HOF9.out) hlow)
              clear hlow hb12 ho12 hin12 hf12 hb10 ho10 hin10 hk10 hne10 hfr10 hfr11 hrd11 hcell11 hcell12 hB11 hx10 y0 y1 z0 z1
              go_roundw
              case rel => exact ⟨rfl, E' ++ [evN s'], next s', A3, n' + 1, c3, A4, c4, rfl, rfl, by rw [next_most]; exact HSMY.out, HREL2.out, HI12.out, by rw [HEV.out]; exact HKF12.out, HO12.out⟩
              case measure => rw [heldN_in HI12.out, HME.out]; have := HNN.out.2; omega
            · skip
              obtain ⟨k, hk⟩ : ∃ k, kind s' = k := ⟨_, rfl⟩
              obtain ⟨ch, hch⟩ : ∃ ch, chN s' = ch := ⟨_, rfl⟩
              obtain ⟨bl, hblen⟩ : ∃ bl, (bdN s').length = bl := ⟨_, rfl⟩
              have hkv : k = 3 := by omega
              have hk256 : k < 256 := by omega
              have e1 : ((k : Int) == 0) = false := by simp; omega
              have e2 : decide (3 < (k : Int)) = false := by simp; omega
              have e3 : ((k : Int) == 3) = true := by simp; omega
              have hev : evN s' = (k, ch, bdN s') := by unfold evN; rw [hk, hch]
              have HEV := Lib.hid hev
              have HN := Lib.hid (next_at HIY.out (k : Int) (ch : Int) bl (bdN s') (next s') (by rw [hk]) (by rw [hch]) rfl hblen rfl)
              have hcnt : n' ≤ 16385 := by
                have h1 := HRELY.out.len
                have h2 := HKY.out.kin.len
                rw [List.length_map] at h2
                have := HBL.out
                omega
              have HEND := Lib.hid (HRELY.out.bad (by omega))
              clear hk hch hblen hkv hev hkc
              go_wp2_with fail
              (with_reducible refine HN.out.mono ?_)
              rintro e w7 ⟨A7, c7, rfl, hO7, hi7, ho7⟩
              have hs7 := ho7.size
              have HI7 := Lib.hid hi7
              have HO7 := Lib.hid ho7
              have HOW7 := Lib.hid hO7
              have hc7 := hO7.cap.1
              have hkf7 := HKY.out.off ho7 (fun i e => by have := HGL.out; rcases e with e | e <;> omega)
              have hkf8 := hkf7.call (ba (Below.refl _ _) (.cells #[.int .u16 (ch : Int), .slice A7 bl c7] 39))
              have hkf9 := hkf8.call (ba (Below.refl _ _) (.cells #[.int .u8 (k : Int)] 5))
              have HKF9 := Lib.hid hkf9
              have hx8 : BxF (w7.alloc (.cells #[.int .u16 (ch : Int), .slice A7 bl c7] 39)) w7.heap.size ch A7 bl c7 := heap_alloc_new w7 _
              have hx9 := hx8.call (ba (Below.refl _ _) (.cells #[.int .u8 (k : Int)] 5))
              have hcell9 : ((w7.alloc (.cells #[.int .u16 (ch : Int), .slice A7 bl c7] 39)).alloc (.cells #[.int .u8 (k : Int)] 5)).cell? ⟨w7.heap.size + 1, 0, none⟩ = some (.int .u8 (k : Int)) := by
                rw [World.cell?_alloc_at _ _ _ _ (by rw [World.size_alloc])]; rfl
              have hbase9 : w.heap.size ≤ ((w7.alloc (.cells #[.int .u16 (ch : Int), .slice A7 bl c7] 39)).alloc (.cells #[.int .u8 (k : Int)] 5)).heap.size := by have := HOY.out.size; simp; omega
              have hsz9 : ((w7.alloc (.cells #[.int .u16 (ch : Int), .slice A7 bl c7] 39)).alloc (.cells #[.int .u8 (k : Int)] 5)).heap.size = w7.heap.size + 2 := by simp
              have HX9 := Lib.hid hx9
              have HOF9 := Lib.hid (((Off.refl (Xi g h) w7).alloc (.cells #[.int .u16 (ch : Int), .slice A7 bl c7] 39)).alloc (.cells #[.int .u8 (k : Int)] 5))
              have HRD9 := Lib.hid ((hO7.rd.call (ba (Below.refl _ _) (.cells #[.int .u16 (ch : Int), .slice A7 bl c7] 39))).call (ba (Below.refl _ _) (.cells #[.int .u8 (k : Int)] 5)))
              have hin9 := HI7.out.call (ba (ba (Below.refl _ _) (.cells #[.int .u16 (ch : Int), .slice A7 bl c7] 39)) (.cells #[.int .u8 (k : Int)] 5))
              obtain ⟨z0, z1, _, _⟩ := hx8.all
              have HIN9 := Lib.hid hin9
              have hkin9 := hkf9.kin
              have hA2b : ∀ x, Bof A2' x → x < wy.heap.size := fun x hx => (HKY.out.frs.blk hx).2
              have hA1b : ∀ x, Bof A1' x → x < wy.heap.size := fun x hx => (HKY.out.blk1 hx).2
              have hB7 : ∀ x, Bof A7 x → wy.heap.size ≤ x ∧ x < w7.heap.size := fun x ⟨o, e⟩ => hO7.blk x (by rw [e]; rfl)
              have HA2B := Lib.hid hA2b
              have HA1B := Lib.hid hA1b
              have HB7 := Lib.hid hB7
              have hbw7 : w.heap.size ≤ wy.heap.size := HOY.out.size
              clear hx8 hx9 hi7 ho7 hO7 hkf7 hkf8 hkf9 hin9 hA2b hA1b hB7
              go_wp2_with (first
                | (at_builtin; refine wpList_kind (base := w.heap.size) (k := k) rfl _ _ rfl rfl hkin9 rfl hcell9 hk256 (by omega) hbase9 ?_; intro A3 c3 w10 hk10 hb10 ho10 hin10; obtain ⟨hfr10, hne10⟩ := HKF9.out.kind ho10 hin10; have hs10 := ho10.size; have hx10 := BxF.off HX9.out ho10 (fun h => by have := HA1B.out _ h; omega); obtain ⟨y0, y1, _, _⟩ := hx10.all; have hcell11 : (w10.alloc (.cells #[.int .u16 (ch : Int), .slice A7 bl c7] 39)).cell? ⟨w10.heap.size, 0, none⟩ = some (.int .u16 (ch : Int)) := (by rw [World.cell?_alloc_at _ _ _ _ rfl]; rfl); have hcell12 : (w10.alloc (.cells #[.int .u16 (ch : Int), .slice A7 bl c7] 39)).cell? ⟨w10.heap.size, 1, none⟩ = some (.slice A7 bl c7) := (by rw [World.cell?_alloc_at _ _ _ _ rfl]; rfl); have hfr11 := hfr10.call (ba (Below.refl _ _) (.cells #[.int .u16 (ch : Int), .slice A7 bl c7] 39)); have hrd11 := ((ho10.rd HRD9.out (fun x o e => ⟨by have := (HB7.out x ⟨o, e⟩).2; omega, fun h => by have := (HB7.out x ⟨o, e⟩).1; have := HA1B.out x h; omega⟩)).mono hs10).call (ba (Below.refl _ _) (.cells #[.int .u16 (ch : Int), .slice A7 bl c7] 39)); have hB11 : ∀ x, Bof A7 x → w.heap.size ≤ x ∧ x < (w10.alloc (.cells #[.int .u16 (ch : Int), .slice A7 bl c7] 39)).heap.size ∧ ¬ (Bof A3 x ∨ Bof A2' x) := (fun x hx => ⟨by have := (HB7.out x hx).1; omega, by have := (HB7.out x hx).2; rw [World.size_alloc]; omega, fun h => by (rcases h with h | h; (rcases hin10 x h with h | h; (have := HA1B.out x h; have := (HB7.out x hx).1; omega); (have := (HB7.out x hx).2; omega)); (have := HA2B.out x h; have := (HB7.out x hx).1; omega))⟩); have hbase11 : w.heap.size ≤ (w10.alloc (.cells #[.int .u16 (ch : Int), .slice A7 bl c7] 39)).heap.size := (by rw [World.size_alloc]; omega))
                | (at_builtin; refine wpList_frs (base := w.heap.size) (Z := Bof A3) (ch := ch) rfl _ _ rfl rfl hfr11 rfl hcell11 hcell12 hrd11 hc7 hB11 (by omega) hbase11 ?_; intro A4 c4 w12 hf12 hb12 ho12 hin12)
                | fail)
              have HKF12 := Lib.hid (KF.both hk10 hne10 (ba (Below.refl _ _) (.cells #[.int .u16 (ch : Int), .slice A7 bl c7] 39)) hf12 ho12 hin12)
              have hbase10x : w.heap.size ≤ w10.heap.size := Nat.le_trans hbase9 hs10
              have hlow : Below w.heap.size ((w7.alloc (.cells #[.int .u16 (ch : Int), .slice A7 bl c7] 39)).alloc (.cells #[.int .u8 (k : Int)] 5)) w12 := (hb10.alloc hbase10x _).trans hb12
              have HI12 := Lib.hid (In.low HIN9.out hlow HGL.out.1 HGL.out.2)
              have HO12 := Lib.hid (Off.low ((HOY.out.trans HO7.out).trans HOF9.out) hlow)
              clear hlow hb12 ho12 hin12 hf12 hb10 ho10 hin10 hk10 hne10 hfr10 hfr11 hrd11 hcell11 hcell12 hB11 hx10 y0 y1 z0 z1
              go_wp2
              refine bodyPost_ret (v := .tuple #[.slice A3 (n' + 1) c3, .slice A4 (n' + 1) c4, .int .i64 (at2 : Int)]) (by simp [results, Try.results23, go_sem]) rfl ?_
              exact ⟨A3, n' + 1, c3, A4, c4, at2, rfl, by rw [← HSMY.out, HEND.out, HEV.out]; exact HKF12.out, HO12.out⟩
        · have htdi : ¬ (t : Int) < (d : Int) := by omega
          obtain ⟨AT, hAT⟩ : ∃ AT, at_ + d = AT := ⟨_, rfl⟩
          have hATi : (at_ : Int) + (d : Int) = (AT : Int) := by omega
          have hATw : IntKind.i64.wrap ((at_ : Int) + (d : Int)) = (AT : Int) := by rw [hATi]; exact IntWalk.i64_in _ (by omega)
          obtain ⟨AA, cc, hcc, q1, q2, hcut⟩ := cut_mix .i64 .i64 A N c at_ AT (by omega) (by omega) hNc
          rw [show AT - at_ = d by omega] at hcc q1 q2 hcut
          have q1' : ∀ W : World, (Instr.slice 24 (.slice A N c) (some (.int .i64 (at_ : Int))) (some (.int .i64 (AT : Int))) none).run Try.prog W = .ok (.slice AA d cc) W := fun W => q1 W
          have q2' : ∀ W : World, (Instr.sliceAt 24 (.slice A N c) (some (.int .i64 (at_ : Int))) (some (.int .i64 (AT : Int))) none).run Try.prog W = .ok (.slice AA d cc) W := fun W => q2 W
          have hrA := (HR.out.keep (HOLD.out _ HO.out)).mono (HBW.out _ HO.out)
          have hrT := hcut _ _ _ hrA
          obtain ⟨rm, hrm⟩ : ∃ rm, room s = rm := ⟨_, rfl⟩
          obtain ⟨tk, htk⟩ : ∃ tk, min d rm = tk := ⟨_, rfl⟩
          have hrm0 : 0 < rm := by rw [← hrm]; exact room_none HIX.out.ok HK0.out
          have htk0 : 1 ≤ tk ∧ tk ≤ d := by omega
          obtain ⟨at2, hat2⟩ : ∃ at2, at_ + tk = at2 := ⟨_, rfl⟩
          have ha2i : (at_ : Int) + (tk : Int) = (at2 : Int) := by omega
          have ha2w : IntKind.i64.wrap ((at_ : Int) + (tk : Int)) = (at2 : Int) := by rw [ha2i]; exact IntWalk.i64_in _ (by omega)
          have htkz : ((tk : Int) == 0) = false := by simp; omega
          have htkn : ¬ tk = 0 := by omega
          have htkb : (tk == 0) = false := by simp; omega
          have HPT := Lib.hid (put_s HIX.out hrT hcc (by omega) _ (tk : Int) rfl (by rw [hrm, htk]))
          have HREL1 := Lib.hid (by have := HREL.out.put d; rw [hrm, htk, hat2] at this; exact this : Rel b E (put s ((b.drop at_).take d)) at2)
          have HAT2 : Hid (at2 ≤ N ∧ j + 1 ≤ at2) := Lib.hid (by omega)
          have HLT2 : Hid (at_ < at2 ∧ at2 ≤ N) := Lib.hid (by omega)
          have hj64 : (j : Int) < 16384 := by omega
          have ha264 : at2 ≤ 16384 := by omega
          clear hcut hrA hrT hrm htk hrm0 htk0 hat2 q1 q2
          go_wp2_with (first
            | (go_at_call 14; (with_reducible refine HPT.out.mono ?_); rintro e w4 ⟨rfl, hi4, ho4⟩)
            | fail)
          have HI4 := Lib.hid hi4
          have HK4 := Lib.hid (HKF.out.off ho4 (fun i e => by have := HGL.out; rcases e with e | e <;> omega))
          have HO4 := Lib.hid (HO.out.trans ho4)
          clear hi4 ho4 ha2i ha2w hATi hATw hdi hdw
          go_loopw [9, 10, 15] (fun kn fr bd wx => bd = .bool false ∧ ∃ (E' : List Ev) (s' : St) (A1' : Option Addr) (n' c1' : Nat) (A2' : Option Addr) (c2' : Nat), kn = .slice A1' n' c1' ∧ fr = .slice A2' n' c2' ∧ s'.most = m ∧ Rel b E' s' at2 ∧ In wx g h s' ∧ KF wx w.heap.size A1' n' c1' A2' c2' E' ∧ Off (Xi g h) w wx) (fun _ _ _ wx => heldN wx g)
          case atStart => exact ⟨rfl, E, put s ((b.drop at_).take d), A1, n, c1, A2, c2, rfl, rfl, HSM.out, HREL1.out, HI4.out, HK4.out, HO4.out⟩
          case round =>
            obtain ⟨rfl, E', s', A1', n', c1', A2', c2', rfl, rfl, hsm, hrel, hi, hkf, ho⟩ := hrel
            rename World => wy
            have HME := Lib.hid (heldN_in hi)
            have HIY := Lib.hid hi
            have HKY := Lib.hid hkf
            have HOY := Lib.hid ho
            have HRELY := Lib.hid hrel
            have HSMY := Lib.hid hsm
            clear hi hkf ho hrel hsm
            have hcases : kind s' = 0 ∨ (kind s' = 1 ∨ kind s' = 2) ∨ kind s' = 3 := by have := kind_cases s'; omega
            rcases hcases with hkc | hkc | hkc
            · skip
              have HN := Lib.hid (next_at HIY.out 0 0 0 [] s' (by rw [hkc]; rfl) (chN0 (by omega)) (bdN0 (by omega)) rfl (next_none hkc))
              have HK00 := Lib.hid hkc
              clear hkc
              go_wp2_with (first
                | (go_at_call 17; (with_reducible refine HN.out.mono ?_); rintro e w7 ⟨A7, c7, rfl, _, hi7, ho7⟩; have HI7 := Lib.hid (hi7.call (ba (Below.refl _ _) (.cells #[.int .u16 0, .slice A7 0 c7] 39))); have HO7 := Lib.hid ((HOY.out.trans ho7).alloc (.cells #[.int .u16 0, .slice A7 0 c7] 39)); have HK7 := Lib.hid ((HKY.out.off ho7 (fun i e => by have := HGL.out; rcases e with e | e <;> omega)).call (ba (Below.refl _ _) (.cells #[.int .u16 0, .slice A7 0 c7] 39))))
                | fail)
              go_roundw
              case rel => exact ⟨E', s', at2, j + 1, A1', n', c1', A2', c2', rfl, rfl, rfl, by go_num, HAT2.out.1, HAT2.out.2, HSMY.out, HK00.out, HRELY.out, HI7.out, HK7.out, HO7.out⟩
              case measure => have := HLT2.out; simp [intOf]; omega
            · skip
              obtain ⟨k, hk⟩ : ∃ k, kind s' = k := ⟨_, rfl⟩
              obtain ⟨ch, hch⟩ : ∃ ch, chN s' = ch := ⟨_, rfl⟩
              obtain ⟨bl, hblen⟩ : ∃ bl, (bdN s').length = bl := ⟨_, rfl⟩
              have hkv : k = 1 ∨ k = 2 := by omega
              have hk256 : k < 256 := by omega
              have e1 : ((k : Int) == 0) = false := by simp; omega
              have e2 : decide (3 < (k : Int)) = false := by simp; omega
              have e3 : ((k : Int) == 3) = false := by simp; omega
              have hev : evN s' = (k, ch, bdN s') := by unfold evN; rw [hk, hch]
              have HEV := Lib.hid hev
              have HN := Lib.hid (next_at HIY.out (k : Int) (ch : Int) bl (bdN s') (next s') (by rw [hk]) (by rw [hch]) rfl hblen rfl)
              have hcnt : n' ≤ 16385 := by
                have h1 := HRELY.out.len
                have h2 := HKY.out.kin.len
                rw [List.length_map] at h2
                have := HBL.out
                omega
              have HREL2 := Lib.hid (HRELY.out.next (by rw [hk]; exact hkv))
              have HNN := Lib.hid (next_on (s := s') (by rw [hk]; exact hkv))
              clear hk hch hblen hkv hev hkc
              go_wp2_with fail
              (with_reducible refine HN.out.mono ?_)
              rintro e w7 ⟨A7, c7, rfl, hO7, hi7, ho7⟩
              have hs7 := ho7.size
              have HI7 := Lib.hid hi7
              have HO7 := Lib.hid ho7
              have HOW7 := Lib.hid hO7
              have hc7 := hO7.cap.1
              have hkf7 := HKY.out.off ho7 (fun i e => by have := HGL.out; rcases e with e | e <;> omega)
              have hkf8 := hkf7.call (ba (Below.refl _ _) (.cells #[.int .u16 (ch : Int), .slice A7 bl c7] 39))
              have hkf9 := hkf8.call (ba (Below.refl _ _) (.cells #[.int .u8 (k : Int)] 5))
              have HKF9 := Lib.hid hkf9
              have hx8 : BxF (w7.alloc (.cells #[.int .u16 (ch : Int), .slice A7 bl c7] 39)) w7.heap.size ch A7 bl c7 := heap_alloc_new w7 _
              have hx9 := hx8.call (ba (Below.refl _ _) (.cells #[.int .u8 (k : Int)] 5))
              have hcell9 : ((w7.alloc (.cells #[.int .u16 (ch : Int), .slice A7 bl c7] 39)).alloc (.cells #[.int .u8 (k : Int)] 5)).cell? ⟨w7.heap.size + 1, 0, none⟩ = some (.int .u8 (k : Int)) := by
                rw [World.cell?_alloc_at _ _ _ _ (by rw [World.size_alloc])]; rfl
              have hbase9 : w.heap.size ≤ ((w7.alloc (.cells #[.int .u16 (ch : Int), .slice A7 bl c7] 39)).alloc (.cells #[.int .u8 (k : Int)] 5)).heap.size := by have := HOY.out.size; simp; omega
              have hsz9 : ((w7.alloc (.cells #[.int .u16 (ch : Int), .slice A7 bl c7] 39)).alloc (.cells #[.int .u8 (k : Int)] 5)).heap.size = w7.heap.size + 2 := by simp
              have HX9 := Lib.hid hx9
              have HOF9 := Lib.hid (((Off.refl (Xi g h) w7).alloc (.cells #[.int .u16 (ch : Int), .slice A7 bl c7] 39)).alloc (.cells #[.int .u8 (k : Int)] 5))
              have HRD9 := Lib.hid ((hO7.rd.call (ba (Below.refl _ _) (.cells #[.int .u16 (ch : Int), .slice A7 bl c7] 39))).call (ba (Below.refl _ _) (.cells #[.int .u8 (k : Int)] 5)))
              have hin9 := HI7.out.call (ba (ba (Below.refl _ _) (.cells #[.int .u16 (ch : Int), .slice A7 bl c7] 39)) (.cells #[.int .u8 (k : Int)] 5))
              obtain ⟨z0, z1, _, _⟩ := hx8.all
              have HIN9 := Lib.hid hin9
              have hkin9 := hkf9.kin
              have hA2b : ∀ x, Bof A2' x → x < wy.heap.size := fun x hx => (HKY.out.frs.blk hx).2
              have hA1b : ∀ x, Bof A1' x → x < wy.heap.size := fun x hx => (HKY.out.blk1 hx).2
              have hB7 : ∀ x, Bof A7 x → wy.heap.size ≤ x ∧ x < w7.heap.size := fun x ⟨o, e⟩ => hO7.blk x (by rw [e]; rfl)
              have HA2B := Lib.hid hA2b
              have HA1B := Lib.hid hA1b
              have HB7 := Lib.hid hB7
              have hbw7 : w.heap.size ≤ wy.heap.size := HOY.out.size
              clear hx8 hx9 hi7 ho7 hO7 hkf7 hkf8 hkf9 hin9 hA2b hA1b hB7
              go_wp2_with (first
                | (at_builtin; refine wpList_kind (base := w.heap.size) (k := k) rfl _ _ rfl rfl hkin9 rfl hcell9 hk256 (by omega) hbase9 ?_; intro A3 c3 w10 hk10 hb10 ho10 hin10; obtain ⟨hfr10, hne10⟩ := HKF9.out.kind ho10 hin10; have hs10 := ho10.size; have hx10 := BxF.off HX9.out ho10 (fun h => by have := HA1B.out _ h; omega); obtain ⟨y0, y1, _, _⟩ := hx10.all; have hcell11 : (w10.alloc (.cells #[.int .u16 (ch : Int), .slice A7 bl c7] 39)).cell? ⟨w10.heap.size, 0, none⟩ = some (.int .u16 (ch : Int)) := (by rw [World.cell?_alloc_at _ _ _ _ rfl]; rfl); have hcell12 : (w10.alloc (.cells #[.int .u16 (ch : Int), .slice A7 bl c7] 39)).cell? ⟨w10.heap.size, 1, none⟩ = some (.slice A7 bl c7) := (by rw [World.cell?_alloc_at _ _ _ _ rfl]; rfl); have hfr11 := hfr10.call (ba (Below.refl _ _) (.cells #[.int .u16 (ch : Int), .slice A7 bl c7] 39)); have hrd11 := ((ho10.rd HRD9.out (fun x o e => ⟨by have := (HB7.out x ⟨o, e⟩).2; omega, fun h => by have := (HB7.out x ⟨o, e⟩).1; have := HA1B.out x h; omega⟩)).mono hs10).call (ba (Below.refl _ _) (.cells #[.int .u16 (ch : Int), .slice A7 bl c7] 39)); have hB11 : ∀ x, Bof A7 x → w.heap.size ≤ x ∧ x < (w10.alloc (.cells #[.int .u16 (ch : Int), .slice A7 bl c7] 39)).heap.size ∧ ¬ (Bof A3 x ∨ Bof A2' x) := (fun x hx => ⟨by have := (HB7.out x hx).1; omega, by have := (HB7.out x hx).2; rw [World.size_alloc]; omega, fun h => by (rcases h with h | h; (rcases hin10 x h with h | h; (have := HA1B.out x h; have := (HB7.out x hx).1; omega); (have := (HB7.out x hx).2; omega)); (have := HA2B.out x h; have := (HB7.out x hx).1; omega))⟩); have hbase11 : w.heap.size ≤ (w10.alloc (.cells #[.int .u16 (ch : Int), .slice A7 bl c7] 39)).heap.size := (by rw [World.size_alloc]; omega))
                | (at_builtin; refine wpList_frs (base := w.heap.size) (Z := Bof A3) (ch := ch) rfl _ _ rfl rfl hfr11 rfl hcell11 hcell12 hrd11 hc7 hB11 (by omega) hbase11 ?_; intro A4 c4 w12 hf12 hb12 ho12 hin12)
                | fail)
              have HKF12 := Lib.hid (KF.both hk10 hne10 (ba (Below.refl _ _) (.cells #[.int .u16 (ch : Int), .slice A7 bl c7] 39)) hf12 ho12 hin12)
              have hbase10x : w.heap.size ≤ w10.heap.size := Nat.le_trans hbase9 hs10
              have hlow : Below w.heap.size ((w7.alloc (.cells #[.int .u16 (ch : Int), .slice A7 bl c7] 39)).alloc (.cells #[.int .u8 (k : Int)] 5)) w12 := (hb10.alloc hbase10x _).trans hb12
              have HI12 := Lib.hid (In.low HIN9.out hlow HGL.out.1 HGL.out.2)
              have HO12 := Lib.hid (Off.low ((HOY.out.trans HO7.out).trans HOF9.out) hlow)
              clear hlow hb12 ho12 hin12 hf12 hb10 ho10 hin10 hk10 hne10 hfr10 hfr11 hrd11 hcell11 hcell12 hB11 hx10 y0 y1 z0 z1
              go_roundw
              case rel => exact ⟨rfl, E' ++ [evN s'], next s', A3, n' + 1, c3, A4, c4, rfl, rfl, by rw [next_most]; exact HSMY.out, HREL2.out, HI12.out, by rw [HEV.out]; exact HKF12.out, HO12.out⟩
              case measure => rw [heldN_in HI12.out, HME.out]; have := HNN.out.2; omega
            · skip
              obtain ⟨k, hk⟩ : ∃ k, kind s' = k := ⟨_, rfl⟩
              obtain ⟨ch, hch⟩ : ∃ ch, chN s' = ch := ⟨_, rfl⟩
              obtain ⟨bl, hblen⟩ : ∃ bl, (bdN s').length = bl := ⟨_, rfl⟩
              have hkv : k = 3 := by omega
              have hk256 : k < 256 := by omega
              have e1 : ((k : Int) == 0) = false := by simp; omega
              have e2 : decide (3 < (k : Int)) = false := by simp; omega
              have e3 : ((k : Int) == 3) = true := by simp; omega
              have hev : evN s' = (k, ch, bdN s') := by unfold evN; rw [hk, hch]
              have HEV := Lib.hid hev
              have HN := Lib.hid (next_at HIY.out (k : Int) (ch : Int) bl (bdN s') (next s') (by rw [hk]) (by rw [hch]) rfl hblen rfl)
              have hcnt : n' ≤ 16385 := by
                have h1 := HRELY.out.len
                have h2 := HKY.out.kin.len
                rw [List.length_map] at h2
                have := HBL.out
                omega
              have HEND := Lib.hid (HRELY.out.bad (by omega))
              clear hk hch hblen hkv hev hkc
              go_wp2_with fail
              (with_reducible refine HN.out.mono ?_)
              rintro e w7 ⟨A7, c7, rfl, hO7, hi7, ho7⟩
              have hs7 := ho7.size
              have HI7 := Lib.hid hi7
              have HO7 := Lib.hid ho7
              have HOW7 := Lib.hid hO7
              have hc7 := hO7.cap.1
              have hkf7 := HKY.out.off ho7 (fun i e => by have := HGL.out; rcases e with e | e <;> omega)
              have hkf8 := hkf7.call (ba (Below.refl _ _) (.cells #[.int .u16 (ch : Int), .slice A7 bl c7] 39))
              have hkf9 := hkf8.call (ba (Below.refl _ _) (.cells #[.int .u8 (k : Int)] 5))
              have HKF9 := Lib.hid hkf9
              have hx8 : BxF (w7.alloc (.cells #[.int .u16 (ch : Int), .slice A7 bl c7] 39)) w7.heap.size ch A7 bl c7 := heap_alloc_new w7 _
              have hx9 := hx8.call (ba (Below.refl _ _) (.cells #[.int .u8 (k : Int)] 5))
              have hcell9 : ((w7.alloc (.cells #[.int .u16 (ch : Int), .slice A7 bl c7] 39)).alloc (.cells #[.int .u8 (k : Int)] 5)).cell? ⟨w7.heap.size + 1, 0, none⟩ = some (.int .u8 (k : Int)) := by
                rw [World.cell?_alloc_at _ _ _ _ (by rw [World.size_alloc])]; rfl
              have hbase9 : w.heap.size ≤ ((w7.alloc (.cells #[.int .u16 (ch : Int), .slice A7 bl c7] 39)).alloc (.cells #[.int .u8 (k : Int)] 5)).heap.size := by have := HOY.out.size; simp; omega
              have hsz9 : ((w7.alloc (.cells #[.int .u16 (ch : Int), .slice A7 bl c7] 39)).alloc (.cells #[.int .u8 (k : Int)] 5)).heap.size = w7.heap.size + 2 := by simp
              have HX9 := Lib.hid hx9
              have HOF9 := Lib.hid (((Off.refl (Xi g h) w7).alloc (.cells #[.int .u16 (ch : Int), .slice A7 bl c7] 39)).alloc (.cells #[.int .u8 (k : Int)] 5))
              have HRD9 := Lib.hid ((hO7.rd.call (ba (Below.refl _ _) (.cells #[.int .u16 (ch : Int), .slice A7 bl c7] 39))).call (ba (Below.refl _ _) (.cells #[.int .u8 (k : Int)] 5)))
              have hin9 := HI7.out.call (ba (ba (Below.refl _ _) (.cells #[.int .u16 (ch : Int), .slice A7 bl c7] 39)) (.cells #[.int .u8 (k : Int)] 5))
              obtain ⟨z0, z1, _, _⟩ := hx8.all
              have HIN9 := Lib.hid hin9
              have hkin9 := hkf9.kin
              have hA2b : ∀ x, Bof A2' x → x < wy.heap.size := fun x hx => (HKY.out.frs.blk hx).2
              have hA1b : ∀ x, Bof A1' x → x < wy.heap.size := fun x hx => (HKY.out.blk1 hx).2
              have hB7 : ∀ x, Bof A7 x → wy.heap.size ≤ x ∧ x < w7.heap.size := fun x ⟨o, e⟩ => hO7.blk x (by rw [e]; rfl)
              have HA2B := Lib.hid hA2b
              have HA1B := Lib.hid hA1b
              have HB7 := Lib.hid hB7
              have hbw7 : w.heap.size ≤ wy.heap.size := HOY.out.size
              clear hx8 hx9 hi7 ho7 hO7 hkf7 hkf8 hkf9 hin9 hA2b hA1b hB7
              go_wp2_with (first
                | (at_builtin; refine wpList_kind (base := w.heap.size) (k := k) rfl _ _ rfl rfl hkin9 rfl hcell9 hk256 (by omega) hbase9 ?_; intro A3 c3 w10 hk10 hb10 ho10 hin10; obtain ⟨hfr10, hne10⟩ := HKF9.out.kind ho10 hin10; have hs10 := ho10.size; have hx10 := BxF.off HX9.out ho10 (fun h => by have := HA1B.out _ h; omega); obtain ⟨y0, y1, _, _⟩ := hx10.all; have hcell11 : (w10.alloc (.cells #[.int .u16 (ch : Int), .slice A7 bl c7] 39)).cell? ⟨w10.heap.size, 0, none⟩ = some (.int .u16 (ch : Int)) := (by rw [World.cell?_alloc_at _ _ _ _ rfl]; rfl); have hcell12 : (w10.alloc (.cells #[.int .u16 (ch : Int), .slice A7 bl c7] 39)).cell? ⟨w10.heap.size, 1, none⟩ = some (.slice A7 bl c7) := (by rw [World.cell?_alloc_at _ _ _ _ rfl]; rfl); have hfr11 := hfr10.call (ba (Below.refl _ _) (.cells #[.int .u16 (ch : Int), .slice A7 bl c7] 39)); have hrd11 := ((ho10.rd HRD9.out (fun x o e => ⟨by have := (HB7.out x ⟨o, e⟩).2; omega, fun h => by have := (HB7.out x ⟨o, e⟩).1; have := HA1B.out x h; omega⟩)).mono hs10).call (ba (Below.refl _ _) (.cells #[.int .u16 (ch : Int), .slice A7 bl c7] 39)); have hB11 : ∀ x, Bof A7 x → w.heap.size ≤ x ∧ x < (w10.alloc (.cells #[.int .u16 (ch : Int), .slice A7 bl c7] 39)).heap.size ∧ ¬ (Bof A3 x ∨ Bof A2' x) := (fun x hx => ⟨by have := (HB7.out x hx).1; omega, by have := (HB7.out x hx).2; rw [World.size_alloc]; omega, fun h => by (rcases h with h | h; (rcases hin10 x h with h | h; (have := HA1B.out x h; have := (HB7.out x hx).1; omega); (have := (HB7.out x hx).2; omega)); (have := HA2B.out x h; have := (HB7.out x hx).1; omega))⟩); have hbase11 : w.heap.size ≤ (w10.alloc (.cells #[.int .u16 (ch : Int), .slice A7 bl c7] 39)).heap.size := (by rw [World.size_alloc]; omega))
                | (at_builtin; refine wpList_frs (base := w.heap.size) (Z := Bof A3) (ch := ch) rfl _ _ rfl rfl hfr11 rfl hcell11 hcell12 hrd11 hc7 hB11 (by omega) hbase11 ?_; intro A4 c4 w12 hf12 hb12 ho12 hin12)
                | fail)
              have HKF12 := Lib.hid (KF.both hk10 hne10 (ba (Below.refl _ _) (.cells #[.int .u16 (ch : Int), .slice A7 bl c7] 39)) hf12 ho12 hin12)
              have hbase10x : w.heap.size ≤ w10.heap.size := Nat.le_trans hbase9 hs10
              have hlow : Below w.heap.size ((w7.alloc (.cells #[.int .u16 (ch : Int), .slice A7 bl c7] 39)).alloc (.cells #[.int .u8 (k : Int)] 5)) w12 := (hb10.alloc hbase10x _).trans hb12
              have HI12 := Lib.hid (In.low HIN9.out hlow HGL.out.1 HGL.out.2)
              have HO12 := Lib.hid (Off.low ((HOY.out.trans HO7.out).trans HOF9.out) hlow)
              clear hlow hb12 ho12 hin12 hf12 hb10 ho10 hin10 hk10 hne10 hfr10 hfr11 hrd11 hcell11 hcell12 hB11 hx10 y0 y1 z0 z1
              go_wp2
              refine bodyPost_ret (v := .tuple #[.slice A3 (n' + 1) c3, .slice A4 (n' + 1) c4, .int .i64 (at2 : Int)]) (by simp [results, Try.results23, go_sem]) rfl ?_
              exact ⟨A3, n' + 1, c3, A4, c4, at2, rfl, by rw [← HSMY.out, HEND.out, HEV.out]; exact HKF12.out, HO12.out⟩
      · have d2 : decide ((j : Int) < (np : Int)) = false := by simp; omega
        obtain ⟨AT, hAT⟩ : ∃ AT, at_ + d = AT := ⟨_, rfl⟩
        have hATi : (at_ : Int) + (d : Int) = (AT : Int) := by omega
        have hATw : IntKind.i64.wrap ((at_ : Int) + (d : Int)) = (AT : Int) := by rw [hATi]; exact IntWalk.i64_in _ (by omega)
        obtain ⟨AA, cc, hcc, q1, q2, hcut⟩ := cut_mix .i64 .i64 A N c at_ AT (by omega) (by omega) hNc
        rw [show AT - at_ = d by omega] at hcc q1 q2 hcut
        have q1' : ∀ W : World, (Instr.slice 24 (.slice A N c) (some (.int .i64 (at_ : Int))) (some (.int .i64 (AT : Int))) none).run Try.prog W = .ok (.slice AA d cc) W := fun W => q1 W
        have q2' : ∀ W : World, (Instr.sliceAt 24 (.slice A N c) (some (.int .i64 (at_ : Int))) (some (.int .i64 (AT : Int))) none).run Try.prog W = .ok (.slice AA d cc) W := fun W => q2 W
        have hrA := (HR.out.keep (HOLD.out _ HO.out)).mono (HBW.out _ HO.out)
        have hrT := hcut _ _ _ hrA
        obtain ⟨rm, hrm⟩ : ∃ rm, room s = rm := ⟨_, rfl⟩
        obtain ⟨tk, htk⟩ : ∃ tk, min d rm = tk := ⟨_, rfl⟩
        have hrm0 : 0 < rm := by rw [← hrm]; exact room_none HIX.out.ok HK0.out
        have htk0 : 1 ≤ tk ∧ tk ≤ d := by omega
        obtain ⟨at2, hat2⟩ : ∃ at2, at_ + tk = at2 := ⟨_, rfl⟩
        have ha2i : (at_ : Int) + (tk : Int) = (at2 : Int) := by omega
        have ha2w : IntKind.i64.wrap ((at_ : Int) + (tk : Int)) = (at2 : Int) := by rw [ha2i]; exact IntWalk.i64_in _ (by omega)
        have htkz : ((tk : Int) == 0) = false := by simp; omega
        have htkn : ¬ tk = 0 := by omega
        have htkb : (tk == 0) = false := by simp; omega
        have HPT := Lib.hid (put_s HIX.out hrT hcc (by omega) _ (tk : Int) rfl (by rw [hrm, htk]))
        have HREL1 := Lib.hid (by have := HREL.out.put d; rw [hrm, htk, hat2] at this; exact this : Rel b E (put s ((b.drop at_).take d)) at2)
        have HAT2 : Hid (at2 ≤ N ∧ j + 1 ≤ at2) := Lib.hid (by omega)
        have HLT2 : Hid (at_ < at2 ∧ at2 ≤ N) := Lib.hid (by omega)
        have hj64 : (j : Int) < 16384 := by omega
        have ha264 : at2 ≤ 16384 := by omega
        clear hcut hrA hrT hrm htk hrm0 htk0 hat2 q1 q2
        go_wp2_with (first
          | (go_at_call 14; (with_reducible refine HPT.out.mono ?_); rintro e w4 ⟨rfl, hi4, ho4⟩)
          | fail)
        have HI4 := Lib.hid hi4
        have HK4 := Lib.hid (HKF.out.off ho4 (fun i e => by have := HGL.out; rcases e with e | e <;> omega))
        have HO4 := Lib.hid (HO.out.trans ho4)
        clear hi4 ho4 ha2i ha2w hATi hATw hdi hdw
        go_loopw [9, 10, 15] (fun kn fr bd wx => bd = .bool false ∧ ∃ (E' : List Ev) (s' : St) (A1' : Option Addr) (n' c1' : Nat) (A2' : Option Addr) (c2' : Nat), kn = .slice A1' n' c1' ∧ fr = .slice A2' n' c2' ∧ s'.most = m ∧ Rel b E' s' at2 ∧ In wx g h s' ∧ KF wx w.heap.size A1' n' c1' A2' c2' E' ∧ Off (Xi g h) w wx) (fun _ _ _ wx => heldN wx g)
        case atStart => exact ⟨rfl, E, put s ((b.drop at_).take d), A1, n, c1, A2, c2, rfl, rfl, HSM.out, HREL1.out, HI4.out, HK4.out, HO4.out⟩
        case round =>
          obtain ⟨rfl, E', s', A1', n', c1', A2', c2', rfl, rfl, hsm, hrel, hi, hkf, ho⟩ := hrel
          rename World => wy
          have HME := Lib.hid (heldN_in hi)
          have HIY := Lib.hid hi
          have HKY := Lib.hid hkf
          have HOY := Lib.hid ho
          have HRELY := Lib.hid hrel
          have HSMY := Lib.hid hsm
          clear hi hkf ho hrel hsm
          have hcases : kind s' = 0 ∨ (kind s' = 1 ∨ kind s' = 2) ∨ kind s' = 3 := by have := kind_cases s'; omega
          rcases hcases with hkc | hkc | hkc
          · skip
            have HN := Lib.hid (next_at HIY.out 0 0 0 [] s' (by rw [hkc]; rfl) (chN0 (by omega)) (bdN0 (by omega)) rfl (next_none hkc))
            have HK00 := Lib.hid hkc
            clear hkc
            go_wp2_with (first
              | (go_at_call 17; (with_reducible refine HN.out.mono ?_); rintro e w7 ⟨A7, c7, rfl, _, hi7, ho7⟩; have HI7 := Lib.hid (hi7.call (ba (Below.refl _ _) (.cells #[.int .u16 0, .slice A7 0 c7] 39))); have HO7 := Lib.hid ((HOY.out.trans ho7).alloc (.cells #[.int .u16 0, .slice A7 0 c7] 39)); have HK7 := Lib.hid ((HKY.out.off ho7 (fun i e => by have := HGL.out; rcases e with e | e <;> omega)).call (ba (Below.refl _ _) (.cells #[.int .u16 0, .slice A7 0 c7] 39))))
              | fail)
            go_roundw
            case rel => exact ⟨E', s', at2, j + 1, A1', n', c1', A2', c2', rfl, rfl, rfl, by go_num, HAT2.out.1, HAT2.out.2, HSMY.out, HK00.out, HRELY.out, HI7.out, HK7.out, HO7.out⟩
            case measure => have := HLT2.out; simp [intOf]; omega
          · skip
            obtain ⟨k, hk⟩ : ∃ k, kind s' = k := ⟨_, rfl⟩
            obtain ⟨ch, hch⟩ : ∃ ch, chN s' = ch := ⟨_, rfl⟩
            obtain ⟨bl, hblen⟩ : ∃ bl, (bdN s').length = bl := ⟨_, rfl⟩
            have hkv : k = 1 ∨ k = 2 := by omega
            have hk256 : k < 256 := by omega
            have e1 : ((k : Int) == 0) = false := by simp; omega
            have e2 : decide (3 < (k : Int)) = false := by simp; omega
            have e3 : ((k : Int) == 3) = false := by simp; omega
            have hev : evN s' = (k, ch, bdN s') := by unfold evN; rw [hk, hch]
            have HEV := Lib.hid hev
            have HN := Lib.hid (next_at HIY.out (k : Int) (ch : Int) bl (bdN s') (next s') (by rw [hk]) (by rw [hch]) rfl hblen rfl)
            have hcnt : n' ≤ 16385 := by
              have h1 := HRELY.out.len
              have h2 := HKY.out.kin.len
              rw [List.length_map] at h2
              have := HBL.out
              omega
            have HREL2 := Lib.hid (HRELY.out.next (by rw [hk]; exact hkv))
            have HNN := Lib.hid (next_on (s := s') (by rw [hk]; exact hkv))
            clear hk hch hblen hkv hev hkc
            go_wp2_with fail
            (with_reducible refine HN.out.mono ?_)
            rintro e w7 ⟨A7, c7, rfl, hO7, hi7, ho7⟩
            have hs7 := ho7.size
            have HI7 := Lib.hid hi7
            have HO7 := Lib.hid ho7
            have HOW7 := Lib.hid hO7
            have hc7 := hO7.cap.1
            have hkf7 := HKY.out.off ho7 (fun i e => by have := HGL.out; rcases e with e | e <;> omega)
            have hkf8 := hkf7.call (ba (Below.refl _ _) (.cells #[.int .u16 (ch : Int), .slice A7 bl c7] 39))
            have hkf9 := hkf8.call (ba (Below.refl _ _) (.cells #[.int .u8 (k : Int)] 5))
            have HKF9 := Lib.hid hkf9
            have hx8 : BxF (w7.alloc (.cells #[.int .u16 (ch : Int), .slice A7 bl c7] 39)) w7.heap.size ch A7 bl c7 := heap_alloc_new w7 _
            have hx9 := hx8.call (ba (Below.refl _ _) (.cells #[.int .u8 (k : Int)] 5))
            have hcell9 : ((w7.alloc (.cells #[.int .u16 (ch : Int), .slice A7 bl c7] 39)).alloc (.cells #[.int .u8 (k : Int)] 5)).cell? ⟨w7.heap.size + 1, 0, none⟩ = some (.int .u8 (k : Int)) := by
              rw [World.cell?_alloc_at _ _ _ _ (by rw [World.size_alloc])]; rfl
            have hbase9 : w.heap.size ≤ ((w7.alloc (.cells #[.int .u16 (ch : Int), .slice A7 bl c7] 39)).alloc (.cells #[.int .u8 (k : Int)] 5)).heap.size := by have := HOY.out.size; simp; omega
            have hsz9 : ((w7.alloc (.cells #[.int .u16 (ch : Int), .slice A7 bl c7] 39)).alloc (.cells #[.int .u8 (k : Int)] 5)).heap.size = w7.heap.size + 2 := by simp
            have HX9 := Lib.hid hx9
            have HOF9 := Lib.hid (((Off.refl (Xi g h) w7).alloc (.cells #[.int .u16 (ch : Int), .slice A7 bl c7] 39)).alloc (.cells #[.int .u8 (k : Int)] 5))
            have HRD9 := Lib.hid ((hO7.rd.call (ba (Below.refl _ _) (.cells #[.int .u16 (ch : Int), .slice A7 bl c7] 39))).call (ba (Below.refl _ _) (.cells #[.int .u8 (k : Int)] 5)))
            have hin9 := HI7.out.call (ba (ba (Below.refl _ _) (.cells #[.int .u16 (ch : Int), .slice A7 bl c7] 39)) (.cells #[.int .u8 (k : Int)] 5))
            obtain ⟨z0, z1, _, _⟩ := hx8.all
            have HIN9 := Lib.hid hin9
            have hkin9 := hkf9.kin
            have hA2b : ∀ x, Bof A2' x → x < wy.heap.size := fun x hx => (HKY.out.frs.blk hx).2
            have hA1b : ∀ x, Bof A1' x → x < wy.heap.size := fun x hx => (HKY.out.blk1 hx).2
            have hB7 : ∀ x, Bof A7 x → wy.heap.size ≤ x ∧ x < w7.heap.size := fun x ⟨o, e⟩ => hO7.blk x (by rw [e]; rfl)
            have HA2B := Lib.hid hA2b
            have HA1B := Lib.hid hA1b
            have HB7 := Lib.hid hB7
            have hbw7 : w.heap.size ≤ wy.heap.size := HOY.out.size
            clear hx8 hx9 hi7 ho7 hO7 hkf7 hkf8 hkf9 hin9 hA2b hA1b hB7
            go_wp2_with (first
              | (at_builtin; refine wpList_kind (base := w.heap.size) (k := k) rfl _ _ rfl rfl hkin9 rfl hcell9 hk256 (by omega) hbase9 ?_; intro A3 c3 w10 hk10 hb10 ho10 hin10; obtain ⟨hfr10, hne10⟩ := HKF9.out.kind ho10 hin10; have hs10 := ho10.size; have hx10 := BxF.off HX9.out ho10 (fun h => by have := HA1B.out _ h; omega); obtain ⟨y0, y1, _, _⟩ := hx10.all; have hcell11 : (w10.alloc (.cells #[.int .u16 (ch : Int), .slice A7 bl c7] 39)).cell? ⟨w10.heap.size, 0, none⟩ = some (.int .u16 (ch : Int)) := (by rw [World.cell?_alloc_at _ _ _ _ rfl]; rfl); have hcell12 : (w10.alloc (.cells #[.int .u16 (ch : Int), .slice A7 bl c7] 39)).cell? ⟨w10.heap.size, 1, none⟩ = some (.slice A7 bl c7) := (by rw [World.cell?_alloc_at _ _ _ _ rfl]; rfl); have hfr11 := hfr10.call (ba (Below.refl _ _) (.cells #[.int .u16 (ch : Int), .slice A7 bl c7] 39)); have hrd11 := ((ho10.rd HRD9.out (fun x o e => ⟨by have := (HB7.out x ⟨o, e⟩).2; omega, fun h => by have := (HB7.out x ⟨o, e⟩).1; have := HA1B.out x h; omega⟩)).mono hs10).call (ba (Below.refl _ _) (.cells #[.int .u16 (ch : Int), .slice A7 bl c7] 39)); have hB11 : ∀ x, Bof A7 x → w.heap.size ≤ x ∧ x < (w10.alloc (.cells #[.int .u16 (ch : Int), .slice A7 bl c7] 39)).heap.size ∧ ¬ (Bof A3 x ∨ Bof A2' x) := (fun x hx => ⟨by have := (HB7.out x hx).1; omega, by have := (HB7.out x hx).2; rw [World.size_alloc]; omega, fun h => by (rcases h with h | h; (rcases hin10 x h with h | h; (have := HA1B.out x h; have := (HB7.out x hx).1; omega); (have := (HB7.out x hx).2; omega)); (have := HA2B.out x h; have := (HB7.out x hx).1; omega))⟩); have hbase11 : w.heap.size ≤ (w10.alloc (.cells #[.int .u16 (ch : Int), .slice A7 bl c7] 39)).heap.size := (by rw [World.size_alloc]; omega))
              | (at_builtin; refine wpList_frs (base := w.heap.size) (Z := Bof A3) (ch := ch) rfl _ _ rfl rfl hfr11 rfl hcell11 hcell12 hrd11 hc7 hB11 (by omega) hbase11 ?_; intro A4 c4 w12 hf12 hb12 ho12 hin12)
              | fail)
            have HKF12 := Lib.hid (KF.both hk10 hne10 (ba (Below.refl _ _) (.cells #[.int .u16 (ch : Int), .slice A7 bl c7] 39)) hf12 ho12 hin12)
            have hbase10x : w.heap.size ≤ w10.heap.size := Nat.le_trans hbase9 hs10
            have hlow : Below w.heap.size ((w7.alloc (.cells #[.int .u16 (ch : Int), .slice A7 bl c7] 39)).alloc (.cells #[.int .u8 (k : Int)] 5)) w12 := (hb10.alloc hbase10x _).trans hb12
            have HI12 := Lib.hid (In.low HIN9.out hlow HGL.out.1 HGL.out.2)
            have HO12 := Lib.hid (Off.low ((HOY.out.trans HO7.out).trans HOF9.out) hlow)
            clear hlow hb12 ho12 hin12 hf12 hb10 ho10 hin10 hk10 hne10 hfr10 hfr11 hrd11 hcell11 hcell12 hB11 hx10 y0 y1 z0 z1
            go_roundw
            case rel => exact ⟨rfl, E' ++ [evN s'], next s', A3, n' + 1, c3, A4, c4, rfl, rfl, by rw [next_most]; exact HSMY.out, HREL2.out, HI12.out, by rw [HEV.out]; exact HKF12.out, HO12.out⟩
            case measure => rw [heldN_in HI12.out, HME.out]; have := HNN.out.2; omega
          · skip
            obtain ⟨k, hk⟩ : ∃ k, kind s' = k := ⟨_, rfl⟩
            obtain ⟨ch, hch⟩ : ∃ ch, chN s' = ch := ⟨_, rfl⟩
            obtain ⟨bl, hblen⟩ : ∃ bl, (bdN s').length = bl := ⟨_, rfl⟩
            have hkv : k = 3 := by omega
            have hk256 : k < 256 := by omega
            have e1 : ((k : Int) == 0) = false := by simp; omega
            have e2 : decide (3 < (k : Int)) = false := by simp; omega
            have e3 : ((k : Int) == 3) = true := by simp; omega
            have hev : evN s' = (k, ch, bdN s') := by unfold evN; rw [hk, hch]
            have HEV := Lib.hid hev
            have HN := Lib.hid (next_at HIY.out (k : Int) (ch : Int) bl (bdN s') (next s') (by rw [hk]) (by rw [hch]) rfl hblen rfl)
            have hcnt : n' ≤ 16385 := by
              have h1 := HRELY.out.len
              have h2 := HKY.out.kin.len
              rw [List.length_map] at h2
              have := HBL.out
              omega
            have HEND := Lib.hid (HRELY.out.bad (by omega))
            clear hk hch hblen hkv hev hkc
            go_wp2_with fail
            (with_reducible refine HN.out.mono ?_)
            rintro e w7 ⟨A7, c7, rfl, hO7, hi7, ho7⟩
            have hs7 := ho7.size
            have HI7 := Lib.hid hi7
            have HO7 := Lib.hid ho7
            have HOW7 := Lib.hid hO7
            have hc7 := hO7.cap.1
            have hkf7 := HKY.out.off ho7 (fun i e => by have := HGL.out; rcases e with e | e <;> omega)
            have hkf8 := hkf7.call (ba (Below.refl _ _) (.cells #[.int .u16 (ch : Int), .slice A7 bl c7] 39))
            have hkf9 := hkf8.call (ba (Below.refl _ _) (.cells #[.int .u8 (k : Int)] 5))
            have HKF9 := Lib.hid hkf9
            have hx8 : BxF (w7.alloc (.cells #[.int .u16 (ch : Int), .slice A7 bl c7] 39)) w7.heap.size ch A7 bl c7 := heap_alloc_new w7 _
            have hx9 := hx8.call (ba (Below.refl _ _) (.cells #[.int .u8 (k : Int)] 5))
            have hcell9 : ((w7.alloc (.cells #[.int .u16 (ch : Int), .slice A7 bl c7] 39)).alloc (.cells #[.int .u8 (k : Int)] 5)).cell? ⟨w7.heap.size + 1, 0, none⟩ = some (.int .u8 (k : Int)) := by
              rw [World.cell?_alloc_at _ _ _ _ (by rw [World.size_alloc])]; rfl
            have hbase9 : w.heap.size ≤ ((w7.alloc (.cells #[.int .u16 (ch : Int), .slice A7 bl c7] 39)).alloc (.cells #[.int .u8 (k : Int)] 5)).heap.size := by have := HOY.out.size; simp; omega
            have hsz9 : ((w7.alloc (.cells #[.int .u16 (ch : Int), .slice A7 bl c7] 39)).alloc (.cells #[.int .u8 (k : Int)] 5)).heap.size = w7.heap.size + 2 := by simp
            have HX9 := Lib.hid hx9
            have HOF9 := Lib.hid (((Off.refl (Xi g h) w7).alloc (.cells #[.int .u16 (ch : Int), .slice A7 bl c7] 39)).alloc (.cells #[.int .u8 (k : Int)] 5))
            have HRD9 := Lib.hid ((hO7.rd.call (ba (Below.refl _ _) (.cells #[.int .u16 (ch : Int), .slice A7 bl c7] 39))).call (ba (Below.refl _ _) (.cells #[.int .u8 (k : Int)] 5)))
            have hin9 := HI7.out.call (ba (ba (Below.refl _ _) (.cells #[.int .u16 (ch : Int), .slice A7 bl c7] 39)) (.cells #[.int .u8 (k : Int)] 5))
            obtain ⟨z0, z1, _, _⟩ := hx8.all
            have HIN9 := Lib.hid hin9
            have hkin9 := hkf9.kin
            have hA2b : ∀ x, Bof A2' x → x < wy.heap.size := fun x hx => (HKY.out.frs.blk hx).2
            have hA1b : ∀ x, Bof A1' x → x < wy.heap.size := fun x hx => (HKY.out.blk1 hx).2
            have hB7 : ∀ x, Bof A7 x → wy.heap.size ≤ x ∧ x < w7.heap.size := fun x ⟨o, e⟩ => hO7.blk x (by rw [e]; rfl)
            have HA2B := Lib.hid hA2b
            have HA1B := Lib.hid hA1b
            have HB7 := Lib.hid hB7
            have hbw7 : w.heap.size ≤ wy.heap.size := HOY.out.size
            clear hx8 hx9 hi7 ho7 hO7 hkf7 hkf8 hkf9 hin9 hA2b hA1b hB7
            go_wp2_with (first
              | (at_builtin; refine wpList_kind (base := w.heap.size) (k := k) rfl _ _ rfl rfl hkin9 rfl hcell9 hk256 (by omega) hbase9 ?_; intro A3 c3 w10 hk10 hb10 ho10 hin10; obtain ⟨hfr10, hne10⟩ := HKF9.out.kind ho10 hin10; have hs10 := ho10.size; have hx10 := BxF.off HX9.out ho10 (fun h => by have := HA1B.out _ h; omega); obtain ⟨y0, y1, _, _⟩ := hx10.all; have hcell11 : (w10.alloc (.cells #[.int .u16 (ch : Int), .slice A7 bl c7] 39)).cell? ⟨w10.heap.size, 0, none⟩ = some (.int .u16 (ch : Int)) := (by rw [World.cell?_alloc_at _ _ _ _ rfl]; rfl); have hcell12 : (w10.alloc (.cells #[.int .u16 (ch : Int), .slice A7 bl c7] 39)).cell? ⟨w10.heap.size, 1, none⟩ = some (.slice A7 bl c7) := (by rw [World.cell?_alloc_at _ _ _ _ rfl]; rfl); have hfr11 := hfr10.call (ba (Below.refl _ _) (.cells #[.int .u16 (ch : Int), .slice A7 bl c7] 39)); have hrd11 := ((ho10.rd HRD9.out (fun x o e => ⟨by have := (HB7.out x ⟨o, e⟩).2; omega, fun h => by have := (HB7.out x ⟨o, e⟩).1; have := HA1B.out x h; omega⟩)).mono hs10).call (ba (Below.refl _ _) (.cells #[.int .u16 (ch : Int), .slice A7 bl c7] 39)); have hB11 : ∀ x, Bof A7 x → w.heap.size ≤ x ∧ x < (w10.alloc (.cells #[.int .u16 (ch : Int), .slice A7 bl c7] 39)).heap.size ∧ ¬ (Bof A3 x ∨ Bof A2' x) := (fun x hx => ⟨by have := (HB7.out x hx).1; omega, by have := (HB7.out x hx).2; rw [World.size_alloc]; omega, fun h => by (rcases h with h | h; (rcases hin10 x h with h | h; (have := HA1B.out x h; have := (HB7.out x hx).1; omega); (have := (HB7.out x hx).2; omega)); (have := HA2B.out x h; have := (HB7.out x hx).1; omega))⟩); have hbase11 : w.heap.size ≤ (w10.alloc (.cells #[.int .u16 (ch : Int), .slice A7 bl c7] 39)).heap.size := (by rw [World.size_alloc]; omega))
              | (at_builtin; refine wpList_frs (base := w.heap.size) (Z := Bof A3) (ch := ch) rfl _ _ rfl rfl hfr11 rfl hcell11 hcell12 hrd11 hc7 hB11 (by omega) hbase11 ?_; intro A4 c4 w12 hf12 hb12 ho12 hin12)
              | fail)
            have HKF12 := Lib.hid (KF.both hk10 hne10 (ba (Below.refl _ _) (.cells #[.int .u16 (ch : Int), .slice A7 bl c7] 39)) hf12 ho12 hin12)
            have hbase10x : w.heap.size ≤ w10.heap.size := Nat.le_trans hbase9 hs10
            have hlow : Below w.heap.size ((w7.alloc (.cells #[.int .u16 (ch : Int), .slice A7 bl c7] 39)).alloc (.cells #[.int .u8 (k : Int)] 5)) w12 := (hb10.alloc hbase10x _).trans hb12
            have HI12 := Lib.hid (In.low HIN9.out hlow HGL.out.1 HGL.out.2)
            have HO12 := Lib.hid (Off.low ((HOY.out.trans HO7.out).trans HOF9.out) hlow)
            clear hlow hb12 ho12 hin12 hf12 hb10 ho10 hin10 hk10 hne10 hfr10 hfr11 hrd11 hcell11 hcell12 hB11 hx10 y0 y1 z0 z1
            go_wp2
            refine bodyPost_ret (v := .tuple #[.slice A3 (n' + 1) c3, .slice A4 (n' + 1) c4, .int .i64 (at2 : Int)]) (by simp [results, Try.results23, go_sem]) rfl ?_
            exact ⟨A3, n' + 1, c3, A4, c4, at2, rfl, by rw [← HSMY.out, HEND.out, HEV.out]; exact HKF12.out, HO12.out⟩
    · obtain rfl : at_ = N := by omega
      have d1 : decide ((at_ : Int) < (at_ : Int)) = false := by simp
      have HALL := Lib.hid (HREL.out.all HK0.out (by rw [HBL.out]; exact Nat.le_refl _))
      go_wp2
      refine bodyPost_ret (v := .tuple #[.slice A1 n c1, .slice A2 n c2, .int .i64 (at_ : Int)]) (by simp [results, Try.results23, go_sem]) rfl ?_
      exact ⟨A1, n, c1, A2, c2, at_, rfl, by rw [← HSM.out, HALL.out]; exact HKF.out, HO.out⟩
end Go.Proofs.Ytdjncacknmejoaa.It
