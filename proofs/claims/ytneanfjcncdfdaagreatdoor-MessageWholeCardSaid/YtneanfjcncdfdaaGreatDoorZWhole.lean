/-
  Contracts of functions and plain mathematics, text by text, each with its conditions ahead of it:
  What the walk of MessageWhole asks of Get, and of values one behind the other. Memory that was there stays. Condition: the table utf.shapes lies as the program's text lays it.
  The statement MessageWhole, walked: it answers true. Memory that was there stays. Condition: the table utf.shapes lies as the program's text lays it.
  The statement MessageWhole: a message's bytes are values, one behind the other, and nothing else: cut within one, or with a piece of one behind them, they are none. Condition, as the card has it: the table utf.shapes lies as the program's text lays it.
-/
import Derived.Test.YtneanfjcncdfdaaGreatDoorY24
import Derived.Test.YtneanfjcncdfdaaGreatDoorY25

section
namespace Go.Proofs.YtneanfjcncdfdaaGreatDoor.Me
set_option maxRecDepth 100000
open Go.RowKit Utf Val Fl Dec V
open Enc (lay plan)
/-- Values stand one behind the other up to the end. -/
def Far (b : List Nat) : Prop := ∃ N, farN N b = b.length
theorem far_step {b : List Nat} (h : Far b) (hb : b ≠ []) : (decD b).2.2 = 0 ∧ 1 ≤ (decD b).2.1 ∧ (decD b).2.1 ≤ b.length ∧ Far (b.drop (decD b).2.1) := by
  obtain ⟨N, h⟩ := h
  cases b with
  | nil => exact absurd rfl hb
  | cons x b =>
    cases N with
    | zero =>
      have h : 0 = (x :: b).length := h
      simp at h
    | succ N =>
      have h : (if (decD (x :: b)).2.2 = 0 ∧ 1 ≤ (decD (x :: b)).2.1 then (decD (x :: b)).2.1 + farN N ((x :: b).drop (decD (x :: b)).2.1) else 0) = (x :: b).length := h
      by_cases hc : (decD (x :: b)).2.2 = 0 ∧ 1 ≤ (decD (x :: b)).2.1
      · rw [if_pos hc] at h
        have ha := dec_adv hc.1
        refine ⟨hc.1, hc.2, ha.2, N, ?_⟩
        rw [List.length_drop]
        omega
      · rw [if_neg hc] at h
        simp at h
theorem far_get {b : List Nat} : getM b = none ∨ Far b := by
  unfold getM
  cases h : getN b.length s0 b with
  | none => exact .inl rfl
  | some s => exact .inr ⟨_, farN_all _ _ _ _ h⟩
/-- Get of any bytes: a message and ok, or no message and ErrForm. -/
def GivesE (er : Int) (w : World) (e : Ending) (w' : World) : Prop := ∃ p t n id A l c, e = .returned (.tuple #[.agg #[.int .u8 p, .int .u32 t, .int .u32 n, .string id, .slice A l c], .int .i64 er]) ∧ Below w.heap.size w w'
theorem get_er (A : Option Addr) (n c : Nat) (bs : List Nat) (w : World) (hr : Rd .u8 256 w w.heap.size A n bs) (hc : n ≤ c) (hn : n ≤ 262143) (hTab : Tab w) : Calls Tryz.prog 18 #[.slice A n c] w (GivesE (if getM bs = none then 6 else 0) w) := by
  refine (mget_any A n c bs w hr hc hn hTab).mono fun e w' h => ?_
  cases hg : getM bs with
  | none =>
    rw [hg] at h
    exact ⟨_, _, _, _, _, _, _, h.1, h.2⟩
  | some m =>
    rw [hg] at h
    obtain ⟨A, l, c, h1, _, h3⟩ := h
    exact ⟨_, _, _, _, _, _, _, h1, h3⟩
theorem get_e6 {A : Option Addr} {n c : Nat} {bs : List Nat} {w : World} (hr : Rd .u8 256 w w.heap.size A n bs) (hc : n ≤ c) (hn : n ≤ 262143) (hTab : Tab w) (h : getM bs = none) : Calls Tryz.prog 18 #[.slice A n c] w (GivesE 6 w) := by
  have := get_er A n c bs w hr hc hn hTab
  rwa [if_pos h] at this
theorem get_e0 {A : Option Addr} {n c : Nat} {bs : List Nat} {w : World} (hr : Rd .u8 256 w w.heap.size A n bs) (hc : n ≤ c) (hn : n ≤ 262143) (hTab : Tab w) (h : getM bs ≠ none) : Calls Tryz.prog 18 #[.slice A n c] w (GivesE 0 w) := by
  have := get_er A n c bs w hr hc hn hTab
  rwa [if_neg h] at this
theorem get_any_er (bs : List Nat) : ∃ er : Int, ∀ (A : Option Addr) (n c : Nat) (w : World), Rd .u8 256 w w.heap.size A n bs → n ≤ c → n ≤ 262143 → Tab w → Calls Tryz.prog 18 #[.slice A n c] w (GivesE er w) :=
  ⟨_, fun A n c w h1 h2 h3 h4 => get_er A n c bs w h1 h2 h3 h4⟩
/-- What decode's Value answers, its numbers in the open. -/
def GivesV (fn er : Nat) (w : World) (e : Ending) (w' : World) : Prop := ∃ k n t A l c, e = .returned (.tuple #[.agg #[.int .u8 k, .int .u64 n, .string t, .slice A l c], .int .i64 (fn : Int), .int .i64 (er : Int)]) ∧ Below w.heap.size w w'
theorem dec_er {A : Option Addr} {n c : Nat} {b : List Nat} {w : World} (hr : Rd .u8 256 w w.heap.size A n b) (hc : n ≤ c) (hn : n ≤ 524288) (hTab : Tab w) : Calls Tryz.prog 31 #[.slice A n c] w (GivesV (decD b).2.1 (decD b).2.2 w) := by
  refine (dec_any hr hc hn hTab).mono fun e w' h => ?_
  rcases hd : decD b with ⟨⟨k, n, t, ks⟩, fn, er⟩
  rw [hd] at h
  obtain ⟨A, l, c, h1, _, _, _, h2⟩ := h
  exact ⟨_, _, _, _, _, _, h1, h2⟩
/-- What is kept: the bytes that were put, those that were given. -/
structure WK (w wi : World) (A : Option Addr) (l : Nat) (b : List Nat) (A' : Option Addr) (l' : Nat) (b' : List Nat) : Prop where
  rd : Rd .u8 256 wi wi.heap.size A l b
  rd' : Rd .u8 256 wi wi.heap.size A' l' b'
  tab : Tab wi
  low : Below w.heap.size w wi
section
variable {w wi w' : World} {A : Option Addr} {l : Nat} {b : List Nat} {A' : Option Addr} {l' : Nat} {b' : List Nat}
theorem WK.call (h : WK w wi A l b A' l' b') (hb : Below wi.heap.size wi w') : WK w w' A l b A' l' b' := ⟨h.rd.call hb, h.rd'.call hb, h.tab.call hb, below_next h.low hb⟩
theorem WK.alloc (h : WK w wi A l b A' l' b') (o : Obj) : WK w (wi.alloc o) A l b A' l' b' := h.call ((Below.refl _ _).alloc (Nat.le_refl _) _)
end
end Go.Proofs.YtneanfjcncdfdaaGreatDoor.Me
end
section
namespace Go.Proofs.YtneanfjcncdfdaaGreatDoor.messageWhole
set_option maxRecDepth 100000
open Go.RowKit Utf Val Fl Dec Me V
set_option maxHeartbeats 8000000 in
theorem walk (p ttl n : Nat) (id : ByteArray) (A : Option Addr) (l c : Nat) (b : List Nat) (q : Nat) (A' : Option Addr) (l' c' : Nat) (b' : List Nat) (w : World) (hTab : Tab w) (hp : p < 256) (ht : ttl < 4294967296) (hn : n < 4294967296) (hr : Rd .u8 256 w w.heap.size A l b) (hq : q < 65536) (hr' : Rd .u8 256 w w.heap.size A' l' b') (hc' : l' ≤ c') :
    Calls Tryz.prog 9 #[mV p ttl n id A l c, .int .u16 (q : Int), .slice A' l' c'] w (GivesB true w) := by
  have hb0 : Below w.heap.size w (w.alloc (.cells #[.int .u8 (p : Int), .int .u32 (ttl : Int), .int .u32 (n : Int), .string id, .slice A l c] 25)) := (Below.refl _ _).alloc (Nat.le_refl _) _
  have HB0 := Lib.hid hb0
  have HX0 := Lib.hid (BxM.new w (.int .u8 (p : Int)) (.int .u32 (ttl : Int)) (.int .u32 (n : Int)) (.string id) (.slice A l c))
  have HRB := Lib.hid hr
  have HRM := Lib.hid hr'
  have HTW := Lib.hid hTab
  obtain ⟨d, hd⟩ : ∃ d, (decide (4096 < id.size) || decide (8192 < l)) = d := ⟨_, rfl⟩
  obtain ⟨d', hd'⟩ : ∃ d', decide (1024 < l') = d' := ⟨_, rfl⟩
  have e1 : decide ((1024 : Int) < (l' : Int)) = d' := by rw [← hd']; simp; omega
  have HLG := Lib.hid (fun wx => mlarge_any p ttl n id A l c wx d hd)
  have HP := Lib.hid hp
  have HT := Lib.hid ht
  have HN := Lib.hid hn
  have HQ := Lib.hid hq
  have HC' := Lib.hid hc'
  have HLB' := Lib.hid hr'.len
  have HBY : Hid (∀ x ∈ b, x < 256) := Lib.hid (fun x hx => hr.lim x hx)
  have HWK := Lib.hid (fun wx (h : Tab wx) => works10_any wx h)
  unfold mV at HLG ⊢
  clear hb0 hr hr' hTab hp ht hn hc' hq
  cases d with
  | true =>
    clear hd hd' e1
    go_enter Tryz.func9, Tryz.ntmps9
    go_wp2_with (first
    | (go_at_call 11; (with_reducible refine (HWK.out _ H1.out.2.2.2.1).mono ?_); rintro e w2 ⟨rfl, hb2⟩)
    | (go_at_call 10; (with_reducible refine (HLG.out _).mono ?_); rintro e w1 ⟨rfl, hb1⟩; have hbl := below_next HB0.out hb1; have H1 := Lib.hid (And.intro (HX0.out.call hb1) (And.intro (HRB.out.call hbl) (And.intro (HRM.out.call hbl) (And.intro (HTW.out.call hbl) hbl)))); obtain ⟨t0, t1, t2, t3, t4, tf⟩ := H1.out.1.all; clear hb1 hbl)
      | fail)
    go_ret
    exact ⟨rfl, below_next H1.out.2.2.2.2 hb2⟩
  | false =>
    cases d' with
    | true =>
      clear hd hd'
      go_enter Tryz.func9, Tryz.ntmps9
      go_wp2_with (first
      | (go_at_call 11; (with_reducible refine (HWK.out _ H1.out.2.2.2.1).mono ?_); rintro e w2 ⟨rfl, hb2⟩)
      | (go_at_call 10; (with_reducible refine (HLG.out _).mono ?_); rintro e w1 ⟨rfl, hb1⟩; have hbl := below_next HB0.out hb1; have H1 := Lib.hid (And.intro (HX0.out.call hb1) (And.intro (HRB.out.call hbl) (And.intro (HRM.out.call hbl) (And.intro (HTW.out.call hbl) hbl)))); obtain ⟨t0, t1, t2, t3, t4, tf⟩ := H1.out.1.all; clear hb1 hbl)
        | fail)
      go_ret
      exact ⟨rfl, below_next H1.out.2.2.2.2 hb2⟩
    | false =>
      have hs : id.size ≤ 4096 ∧ l ≤ 8192 := by simp at hd; omega
      have hl' : l' ≤ 1024 := by simp at hd'; omega
      have HS := Lib.hid hs
      have HL' := Lib.hid hl'
      clear hd hd' hs hl'
      cases hm : mayM ⟨p, ttl, n, id, b⟩ with
      | false =>
        have HM := Lib.hid hm
        clear hm
        go_enter Tryz.func9, Tryz.ntmps9
        go_wp2_with (first
        | (go_at_call 11; (with_reducible refine (HWK.out _ (H1.out.2.2.2.1.call hb2)).mono ?_); rintro e w3 ⟨rfl, hb3⟩)
        | (go_at_call 13; (with_reducible refine (put_not p ttl n id A l c b _ HP.out HT.out HN.out HS.out HM.out H1.out.2.1 H1.out.2.2.2.1).mono ?_); rintro e w2 ⟨rfl, hb2⟩)
        | (go_at_call 10; (with_reducible refine (HLG.out _).mono ?_); rintro e w1 ⟨rfl, hb1⟩; have hbl := below_next HB0.out hb1; have H1 := Lib.hid (And.intro (HX0.out.call hb1) (And.intro (HRB.out.call hbl) (And.intro (HRM.out.call hbl) (And.intro (HTW.out.call hbl) hbl)))); obtain ⟨t0, t1, t2, t3, t4, tf⟩ := H1.out.1.all; clear hb1 hbl)
          | fail)
        go_ret
        exact ⟨rfl, below_next (below_next H1.out.2.2.2.2 hb2) hb3⟩
      | true =>
        have HM := Lib.hid hm
        clear hm
        go_enter Tryz.func9, Tryz.ntmps9
        go_wp2_with (first
        | (go_at_call 10; (with_reducible refine (HLG.out _).mono ?_); rintro e w1 ⟨rfl, hb1⟩; have hbl := below_next HB0.out hb1; have H1 := Lib.hid (And.intro (HX0.out.call hb1) (And.intro (HRB.out.call hbl) (And.intro (HRM.out.call hbl) (And.intro (HTW.out.call hbl) hbl)))); obtain ⟨t0, t1, t2, t3, t4, tf⟩ := H1.out.1.all; clear hb1 hbl)
          | fail)
        (with_reducible refine (put_yes p ttl n id A l c b _ HP.out HT.out HN.out HM.out H1.out.2.1 H1.out.2.2.2.1).mono ?_)
        rintro e w2 ⟨A2, l2, c2, rfl, hO2, hb2⟩
        have hl2 : l2 ≤ 4096 := by rw [← hO2.len]; exact put_len HM.out
        obtain ⟨m2, hm2⟩ : ∃ m, l2 + 1 = m := ⟨_, rfl⟩
        have hm2I : (l2 : Int) + 1 = (m2 : Int) := by omega
        obtain ⟨k, hk⟩ : ∃ k, q % m2 = k := ⟨_, rfl⟩
        have hkm : k < m2 := by rw [← hk]; exact Nat.mod_lt _ (by omega)
        have hkl : k ≤ l2 := by omega
        have hrem1 : (q : Int).tmod (m2 : Int) = (k : Int) := by rw [← hk]; exact Int.ofNat_tmod q m2
        have hrem2 : (q : Int) % (m2 : Int) = (k : Int) := by rw [← hk]; exact (Int.natCast_emod q m2).symm
        have hmz : ¬ (m2 : Int) = 0 := by omega
        have hmz' : ((m2 : Int) == 0) = false := by simp; omega
        have hqw : IntKind.i64.wrap (q : Int) = (q : Int) := by rw [IntKind.wrap_i64]; have := HQ.out; omega
        have hmw : wrap64 (m2 : Int) = (m2 : Int) := by unfold wrap64; omega
        have hkw : IntKind.i64.wrap (k : Int) = (k : Int) := by rw [IntKind.wrap_i64]; omega
        have hsl := cut_to A2 l2 c2 k hkl hO2.cap.1
        have HL2 := Lib.hid hl2
        have HKL := Lib.hid hkl
        have HC2 := Lib.hid hO2.cap.1
        have HLN2 := Lib.hid hO2.len
        have hbb := below_next H1.out.2.2.2.2 hb2
        have H2 := Lib.hid (show WK w w2 A2 l2 (layL (secM ⟨p, ttl, n, id, b⟩)) A' l' b' from ⟨hO2.rd, HRM.out.call hbb, HTW.out.call hbb, hbb⟩)
        have hk4 : k ≤ 4096 := Nat.le_trans hkl hl2
        clear hl2 hm2 hk hkm hO2 hb2 hbb
        go_wp2_with fail
        clear hmw hrem1 hrem2 hmz hmz' hqw hkw hm2I hsl
        go_loopw [11] (fun s11 wr => ∃ j : Nat, j ≤ k ∧ s11 = .int .i64 (j : Nat) ∧ (getM ((layL (secM ⟨p, ttl, n, id, b⟩)).take k) = none ∨ Far (((layL (secM ⟨p, ttl, n, id, b⟩)).take k).drop j)) ∧ WK w wr A2 l2 (layL (secM ⟨p, ttl, n, id, b⟩)) A' l' b') (fun s _ => k - (intOf s).toNat)
        case atStart => exact ⟨0, Nat.zero_le _, rfl, by rw [List.drop_zero]; exact far_get, H2.out⟩
        case round =>
          obtain ⟨j, hj, rfl, hF, hW⟩ := hrel
          have HW := Lib.hid hW
          by_cases hlt : j < k
          case pos =>
            have hd0 : decide ((j : Int) < (k : Int)) = true := decide_eq_true (by omega)
            have hltI : (j : Int) ≤ (k : Int) := by omega
            obtain ⟨A1, c1, hc1, _, hs1, hs2, hR1⟩ := cut_from A2 k c2 j (Nat.le_of_lt hlt) (Nat.le_trans hkl HC2.out)
            have hlen : (((layL (secM ⟨p, ttl, n, id, b⟩)).take k).drop j).length = k - j := by rw [List.length_drop, List.length_take, HLN2.out]; omega
            have HD := Lib.hid (dec_er (hR1 _ _ _ (hW.rd.take hkl)) hc1 (by have := HL2.out; omega) hW.tab)
            obtain ⟨⟨v, fn, er⟩, hdec⟩ : ∃ r, decD (((layL (secM ⟨p, ttl, n, id, b⟩)).take k).drop j) = r := ⟨_, rfl⟩
            have HF : Hid (getM ((layL (secM ⟨p, ttl, n, id, b⟩)).take k) = none ∨ (er = 0 ∧ 1 ≤ fn ∧ Far (((layL (secM ⟨p, ttl, n, id, b⟩)).take k).drop (j + fn)))) := Lib.hid (hF.imp (fun h => h) fun h => by
              have h1 := far_step h (fun e => by rw [e] at hlen; simp at hlen; omega)
              rw [hdec] at h1
              rw [List.drop_drop] at h1
              exact ⟨h1.1, h1.2.1, h1.2.2.2⟩)
            have hadv : er = 0 → 1 ≤ fn ∧ j + fn ≤ k := fun h => by
              have h1 := dec_adv (b := ((layL (secM ⟨p, ttl, n, id, b⟩)).take k).drop j) (by rw [hdec]; exact h)
              rw [hdec, hlen] at h1
              simp only at h1
              omega
            rw [hdec] at HD
            clear hdec hlen hF hW hR1 hc1
            by_cases he : er = 0
            · obtain ⟨hf1, hfk⟩ := hadv he
              have hdn : decide ((fn : Int) < 1) = false := decide_eq_false (by omega)
              have HF1 := Lib.hid hf1
              have HFK := Lib.hid hfk
              have HLT := Lib.hid hlt
              have hfkI : (j : Int) + (fn : Int) ≤ (k : Int) := by omega
              subst he
              clear hadv
              go_wp2_with (first
                | (go_at_call 31; (with_reducible refine (HD.out).mono ?_); rintro e w3 ⟨z0, z1, z2, z3, z4, z5, rfl, hb3⟩; have H3 := Lib.hid ((HW.out.call hb3).alloc (.cells #[.int .u8 z0, .int .u64 z1, .string z2, .slice z3 z4 z5] 46)); clear hb3)
                | fail)
              go_roundw
              case rel => exact ⟨j + fn, HFK.out, by go_num, HF.out.imp (fun h => h) (fun h => h.2.2), H3.out⟩
              case measure => (have := HLT.out; have := HF1.out; simp [intOf]; omega)
            · have hde0 : ((er : Int) == 0) = false := by rw [beq_eq_false_iff_ne]; omega
              have HG : Hid (getM ((layL (secM ⟨p, ttl, n, id, b⟩)).take k) = none) := Lib.hid (HF.out.elim (fun h => h) fun h => absurd h.1 he)
              have hkn : ((k : Int) == (l2 : Int)) = false := by
                rw [beq_eq_false_iff_ne]
                intro e
                have e : k = l2 := by omega
                have h1 := HG.out
                rw [e, ← HLN2.out, List.take_length, get_put HM.out HT.out HN.out HBY.out] at h1
                cases h1
              clear hadv
              have HCD := Lib.hid (fun wx (h : WK w wx A2 l2 (layL (secM ⟨p, ttl, n, id, b⟩)) A' l' b') => dec_er h.rd' HC'.out (by have := HL'.out; omega) h.tab)
              obtain ⟨er2, hge⟩ := get_any_er ((layL (secM ⟨p, ttl, n, id, b⟩)) ++ b')
              have HGE := Lib.hid hge
              obtain ⟨⟨v', fn', er'⟩, hdec'⟩ : ∃ r, decD b' = r := ⟨_, rfl⟩
              rw [hdec'] at HCD
              clear hge
              by_cases hz : l' = 0
              · have hdz : ((l' : Int) == 0) = true := by rw [hz]; rfl
                clear hz hdec'
                go_wp2_with (first
                  | (go_at_call 11; (with_reducible refine (HWK.out _ H9.out.tab).mono ?_); rintro e w10 ⟨rfl, hb10⟩; have H10 := Lib.hid (H9.out.call hb10); clear hb10)
                  | (go_at_call 18; (with_reducible refine (HGE.out _ _ _ _ HO8.out.rd HO8.out.cap.1 (by have := HL2.out; have := HL'.out; omega) H8.out.tab).mono ?_); rintro e w9 ⟨x0, x1, x2, x3, x4, x5, x6, rfl, hb9⟩; have H9 := Lib.hid ((H8.out.call hb9).alloc (.cells #[.int .u8 x0, .int .u32 x1, .int .u32 x2, .string x3, .slice x4 x5 x6] 25)); clear hb9)
                  | (at_builtin; refine wpList_app8at (base := (w6.alloc (.cells #[.int .u8 y0, .int .u64 y1, .string y2, .slice y3 y4 y5] 46)).heap.size) rfl _ _ rfl rfl HO7.out rfl H7.out.rd' (by have := HL2.out; have := HL'.out; omega) HB7.out.size ?_; intro A8 c8 w8 hO8 hg8 hat8; have hb8 : Below (w6.alloc (.cells #[.int .u8 y0, .int .u64 y1, .string y2, .slice y3 y4 y5] 46)).heap.size (w6.alloc (.cells #[.int .u8 y0, .int .u64 y1, .string y2, .slice y3 y4 y5] 46)) w8 := HB7.out.trans (below_grown HO7.out hg8 HB7.out.size); have HO8 := Lib.hid hO8; have H8 := Lib.hid (H6.out.call hb8); clear hO8 hg8 hat8 hb8)
                  | (at_builtin; refine wpList_app8at (base := (w6.alloc (.cells #[.int .u8 y0, .int .u64 y1, .string y2, .slice y3 y4 y5] 46)).heap.size) rfl _ _ rfl rfl (Utf.Own.nil _ _ _ _ _) rfl H6.out.rd (by have := HL2.out; omega) (Nat.le_refl _) ?_; intro A7 c7 w7 hO7 hg7 hat7; have hb7 : Below (w6.alloc (.cells #[.int .u8 y0, .int .u64 y1, .string y2, .slice y3 y4 y5] 46)).heap.size (w6.alloc (.cells #[.int .u8 y0, .int .u64 y1, .string y2, .slice y3 y4 y5] 46)) w7 := below_grown (Utf.Own.nil .u8 256 5 _ (w6.alloc (.cells #[.int .u8 y0, .int .u64 y1, .string y2, .slice y3 y4 y5] 46)).heap.size) hg7 (Nat.le_refl _); simp only [Nat.zero_add, List.nil_append] at hO7; have HB7 := Lib.hid hb7; have HO7 := Lib.hid hO7; have H7 := Lib.hid (H6.out.call hb7); clear hO7 hg7 hat7 hb7)
                  | (go_at_call 31; (with_reducible refine (HCD.out _ H5.out).mono ?_); rintro e w6 ⟨y0, y1, y2, y3, y4, y5, rfl, hb6⟩; have H6 := Lib.hid ((H5.out.call hb6).alloc (.cells #[.int .u8 y0, .int .u64 y1, .string y2, .slice y3 y4 y5] 46)); clear hb6)
                  | (go_at_call 18; (with_reducible refine (get_e6 (H3.out.rd.take HKL.out) (Nat.le_trans HKL.out HC2.out) (by have := HKL.out; have := HL2.out; omega) H3.out.tab HG.out).mono ?_); rintro e w5 ⟨u0, u1, u2, u3, u4, u5, u6, rfl, hb5⟩; have H5 := Lib.hid ((H3.out.call hb5).alloc (.cells #[.int .u8 u0, .int .u32 u1, .int .u32 u2, .string u3, .slice u4 u5 u6] 25)); clear hb5)
                  | (go_at_call 31; (with_reducible refine (HD.out).mono ?_); rintro e w3 ⟨z0, z1, z2, z3, z4, z5, rfl, hb3⟩; have H3 := Lib.hid ((HW.out.call hb3).alloc (.cells #[.int .u8 z0, .int .u64 z1, .string z2, .slice z3 z4 z5] 46)); clear hb3)
                  | fail)
                go_ret
                exact ⟨rfl, H10.out.low⟩
              · have hdz : ((l' : Int) == 0) = false := by rw [beq_eq_false_iff_ne]; omega
                by_cases he' : er' = 0
                · have hde : ((er' : Int) == 0) = true := by rw [he']; rfl
                  clear he' hz hdec'
                  go_wp2_with (first
                    | (go_at_call 11; (with_reducible refine (HWK.out _ H9.out.tab).mono ?_); rintro e w10 ⟨rfl, hb10⟩; have H10 := Lib.hid (H9.out.call hb10); clear hb10)
                    | (go_at_call 18; (with_reducible refine (HGE.out _ _ _ _ HO8.out.rd HO8.out.cap.1 (by have := HL2.out; have := HL'.out; omega) H8.out.tab).mono ?_); rintro e w9 ⟨x0, x1, x2, x3, x4, x5, x6, rfl, hb9⟩; have H9 := Lib.hid ((H8.out.call hb9).alloc (.cells #[.int .u8 x0, .int .u32 x1, .int .u32 x2, .string x3, .slice x4 x5 x6] 25)); clear hb9)
                    | (at_builtin; refine wpList_app8at (base := (w6.alloc (.cells #[.int .u8 y0, .int .u64 y1, .string y2, .slice y3 y4 y5] 46)).heap.size) rfl _ _ rfl rfl HO7.out rfl H7.out.rd' (by have := HL2.out; have := HL'.out; omega) HB7.out.size ?_; intro A8 c8 w8 hO8 hg8 hat8; have hb8 : Below (w6.alloc (.cells #[.int .u8 y0, .int .u64 y1, .string y2, .slice y3 y4 y5] 46)).heap.size (w6.alloc (.cells #[.int .u8 y0, .int .u64 y1, .string y2, .slice y3 y4 y5] 46)) w8 := HB7.out.trans (below_grown HO7.out hg8 HB7.out.size); have HO8 := Lib.hid hO8; have H8 := Lib.hid (H6.out.call hb8); clear hO8 hg8 hat8 hb8)
                    | (at_builtin; refine wpList_app8at (base := (w6.alloc (.cells #[.int .u8 y0, .int .u64 y1, .string y2, .slice y3 y4 y5] 46)).heap.size) rfl _ _ rfl rfl (Utf.Own.nil _ _ _ _ _) rfl H6.out.rd (by have := HL2.out; omega) (Nat.le_refl _) ?_; intro A7 c7 w7 hO7 hg7 hat7; have hb7 : Below (w6.alloc (.cells #[.int .u8 y0, .int .u64 y1, .string y2, .slice y3 y4 y5] 46)).heap.size (w6.alloc (.cells #[.int .u8 y0, .int .u64 y1, .string y2, .slice y3 y4 y5] 46)) w7 := below_grown (Utf.Own.nil .u8 256 5 _ (w6.alloc (.cells #[.int .u8 y0, .int .u64 y1, .string y2, .slice y3 y4 y5] 46)).heap.size) hg7 (Nat.le_refl _); simp only [Nat.zero_add, List.nil_append] at hO7; have HB7 := Lib.hid hb7; have HO7 := Lib.hid hO7; have H7 := Lib.hid (H6.out.call hb7); clear hO7 hg7 hat7 hb7)
                    | (go_at_call 31; (with_reducible refine (HCD.out _ H5.out).mono ?_); rintro e w6 ⟨y0, y1, y2, y3, y4, y5, rfl, hb6⟩; have H6 := Lib.hid ((H5.out.call hb6).alloc (.cells #[.int .u8 y0, .int .u64 y1, .string y2, .slice y3 y4 y5] 46)); clear hb6)
                    | (go_at_call 18; (with_reducible refine (get_e6 (H3.out.rd.take HKL.out) (Nat.le_trans HKL.out HC2.out) (by have := HKL.out; have := HL2.out; omega) H3.out.tab HG.out).mono ?_); rintro e w5 ⟨u0, u1, u2, u3, u4, u5, u6, rfl, hb5⟩; have H5 := Lib.hid ((H3.out.call hb5).alloc (.cells #[.int .u8 u0, .int .u32 u1, .int .u32 u2, .string u3, .slice u4 u5 u6] 25)); clear hb5)
                    | (go_at_call 31; (with_reducible refine (HD.out).mono ?_); rintro e w3 ⟨z0, z1, z2, z3, z4, z5, rfl, hb3⟩; have H3 := Lib.hid ((HW.out.call hb3).alloc (.cells #[.int .u8 z0, .int .u64 z1, .string z2, .slice z3 z4 z5] 46)); clear hb3)
                    | fail)
                  go_ret
                  exact ⟨rfl, H10.out.low⟩
                · have hde : ((er' : Int) == 0) = false := by rw [beq_eq_false_iff_ne]; omega
                  have HBH : Hid (getM ((layL (secM ⟨p, ttl, n, id, b⟩)) ++ b') = none) := Lib.hid (get_behind HM.out HT.out HN.out HBY.out (fun e => hz (by rw [← HLB'.out, e]; rfl)) (by rw [hdec']; exact he'))
                  clear he' hz hdec'
                  go_wp2_with (first
                    | (go_at_call 11; (with_reducible refine (HWK.out _ H9.out.tab).mono ?_); rintro e w10 ⟨rfl, hb10⟩; have H10 := Lib.hid (H9.out.call hb10); clear hb10)
                    | (go_at_call 18; (with_reducible refine (get_e6 HO8.out.rd HO8.out.cap.1 (by have := HL2.out; have := HL'.out; omega) H8.out.tab HBH.out).mono ?_); rintro e w9 ⟨x0, x1, x2, x3, x4, x5, x6, rfl, hb9⟩; have H9 := Lib.hid ((H8.out.call hb9).alloc (.cells #[.int .u8 x0, .int .u32 x1, .int .u32 x2, .string x3, .slice x4 x5 x6] 25)); clear hb9)
                    | (at_builtin; refine wpList_app8at (base := (w6.alloc (.cells #[.int .u8 y0, .int .u64 y1, .string y2, .slice y3 y4 y5] 46)).heap.size) rfl _ _ rfl rfl HO7.out rfl H7.out.rd' (by have := HL2.out; have := HL'.out; omega) HB7.out.size ?_; intro A8 c8 w8 hO8 hg8 hat8; have hb8 : Below (w6.alloc (.cells #[.int .u8 y0, .int .u64 y1, .string y2, .slice y3 y4 y5] 46)).heap.size (w6.alloc (.cells #[.int .u8 y0, .int .u64 y1, .string y2, .slice y3 y4 y5] 46)) w8 := HB7.out.trans (below_grown HO7.out hg8 HB7.out.size); have HO8 := Lib.hid hO8; have H8 := Lib.hid (H6.out.call hb8); clear hO8 hg8 hat8 hb8)
                    | (at_builtin; refine wpList_app8at (base := (w6.alloc (.cells #[.int .u8 y0, .int .u64 y1, .string y2, .slice y3 y4 y5] 46)).heap.size) rfl _ _ rfl rfl (Utf.Own.nil _ _ _ _ _) rfl H6.out.rd (by have := HL2.out; omega) (Nat.le_refl _) ?_; intro A7 c7 w7 hO7 hg7 hat7; have hb7 : Below (w6.alloc (.cells #[.int .u8 y0, .int .u64 y1, .string y2, .slice y3 y4 y5] 46)).heap.size (w6.alloc (.cells #[.int .u8 y0, .int .u64 y1, .string y2, .slice y3 y4 y5] 46)) w7 := below_grown (Utf.Own.nil .u8 256 5 _ (w6.alloc (.cells #[.int .u8 y0, .int .u64 y1, .string y2, .slice y3 y4 y5] 46)).heap.size) hg7 (Nat.le_refl _); simp only [Nat.zero_add, List.nil_append] at hO7; have HB7 := Lib.hid hb7; have HO7 := Lib.hid hO7; have H7 := Lib.hid (H6.out.call hb7); clear hO7 hg7 hat7 hb7)
                    | (go_at_call 31; (with_reducible refine (HCD.out _ H5.out).mono ?_); rintro e w6 ⟨y0, y1, y2, y3, y4, y5, rfl, hb6⟩; have H6 := Lib.hid ((H5.out.call hb6).alloc (.cells #[.int .u8 y0, .int .u64 y1, .string y2, .slice y3 y4 y5] 46)); clear hb6)
                    | (go_at_call 18; (with_reducible refine (get_e6 (H3.out.rd.take HKL.out) (Nat.le_trans HKL.out HC2.out) (by have := HKL.out; have := HL2.out; omega) H3.out.tab HG.out).mono ?_); rintro e w5 ⟨u0, u1, u2, u3, u4, u5, u6, rfl, hb5⟩; have H5 := Lib.hid ((H3.out.call hb5).alloc (.cells #[.int .u8 u0, .int .u32 u1, .int .u32 u2, .string u3, .slice u4 u5 u6] 25)); clear hb5)
                    | (go_at_call 31; (with_reducible refine (HD.out).mono ?_); rintro e w3 ⟨z0, z1, z2, z3, z4, z5, rfl, hb3⟩; have H3 := Lib.hid ((HW.out.call hb3).alloc (.cells #[.int .u8 z0, .int .u64 z1, .string z2, .slice z3 z4 z5] 46)); clear hb3)
                    | fail)
                  go_ret
                  exact ⟨rfl, H10.out.low⟩
          case neg =>
            obtain rfl : j = k := by omega
            have hd0 : decide ((j : Int) < (j : Int)) = false := decide_eq_false (by omega)
            have HFF := Lib.hid hF
            clear hF hW hj
            by_cases hg : getM ((layL (secM ⟨p, ttl, n, id, b⟩)).take j) = none
            · have HG := Lib.hid hg
              have hkn : ((j : Int) == (l2 : Int)) = false := by
                rw [beq_eq_false_iff_ne]
                intro e
                have e : j = l2 := by omega
                have h1 := HG.out
                rw [e, ← HLN2.out, List.take_length, get_put HM.out HT.out HN.out HBY.out] at h1
                cases h1
              clear hg
              have HCD := Lib.hid (fun wx (h : WK w wx A2 l2 (layL (secM ⟨p, ttl, n, id, b⟩)) A' l' b') => dec_er h.rd' HC'.out (by have := HL'.out; omega) h.tab)
              obtain ⟨er2, hge⟩ := get_any_er ((layL (secM ⟨p, ttl, n, id, b⟩)) ++ b')
              have HGE := Lib.hid hge
              obtain ⟨⟨v', fn', er'⟩, hdec'⟩ : ∃ r, decD b' = r := ⟨_, rfl⟩
              rw [hdec'] at HCD
              clear hge
              by_cases hz : l' = 0
              · have hdz : ((l' : Int) == 0) = true := by rw [hz]; rfl
                clear hz hdec'
                go_wp2_with (first
                  | (go_at_call 11; (with_reducible refine (HWK.out _ H9.out.tab).mono ?_); rintro e w10 ⟨rfl, hb10⟩; have H10 := Lib.hid (H9.out.call hb10); clear hb10)
                  | (go_at_call 18; (with_reducible refine (HGE.out _ _ _ _ HO8.out.rd HO8.out.cap.1 (by have := HL2.out; have := HL'.out; omega) H8.out.tab).mono ?_); rintro e w9 ⟨x0, x1, x2, x3, x4, x5, x6, rfl, hb9⟩; have H9 := Lib.hid ((H8.out.call hb9).alloc (.cells #[.int .u8 x0, .int .u32 x1, .int .u32 x2, .string x3, .slice x4 x5 x6] 25)); clear hb9)
                  | (at_builtin; refine wpList_app8at (base := (w6.alloc (.cells #[.int .u8 y0, .int .u64 y1, .string y2, .slice y3 y4 y5] 46)).heap.size) rfl _ _ rfl rfl HO7.out rfl H7.out.rd' (by have := HL2.out; have := HL'.out; omega) HB7.out.size ?_; intro A8 c8 w8 hO8 hg8 hat8; have hb8 : Below (w6.alloc (.cells #[.int .u8 y0, .int .u64 y1, .string y2, .slice y3 y4 y5] 46)).heap.size (w6.alloc (.cells #[.int .u8 y0, .int .u64 y1, .string y2, .slice y3 y4 y5] 46)) w8 := HB7.out.trans (below_grown HO7.out hg8 HB7.out.size); have HO8 := Lib.hid hO8; have H8 := Lib.hid (H6.out.call hb8); clear hO8 hg8 hat8 hb8)
                  | (at_builtin; refine wpList_app8at (base := (w6.alloc (.cells #[.int .u8 y0, .int .u64 y1, .string y2, .slice y3 y4 y5] 46)).heap.size) rfl _ _ rfl rfl (Utf.Own.nil _ _ _ _ _) rfl H6.out.rd (by have := HL2.out; omega) (Nat.le_refl _) ?_; intro A7 c7 w7 hO7 hg7 hat7; have hb7 : Below (w6.alloc (.cells #[.int .u8 y0, .int .u64 y1, .string y2, .slice y3 y4 y5] 46)).heap.size (w6.alloc (.cells #[.int .u8 y0, .int .u64 y1, .string y2, .slice y3 y4 y5] 46)) w7 := below_grown (Utf.Own.nil .u8 256 5 _ (w6.alloc (.cells #[.int .u8 y0, .int .u64 y1, .string y2, .slice y3 y4 y5] 46)).heap.size) hg7 (Nat.le_refl _); simp only [Nat.zero_add, List.nil_append] at hO7; have HB7 := Lib.hid hb7; have HO7 := Lib.hid hO7; have H7 := Lib.hid (H6.out.call hb7); clear hO7 hg7 hat7 hb7)
                  | (go_at_call 31; (with_reducible refine (HCD.out _ H5.out).mono ?_); rintro e w6 ⟨y0, y1, y2, y3, y4, y5, rfl, hb6⟩; have H6 := Lib.hid ((H5.out.call hb6).alloc (.cells #[.int .u8 y0, .int .u64 y1, .string y2, .slice y3 y4 y5] 46)); clear hb6)
                  | (go_at_call 18; (with_reducible refine (get_e6 (HW.out.rd.take HKL.out) (Nat.le_trans HKL.out HC2.out) (by have := HKL.out; have := HL2.out; omega) HW.out.tab HG.out).mono ?_); rintro e w5 ⟨u0, u1, u2, u3, u4, u5, u6, rfl, hb5⟩; have H5 := Lib.hid ((HW.out.call hb5).alloc (.cells #[.int .u8 u0, .int .u32 u1, .int .u32 u2, .string u3, .slice u4 u5 u6] 25)); clear hb5)
                  | fail)
                go_ret
                exact ⟨rfl, H10.out.low⟩
              · have hdz : ((l' : Int) == 0) = false := by rw [beq_eq_false_iff_ne]; omega
                by_cases he' : er' = 0
                · have hde : ((er' : Int) == 0) = true := by rw [he']; rfl
                  clear he' hz hdec'
                  go_wp2_with (first
                    | (go_at_call 11; (with_reducible refine (HWK.out _ H9.out.tab).mono ?_); rintro e w10 ⟨rfl, hb10⟩; have H10 := Lib.hid (H9.out.call hb10); clear hb10)
                    | (go_at_call 18; (with_reducible refine (HGE.out _ _ _ _ HO8.out.rd HO8.out.cap.1 (by have := HL2.out; have := HL'.out; omega) H8.out.tab).mono ?_); rintro e w9 ⟨x0, x1, x2, x3, x4, x5, x6, rfl, hb9⟩; have H9 := Lib.hid ((H8.out.call hb9).alloc (.cells #[.int .u8 x0, .int .u32 x1, .int .u32 x2, .string x3, .slice x4 x5 x6] 25)); clear hb9)
                    | (at_builtin; refine wpList_app8at (base := (w6.alloc (.cells #[.int .u8 y0, .int .u64 y1, .string y2, .slice y3 y4 y5] 46)).heap.size) rfl _ _ rfl rfl HO7.out rfl H7.out.rd' (by have := HL2.out; have := HL'.out; omega) HB7.out.size ?_; intro A8 c8 w8 hO8 hg8 hat8; have hb8 : Below (w6.alloc (.cells #[.int .u8 y0, .int .u64 y1, .string y2, .slice y3 y4 y5] 46)).heap.size (w6.alloc (.cells #[.int .u8 y0, .int .u64 y1, .string y2, .slice y3 y4 y5] 46)) w8 := HB7.out.trans (below_grown HO7.out hg8 HB7.out.size); have HO8 := Lib.hid hO8; have H8 := Lib.hid (H6.out.call hb8); clear hO8 hg8 hat8 hb8)
                    | (at_builtin; refine wpList_app8at (base := (w6.alloc (.cells #[.int .u8 y0, .int .u64 y1, .string y2, .slice y3 y4 y5] 46)).heap.size) rfl _ _ rfl rfl (Utf.Own.nil _ _ _ _ _) rfl H6.out.rd (by have := HL2.out; omega) (Nat.le_refl _) ?_; intro A7 c7 w7 hO7 hg7 hat7; have hb7 : Below (w6.alloc (.cells #[.int .u8 y0, .int .u64 y1, .string y2, .slice y3 y4 y5] 46)).heap.size (w6.alloc (.cells #[.int .u8 y0, .int .u64 y1, .string y2, .slice y3 y4 y5] 46)) w7 := below_grown (Utf.Own.nil .u8 256 5 _ (w6.alloc (.cells #[.int .u8 y0, .int .u64 y1, .string y2, .slice y3 y4 y5] 46)).heap.size) hg7 (Nat.le_refl _); simp only [Nat.zero_add, List.nil_append] at hO7; have HB7 := Lib.hid hb7; have HO7 := Lib.hid hO7; have H7 := Lib.hid (H6.out.call hb7); clear hO7 hg7 hat7 hb7)
                    | (go_at_call 31; (with_reducible refine (HCD.out _ H5.out).mono ?_); rintro e w6 ⟨y0, y1, y2, y3, y4, y5, rfl, hb6⟩; have H6 := Lib.hid ((H5.out.call hb6).alloc (.cells #[.int .u8 y0, .int .u64 y1, .string y2, .slice y3 y4 y5] 46)); clear hb6)
                    | (go_at_call 18; (with_reducible refine (get_e6 (HW.out.rd.take HKL.out) (Nat.le_trans HKL.out HC2.out) (by have := HKL.out; have := HL2.out; omega) HW.out.tab HG.out).mono ?_); rintro e w5 ⟨u0, u1, u2, u3, u4, u5, u6, rfl, hb5⟩; have H5 := Lib.hid ((HW.out.call hb5).alloc (.cells #[.int .u8 u0, .int .u32 u1, .int .u32 u2, .string u3, .slice u4 u5 u6] 25)); clear hb5)
                    | fail)
                  go_ret
                  exact ⟨rfl, H10.out.low⟩
                · have hde : ((er' : Int) == 0) = false := by rw [beq_eq_false_iff_ne]; omega
                  have HBH : Hid (getM ((layL (secM ⟨p, ttl, n, id, b⟩)) ++ b') = none) := Lib.hid (get_behind HM.out HT.out HN.out HBY.out (fun e => hz (by rw [← HLB'.out, e]; rfl)) (by rw [hdec']; exact he'))
                  clear he' hz hdec'
                  go_wp2_with (first
                    | (go_at_call 11; (with_reducible refine (HWK.out _ H9.out.tab).mono ?_); rintro e w10 ⟨rfl, hb10⟩; have H10 := Lib.hid (H9.out.call hb10); clear hb10)
                    | (go_at_call 18; (with_reducible refine (get_e6 HO8.out.rd HO8.out.cap.1 (by have := HL2.out; have := HL'.out; omega) H8.out.tab HBH.out).mono ?_); rintro e w9 ⟨x0, x1, x2, x3, x4, x5, x6, rfl, hb9⟩; have H9 := Lib.hid ((H8.out.call hb9).alloc (.cells #[.int .u8 x0, .int .u32 x1, .int .u32 x2, .string x3, .slice x4 x5 x6] 25)); clear hb9)
                    | (at_builtin; refine wpList_app8at (base := (w6.alloc (.cells #[.int .u8 y0, .int .u64 y1, .string y2, .slice y3 y4 y5] 46)).heap.size) rfl _ _ rfl rfl HO7.out rfl H7.out.rd' (by have := HL2.out; have := HL'.out; omega) HB7.out.size ?_; intro A8 c8 w8 hO8 hg8 hat8; have hb8 : Below (w6.alloc (.cells #[.int .u8 y0, .int .u64 y1, .string y2, .slice y3 y4 y5] 46)).heap.size (w6.alloc (.cells #[.int .u8 y0, .int .u64 y1, .string y2, .slice y3 y4 y5] 46)) w8 := HB7.out.trans (below_grown HO7.out hg8 HB7.out.size); have HO8 := Lib.hid hO8; have H8 := Lib.hid (H6.out.call hb8); clear hO8 hg8 hat8 hb8)
                    | (at_builtin; refine wpList_app8at (base := (w6.alloc (.cells #[.int .u8 y0, .int .u64 y1, .string y2, .slice y3 y4 y5] 46)).heap.size) rfl _ _ rfl rfl (Utf.Own.nil _ _ _ _ _) rfl H6.out.rd (by have := HL2.out; omega) (Nat.le_refl _) ?_; intro A7 c7 w7 hO7 hg7 hat7; have hb7 : Below (w6.alloc (.cells #[.int .u8 y0, .int .u64 y1, .string y2, .slice y3 y4 y5] 46)).heap.size (w6.alloc (.cells #[.int .u8 y0, .int .u64 y1, .string y2, .slice y3 y4 y5] 46)) w7 := below_grown (Utf.Own.nil .u8 256 5 _ (w6.alloc (.cells #[.int .u8 y0, .int .u64 y1, .string y2, .slice y3 y4 y5] 46)).heap.size) hg7 (Nat.le_refl _); simp only [Nat.zero_add, List.nil_append] at hO7; have HB7 := Lib.hid hb7; have HO7 := Lib.hid hO7; have H7 := Lib.hid (H6.out.call hb7); clear hO7 hg7 hat7 hb7)
                    | (go_at_call 31; (with_reducible refine (HCD.out _ H5.out).mono ?_); rintro e w6 ⟨y0, y1, y2, y3, y4, y5, rfl, hb6⟩; have H6 := Lib.hid ((H5.out.call hb6).alloc (.cells #[.int .u8 y0, .int .u64 y1, .string y2, .slice y3 y4 y5] 46)); clear hb6)
                    | (go_at_call 18; (with_reducible refine (get_e6 (HW.out.rd.take HKL.out) (Nat.le_trans HKL.out HC2.out) (by have := HKL.out; have := HL2.out; omega) HW.out.tab HG.out).mono ?_); rintro e w5 ⟨u0, u1, u2, u3, u4, u5, u6, rfl, hb5⟩; have H5 := Lib.hid ((HW.out.call hb5).alloc (.cells #[.int .u8 u0, .int .u32 u1, .int .u32 u2, .string u3, .slice u4 u5 u6] 25)); clear hb5)
                    | fail)
                  go_ret
                  exact ⟨rfl, H10.out.low⟩
            · have HG : Hid (getM ((layL (secM ⟨p, ttl, n, id, b⟩)).take j) ≠ none) := Lib.hid hg
              clear hg
              by_cases hkl2 : j = l2
              · have hkn : ((j : Int) == (l2 : Int)) = true := by rw [hkl2]; exact beq_self_eq_true _
                clear hkl2
                have HCD := Lib.hid (fun wx (h : WK w wx A2 l2 (layL (secM ⟨p, ttl, n, id, b⟩)) A' l' b') => dec_er h.rd' HC'.out (by have := HL'.out; omega) h.tab)
                obtain ⟨er2, hge⟩ := get_any_er ((layL (secM ⟨p, ttl, n, id, b⟩)) ++ b')
                have HGE := Lib.hid hge
                obtain ⟨⟨v', fn', er'⟩, hdec'⟩ : ∃ r, decD b' = r := ⟨_, rfl⟩
                rw [hdec'] at HCD
                clear hge
                by_cases hz : l' = 0
                · have hdz : ((l' : Int) == 0) = true := by rw [hz]; rfl
                  clear hz hdec'
                  go_wp2_with (first
                    | (go_at_call 11; (with_reducible refine (HWK.out _ H9.out.tab).mono ?_); rintro e w10 ⟨rfl, hb10⟩; have H10 := Lib.hid (H9.out.call hb10); clear hb10)
                    | (go_at_call 18; (with_reducible refine (HGE.out _ _ _ _ HO8.out.rd HO8.out.cap.1 (by have := HL2.out; have := HL'.out; omega) H8.out.tab).mono ?_); rintro e w9 ⟨x0, x1, x2, x3, x4, x5, x6, rfl, hb9⟩; have H9 := Lib.hid ((H8.out.call hb9).alloc (.cells #[.int .u8 x0, .int .u32 x1, .int .u32 x2, .string x3, .slice x4 x5 x6] 25)); clear hb9)
                    | (at_builtin; refine wpList_app8at (base := (w6.alloc (.cells #[.int .u8 y0, .int .u64 y1, .string y2, .slice y3 y4 y5] 46)).heap.size) rfl _ _ rfl rfl HO7.out rfl H7.out.rd' (by have := HL2.out; have := HL'.out; omega) HB7.out.size ?_; intro A8 c8 w8 hO8 hg8 hat8; have hb8 : Below (w6.alloc (.cells #[.int .u8 y0, .int .u64 y1, .string y2, .slice y3 y4 y5] 46)).heap.size (w6.alloc (.cells #[.int .u8 y0, .int .u64 y1, .string y2, .slice y3 y4 y5] 46)) w8 := HB7.out.trans (below_grown HO7.out hg8 HB7.out.size); have HO8 := Lib.hid hO8; have H8 := Lib.hid (H6.out.call hb8); clear hO8 hg8 hat8 hb8)
                    | (at_builtin; refine wpList_app8at (base := (w6.alloc (.cells #[.int .u8 y0, .int .u64 y1, .string y2, .slice y3 y4 y5] 46)).heap.size) rfl _ _ rfl rfl (Utf.Own.nil _ _ _ _ _) rfl H6.out.rd (by have := HL2.out; omega) (Nat.le_refl _) ?_; intro A7 c7 w7 hO7 hg7 hat7; have hb7 : Below (w6.alloc (.cells #[.int .u8 y0, .int .u64 y1, .string y2, .slice y3 y4 y5] 46)).heap.size (w6.alloc (.cells #[.int .u8 y0, .int .u64 y1, .string y2, .slice y3 y4 y5] 46)) w7 := below_grown (Utf.Own.nil .u8 256 5 _ (w6.alloc (.cells #[.int .u8 y0, .int .u64 y1, .string y2, .slice y3 y4 y5] 46)).heap.size) hg7 (Nat.le_refl _); simp only [Nat.zero_add, List.nil_append] at hO7; have HB7 := Lib.hid hb7; have HO7 := Lib.hid hO7; have H7 := Lib.hid (H6.out.call hb7); clear hO7 hg7 hat7 hb7)
                    | (go_at_call 31; (with_reducible refine (HCD.out _ H5.out).mono ?_); rintro e w6 ⟨y0, y1, y2, y3, y4, y5, rfl, hb6⟩; have H6 := Lib.hid ((H5.out.call hb6).alloc (.cells #[.int .u8 y0, .int .u64 y1, .string y2, .slice y3 y4 y5] 46)); clear hb6)
                    | (go_at_call 18; (with_reducible refine (get_e0 (HW.out.rd.take HKL.out) (Nat.le_trans HKL.out HC2.out) (by have := HKL.out; have := HL2.out; omega) HW.out.tab HG.out).mono ?_); rintro e w5 ⟨u0, u1, u2, u3, u4, u5, u6, rfl, hb5⟩; have H5 := Lib.hid ((HW.out.call hb5).alloc (.cells #[.int .u8 u0, .int .u32 u1, .int .u32 u2, .string u3, .slice u4 u5 u6] 25)); clear hb5)
                    | fail)
                  go_ret
                  exact ⟨rfl, H10.out.low⟩
                · have hdz : ((l' : Int) == 0) = false := by rw [beq_eq_false_iff_ne]; omega
                  by_cases he' : er' = 0
                  · have hde : ((er' : Int) == 0) = true := by rw [he']; rfl
                    clear he' hz hdec'
                    go_wp2_with (first
                      | (go_at_call 11; (with_reducible refine (HWK.out _ H9.out.tab).mono ?_); rintro e w10 ⟨rfl, hb10⟩; have H10 := Lib.hid (H9.out.call hb10); clear hb10)
                      | (go_at_call 18; (with_reducible refine (HGE.out _ _ _ _ HO8.out.rd HO8.out.cap.1 (by have := HL2.out; have := HL'.out; omega) H8.out.tab).mono ?_); rintro e w9 ⟨x0, x1, x2, x3, x4, x5, x6, rfl, hb9⟩; have H9 := Lib.hid ((H8.out.call hb9).alloc (.cells #[.int .u8 x0, .int .u32 x1, .int .u32 x2, .string x3, .slice x4 x5 x6] 25)); clear hb9)
                      | (at_builtin; refine wpList_app8at (base := (w6.alloc (.cells #[.int .u8 y0, .int .u64 y1, .string y2, .slice y3 y4 y5] 46)).heap.size) rfl _ _ rfl rfl HO7.out rfl H7.out.rd' (by have := HL2.out; have := HL'.out; omega) HB7.out.size ?_; intro A8 c8 w8 hO8 hg8 hat8; have hb8 : Below (w6.alloc (.cells #[.int .u8 y0, .int .u64 y1, .string y2, .slice y3 y4 y5] 46)).heap.size (w6.alloc (.cells #[.int .u8 y0, .int .u64 y1, .string y2, .slice y3 y4 y5] 46)) w8 := HB7.out.trans (below_grown HO7.out hg8 HB7.out.size); have HO8 := Lib.hid hO8; have H8 := Lib.hid (H6.out.call hb8); clear hO8 hg8 hat8 hb8)
                      | (at_builtin; refine wpList_app8at (base := (w6.alloc (.cells #[.int .u8 y0, .int .u64 y1, .string y2, .slice y3 y4 y5] 46)).heap.size) rfl _ _ rfl rfl (Utf.Own.nil _ _ _ _ _) rfl H6.out.rd (by have := HL2.out; omega) (Nat.le_refl _) ?_; intro A7 c7 w7 hO7 hg7 hat7; have hb7 : Below (w6.alloc (.cells #[.int .u8 y0, .int .u64 y1, .string y2, .slice y3 y4 y5] 46)).heap.size (w6.alloc (.cells #[.int .u8 y0, .int .u64 y1, .string y2, .slice y3 y4 y5] 46)) w7 := below_grown (Utf.Own.nil .u8 256 5 _ (w6.alloc (.cells #[.int .u8 y0, .int .u64 y1, .string y2, .slice y3 y4 y5] 46)).heap.size) hg7 (Nat.le_refl _); simp only [Nat.zero_add, List.nil_append] at hO7; have HB7 := Lib.hid hb7; have HO7 := Lib.hid hO7; have H7 := Lib.hid (H6.out.call hb7); clear hO7 hg7 hat7 hb7)
                      | (go_at_call 31; (with_reducible refine (HCD.out _ H5.out).mono ?_); rintro e w6 ⟨y0, y1, y2, y3, y4, y5, rfl, hb6⟩; have H6 := Lib.hid ((H5.out.call hb6).alloc (.cells #[.int .u8 y0, .int .u64 y1, .string y2, .slice y3 y4 y5] 46)); clear hb6)
                      | (go_at_call 18; (with_reducible refine (get_e0 (HW.out.rd.take HKL.out) (Nat.le_trans HKL.out HC2.out) (by have := HKL.out; have := HL2.out; omega) HW.out.tab HG.out).mono ?_); rintro e w5 ⟨u0, u1, u2, u3, u4, u5, u6, rfl, hb5⟩; have H5 := Lib.hid ((HW.out.call hb5).alloc (.cells #[.int .u8 u0, .int .u32 u1, .int .u32 u2, .string u3, .slice u4 u5 u6] 25)); clear hb5)
                      | fail)
                    go_ret
                    exact ⟨rfl, H10.out.low⟩
                  · have hde : ((er' : Int) == 0) = false := by rw [beq_eq_false_iff_ne]; omega
                    have HBH : Hid (getM ((layL (secM ⟨p, ttl, n, id, b⟩)) ++ b') = none) := Lib.hid (get_behind HM.out HT.out HN.out HBY.out (fun e => hz (by rw [← HLB'.out, e]; rfl)) (by rw [hdec']; exact he'))
                    clear he' hz hdec'
                    go_wp2_with (first
                      | (go_at_call 11; (with_reducible refine (HWK.out _ H9.out.tab).mono ?_); rintro e w10 ⟨rfl, hb10⟩; have H10 := Lib.hid (H9.out.call hb10); clear hb10)
                      | (go_at_call 18; (with_reducible refine (get_e6 HO8.out.rd HO8.out.cap.1 (by have := HL2.out; have := HL'.out; omega) H8.out.tab HBH.out).mono ?_); rintro e w9 ⟨x0, x1, x2, x3, x4, x5, x6, rfl, hb9⟩; have H9 := Lib.hid ((H8.out.call hb9).alloc (.cells #[.int .u8 x0, .int .u32 x1, .int .u32 x2, .string x3, .slice x4 x5 x6] 25)); clear hb9)
                      | (at_builtin; refine wpList_app8at (base := (w6.alloc (.cells #[.int .u8 y0, .int .u64 y1, .string y2, .slice y3 y4 y5] 46)).heap.size) rfl _ _ rfl rfl HO7.out rfl H7.out.rd' (by have := HL2.out; have := HL'.out; omega) HB7.out.size ?_; intro A8 c8 w8 hO8 hg8 hat8; have hb8 : Below (w6.alloc (.cells #[.int .u8 y0, .int .u64 y1, .string y2, .slice y3 y4 y5] 46)).heap.size (w6.alloc (.cells #[.int .u8 y0, .int .u64 y1, .string y2, .slice y3 y4 y5] 46)) w8 := HB7.out.trans (below_grown HO7.out hg8 HB7.out.size); have HO8 := Lib.hid hO8; have H8 := Lib.hid (H6.out.call hb8); clear hO8 hg8 hat8 hb8)
                      | (at_builtin; refine wpList_app8at (base := (w6.alloc (.cells #[.int .u8 y0, .int .u64 y1, .string y2, .slice y3 y4 y5] 46)).heap.size) rfl _ _ rfl rfl (Utf.Own.nil _ _ _ _ _) rfl H6.out.rd (by have := HL2.out; omega) (Nat.le_refl _) ?_; intro A7 c7 w7 hO7 hg7 hat7; have hb7 : Below (w6.alloc (.cells #[.int .u8 y0, .int .u64 y1, .string y2, .slice y3 y4 y5] 46)).heap.size (w6.alloc (.cells #[.int .u8 y0, .int .u64 y1, .string y2, .slice y3 y4 y5] 46)) w7 := below_grown (Utf.Own.nil .u8 256 5 _ (w6.alloc (.cells #[.int .u8 y0, .int .u64 y1, .string y2, .slice y3 y4 y5] 46)).heap.size) hg7 (Nat.le_refl _); simp only [Nat.zero_add, List.nil_append] at hO7; have HB7 := Lib.hid hb7; have HO7 := Lib.hid hO7; have H7 := Lib.hid (H6.out.call hb7); clear hO7 hg7 hat7 hb7)
                      | (go_at_call 31; (with_reducible refine (HCD.out _ H5.out).mono ?_); rintro e w6 ⟨y0, y1, y2, y3, y4, y5, rfl, hb6⟩; have H6 := Lib.hid ((H5.out.call hb6).alloc (.cells #[.int .u8 y0, .int .u64 y1, .string y2, .slice y3 y4 y5] 46)); clear hb6)
                      | (go_at_call 18; (with_reducible refine (get_e0 (HW.out.rd.take HKL.out) (Nat.le_trans HKL.out HC2.out) (by have := HKL.out; have := HL2.out; omega) HW.out.tab HG.out).mono ?_); rintro e w5 ⟨u0, u1, u2, u3, u4, u5, u6, rfl, hb5⟩; have H5 := Lib.hid ((HW.out.call hb5).alloc (.cells #[.int .u8 u0, .int .u32 u1, .int .u32 u2, .string u3, .slice u4 u5 u6] 25)); clear hb5)
                      | fail)
                    go_ret
                    exact ⟨rfl, H10.out.low⟩
              · have hkn : ((j : Int) == (l2 : Int)) = false := by rw [beq_eq_false_iff_ne]; omega
                clear hkl2
                go_wp2_with (first
                  | (go_at_call 11; (with_reducible refine (HWK.out _ H5.out.tab).mono ?_); rintro e w10 ⟨rfl, hb10⟩; have H10 := Lib.hid (H5.out.call hb10); clear hb10)
                  | (go_at_call 18; (with_reducible refine (get_e0 (HW.out.rd.take HKL.out) (Nat.le_trans HKL.out HC2.out) (by have := HKL.out; have := HL2.out; omega) HW.out.tab HG.out).mono ?_); rintro e w5 ⟨u0, u1, u2, u3, u4, u5, u6, rfl, hb5⟩; have H5 := Lib.hid ((HW.out.call hb5).alloc (.cells #[.int .u8 u0, .int .u32 u1, .int .u32 u2, .string u3, .slice u4 u5 u6] 25)); clear hb5)
                  | fail)
                go_ret
                exact ⟨rfl, H10.out.low⟩
end Go.Proofs.YtneanfjcncdfdaaGreatDoor.messageWhole
end
section
namespace Go.Proofs.YtneanfjcncdfdaaGreatDoor.messageWhole
open Go.ChangeShapes Go.WideShapes Go.ChangeAt Go.RowKit Utf Val Fl Me
set_option maxRecDepth 100000 in
theorem lifted (os : Os) (started : os.Started) (H : Type) (enc : TypeId × Value → H) :
    ReturnsInHanded {} Tryz.checked os 9 .any (fun w args => (Rows.messageWholeSpec.pre enc Tryz.prog Tryz.f9 [] false w args ∧ laidMetH Tryz.prog laid w) ∧ sizedMet enc Tryz.prog Tryz.f9 (OpenSpec.ofChange Rows.messageWholeSpec) false w args)
      (Rows.messageWholeSpec.post enc Tryz.prog Tryz.f9 false true false false) := by
  refine returnsInHanded_of_change_and (C := Tryz.checked) (X := fun w _ => laidMetH Tryz.prog laid w) (fun _ _ _ hh h => h.of_heap hh) own started (by kernel_rfl) Tryz.func9
    (ChangeSpec.witness_shaped (enc := enc) (C := Tryz.checked) (os := os) (X := fun w _ => laidMetH Tryz.prog laid w) false (World.doorLaid Tryz.prog 400 os) #[.agg #[.int .u8 0, .int .u32 0, .int .u32 0, .string ⟨#[]⟩, .slice none 0 0], .int .u16 0, .slice none 0 0] 8 rfl (World.shaped_of_RefB (by kernel_rfl) (by kernel_rfl)) (by kernel_rfl) (by kernel_rfl) (by kernel_rfl) (door_met os _)) ?_
  intro W base args ds gs before hval0 hW _ _ hL _
  have hval : ∀ (j : Nat) t v, Tryz.f9.params[j]? = some t → args[j]? = some v → Value.okWide Tryz.prog W .any base t v := hval0
  have hW' := hW
  obtain ⟨p, q, hA0, hV, rfl, hfz, hnd⟩ := hW
  have hA : DataW.TrodAll enc Tryz.prog W 0 (fun _ => true) true Tryz.f9.params.toList args.toList ds p := hA0
  rw [Tryz.params9] at hA hval
  obtain ⟨v0, vs0, d0, ds0, p0, q0, hargs, rfl, rfl, h0, r0⟩ := trodAll_cons hA
  obtain ⟨v1, vs1, d1, ds1, p1, q1, rfl, rfl, rfl, h1, r1⟩ := trodAll_cons r0
  obtain ⟨v2, vs2, d2, ds2, p2, q2, rfl, rfl, rfl, h2, r2⟩ := trodAll_cons r1
  obtain ⟨rfl, rfl, rfl⟩ := trodAll_nil r2
  obtain rfl : args = #[v0, v1, v2] := by cases args; simp_all
  obtain ⟨rfl, rfl⟩ := trodVars_none hV
  have hT := of_laid hL
  clear hA0 hval0
  simp only [List.append_nil] at hW'
  have hlt0 : ∀ x ∈ p0, x.block < W.heap.size := fun x hx => hW'.lt x (by simp [hx])
  obtain ⟨p0, e0, n0, s0, A0, l0, c0, b0, rfl, hp0, he0, hn0, hr0, hc0, hm0⟩ := open_msg (hval 0 25 v0 rfl rfl) h0 hlt0
  obtain ⟨a1, rfl, rfl, rfl, w1⟩ := open_int Tryz.underlying60 (hval 1 60 v1 rfl rfl) h1
  have b1 : 0 ≤ a1 ∧ a1 < 65536 := by have := w1; simp [Lit.wf, IntKind.min, IntKind.max, IntKind.signed, IntKind.bits] at this; omega
  obtain ⟨X1, rfl⟩ := Int.eq_ofNat_of_zero_le b1.1
  have hlt2 : ∀ x ∈ p2, x.block < W.heap.size := fun x hx => hW'.lt x (by simp [hx])
  obtain ⟨A2, l2, c2, b2, rfl, hc2, hm2, hr2⟩ := open_nums (K := .u8) (M := 256) Tryz.underlying23 Tryz.underlying5 cells5 (fun _ => u8_of_wf) (hval 2 23 _ rfl rfl) h2 hlt2
  refine (walk p0 e0 n0 s0 A0 l0 c0 b0 X1 A2 l2 c2 b2 W hT hp0 he0 hn0 hr0 (by omega) hr2 hc2).mono fun e W' ⟨he, hb⟩ => ?_
  subst he
  exact ⟨_, rfl, _, _, _, [], _, [], hW', trodAll_mk1 (shut_bool Tryz.underlying4 _), trodAll_cons_mk (Below.trod laidOut (by kernel_rfl) (of_decide_eq_true (by kernel_rfl)) h0 hb hlt0) (trodAll_cons_mk (shut_int Tryz.underlying60 w1) (trodAll_cons_mk (Below.trod laidOut (by kernel_rfl) (of_decide_eq_true (by kernel_rfl)) h2 hb hlt2) trodAll_mk0)), rfl, hb.frame _, fun h => by cases h⟩
theorem over : Rows.messageWholeRow.holds Tryz.pinned (OpenSpec.ofChange Rows.messageWholeSpec) :=
  OpenClaim.holds_of_wide 9 Tryz.f9 rfl rfl rfl rfl rfl rfl rfl ⟨rfl, rfl, rfl, rfl, rfl⟩ rfl rfl rfl rfl rfl (by kernel_rfl) Tryz.func9 (by kernel_rfl)
    (of_decide_eq_true (by kernel_rfl)) (by unfold Func.isWrapper; first | (rw [if_pos (by decide +kernel)]; kernel_rfl) | (rw [if_neg (by decide +kernel)]; exact ⟨rfl, rfl⟩))
    (fun os started H enc _ => lifted os started H enc)
/-- The statement: the tied card. -/
theorem proved : Rows.MessageWholeCardSaid :=
  Claim7.holds_tied_plain_at .later [] [.data] true (true, "87c33a7d3582da8a5da947ba8d09e4eeceb7658fff2c93924d2f067bac9606cc") true
    over (fun _ h => by cases h) (by kernel_rfl) (fun _ h => by cases h) messageWhole_row_tie rfl ⟨rfl, rfl⟩ (by kernel_rfl) rfl
    (fun f fn hf hfn => by
      obtain rfl : f = 9 := Option.some.inj ((show Tryz.prog.funcNamed "bellwether/bellwetherlaw10.MessageWhole" = some 9 by kernel_rfl).symm.trans hf) |>.symm
      obtain rfl : fn = Tryz.f9 := (Option.some.inj (Tryz.func9.symm.trans hfn)).symm
      exact ⟨by kernel_rfl, fun j t ht => by
        rw [Tryz.params9] at ht
        have hm : t ∈ [25, 60, 23] := by simpa using Array.mem_of_getElem? ht
        have hall : ([25, 60, 23].all fun u => !Tryz.prog.wantsStandIn u) = true := by kernel_rfl
        exact (show Tryz.prog.wantsStandIn t = false by simpa using List.all_eq_true.1 hall t hm)⟩)
    (by kernel_rfl)
end Go.Proofs.YtneanfjcncdfdaaGreatDoor.messageWhole
end
