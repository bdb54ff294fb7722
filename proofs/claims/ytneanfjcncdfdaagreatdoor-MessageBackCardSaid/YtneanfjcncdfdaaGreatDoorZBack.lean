/-
  Contracts of functions and plain mathematics, text by text, each with its conditions ahead of it:
  The statement MessageBack, walked: it answers true. Memory that was there stays. Condition: the table utf.shapes lies as the program's text lays it.
  The statement MessageBack: what Put made Get tells as it was; what Get tells may be, and is told again behind Put. Condition, as the card has it: the table utf.shapes lies as the program's text lays it.
-/
import Derived.Test.YtneanfjcncdfdaaGreatDoorY23
import Derived.Test.YtneanfjcncdfdaaGreatDoorY24

section
namespace Go.Proofs.YtneanfjcncdfdaaGreatDoor.messageBack
set_option maxRecDepth 100000
open Go.RowKit Go.Proofs.YtneanfjcncdfdaaGreatDoor.Utf Go.Proofs.YtneanfjcncdfdaaGreatDoor.Val Go.Proofs.YtneanfjcncdfdaaGreatDoor.Fl Go.Proofs.YtneanfjcncdfdaaGreatDoor.Me V
/-- What is kept: the message's box, what may be read. -/
structure BK (w wi : World) (p ttl n : Nat) (id : ByteArray) (A : Option Addr) (l c : Nat) (b : List Nat) (A' : Option Addr) (l' : Nat) (b' : List Nat) : Prop where
  bx : BxM wi w.heap.size (.int .u8 (p : Int)) (.int .u32 (ttl : Int)) (.int .u32 (n : Int)) (.string id) (.slice A l c)
  rd : Rd .u8 256 wi wi.heap.size A l b
  rd' : Rd .u8 256 wi wi.heap.size A' l' b'
  tab : Tab wi
  low : Below w.heap.size w wi
section
variable {w wi w' : World} {p ttl n : Nat} {id : ByteArray} {A : Option Addr} {l c : Nat} {b : List Nat} {A' : Option Addr} {l' : Nat} {b' : List Nat}
theorem BK.call (h : BK w wi p ttl n id A l c b A' l' b') (hb : Below wi.heap.size wi w') : BK w w' p ttl n id A l c b A' l' b' := ⟨h.bx.call hb, h.rd.call hb, h.rd'.call hb, h.tab.call hb, below_next h.low hb⟩
theorem BK.alloc (h : BK w wi p ttl n id A l c b A' l' b') (o : Obj) : BK w (wi.alloc o) p ttl n id A l c b A' l' b' := h.call ((Below.refl _ _).alloc (Nat.le_refl _) _)
end
set_option maxHeartbeats 4000000 in
theorem walk (p ttl n : Nat) (id : ByteArray) (A : Option Addr) (l c : Nat) (b : List Nat) (A' : Option Addr) (l' c' : Nat) (b' : List Nat) (w : World) (hTab : Tab w) (hp : p < 256) (ht : ttl < 4294967296) (hn : n < 4294967296) (hr : Rd .u8 256 w w.heap.size A l b) (hr' : Rd .u8 256 w w.heap.size A' l' b') (hc' : l' ≤ c') :
    Calls Tryz.prog 5 #[mV p ttl n id A l c, .slice A' l' c'] w (GivesB true w) := by
  have hb0 : Below w.heap.size w (w.alloc (.cells #[.int .u8 (p : Int), .int .u32 (ttl : Int), .int .u32 (n : Int), .string id, .slice A l c] 25)) := (Below.refl _ _).alloc (Nat.le_refl _) _
  have H0 := Lib.hid (show BK w (w.alloc (.cells #[.int .u8 (p : Int), .int .u32 (ttl : Int), .int .u32 (n : Int), .string id, .slice A l c] 25)) p ttl n id A l c b A' l' b' from ⟨BxM.new _ _ _ _ _ _, hr.call hb0, hr'.call hb0, hTab.call hb0, hb0⟩)
  obtain ⟨d, hd⟩ : ∃ d, (decide (4096 < id.size) || decide (8192 < l)) = d := ⟨_, rfl⟩
  obtain ⟨d', hd'⟩ : ∃ d', decide (8192 < l') = d' := ⟨_, rfl⟩
  have e1 : decide ((8192 : Int) < (l' : Int)) = d' := by rw [← hd']; simp; omega
  have HLG := Lib.hid (fun wx => mlarge_any p ttl n id A l c wx d hd)
  have HP := Lib.hid hp
  have HT := Lib.hid ht
  have HN := Lib.hid hn
  have HC := Lib.hid hc'
  have HWK := Lib.hid (fun wx (h : Tab wx) => works10_any wx h)
  unfold mV at HLG ⊢
  clear hb0 hr hr' hTab hp ht hn hc'
  cases d with
  | true =>
    clear hd hd' e1
    go_enter Tryz.func5, Tryz.ntmps5
    go_wp2_with (first
      | (go_at_call 10; (with_reducible refine (HLG.out _).mono ?_); rintro e w1 ⟨rfl, hb1⟩; have H1 := Lib.hid (H0.out.call hb1); clear hb1)
      | (go_at_call 11; (with_reducible refine (HWK.out _ H1.out.tab).mono ?_); rintro e w2 ⟨rfl, hb2⟩; have H2 := Lib.hid (H1.out.call hb2); clear hb2)
      | fail)
    go_ret
    exact ⟨rfl, H2.out.low⟩
  | false =>
    cases d' with
    | true =>
      clear hd hd'
      go_enter Tryz.func5, Tryz.ntmps5
      go_wp2_with (first
        | (go_at_call 10; (with_reducible refine (HLG.out _).mono ?_); rintro e w1 ⟨rfl, hb1⟩; have H1 := Lib.hid (H0.out.call hb1); clear hb1)
        | (go_at_call 11; (with_reducible refine (HWK.out _ H1.out.tab).mono ?_); rintro e w2 ⟨rfl, hb2⟩; have H2 := Lib.hid (H1.out.call hb2); clear hb2)
        | fail)
      go_ret
      exact ⟨rfl, H2.out.low⟩
    | false =>
      have hs : id.size ≤ 4096 ∧ l ≤ 8192 := by simp at hd; omega
      have hl' : l' ≤ 8192 := by simp at hd'; omega
      have HS := Lib.hid hs
      have HL' := Lib.hid hl'
      have HGET := Lib.hid (fun wx (h : BK w wx p ttl n id A l c b A' l' b') => mget_any A' l' c' b' wx h.rd' HC.out (by have := HL'.out; omega) h.tab)
      have HBY : Hid (∀ x ∈ b, x < 256) := Lib.hid (fun x hx => H0.out.rd.lim x hx)
      clear hd hd' hs hl'
      cases hm : mayM ⟨p, ttl, n, id, b⟩ with
      | true =>
        have HM := Lib.hid hm
        clear hm
        cases hg : getM b' with
        | none =>
          rw [hg] at HGET
          clear hg
          go_enter Tryz.func5, Tryz.ntmps5
          go_wp2_with (first
            | (go_at_call 11; (with_reducible refine (HWK.out _ H7.out.tab).mono ?_); rintro e w9 ⟨rfl, hb9⟩; have H9 := Lib.hid (H7.out.call hb9); clear hb9)
            | (go_at_call 20; (with_reducible refine (same_zero _).mono ?_); rintro e w7 ⟨rfl, hb7⟩; have H7 := Lib.hid (H6.out.call hb7); clear hb7)
            | (go_at_call 18; (with_reducible refine (HGET.out _ H4.out).mono ?_); rintro e w6 ⟨rfl, hb6⟩; have H6 := Lib.hid ((H4.out.call hb6).alloc (.cells #[.int .u8 0, .int .u32 0, .int .u32 0, .string ⟨#[]⟩, .slice none 0 0] 25)); obtain ⟨z0, z1, z2, z3, z4, zf⟩ := (BxM.new w6 (.int .u8 0) (.int .u32 0) (.int .u32 0) (.string ⟨#[]⟩) (.slice none 0 0)).all; clear hb6)
            | (go_at_call 20; (with_reducible refine (same_msg p ttl n id A l c A3 l3 c3 b _ H3.out.rd HR3.out).mono ?_); rintro e w4 ⟨rfl, hb4⟩; have H4 := Lib.hid (H3.out.call hb4); clear hb4)
            | (go_at_call 18; (with_reducible refine (get_back p ttl n id b A2 l2 c2 _ _ HT.out HN.out HM.out HBY.out HO2.out H2.out.tab).mono ?_); rintro e w3 ⟨A3, l3, c3, rfl, hO3, hb3⟩; have H3 := Lib.hid ((H2.out.call hb3).alloc (.cells #[.int .u8 (p : Int), .int .u32 (ttl : Int), .int .u32 (n : Int), .string id, .slice A3 l3 c3] 25)); have HR3 := Lib.hid (hO3.rd.call ((Below.refl _ _).alloc (Nat.le_refl _) (.cells #[.int .u8 (p : Int), .int .u32 (ttl : Int), .int .u32 (n : Int), .string id, .slice A3 l3 c3] 25))); obtain ⟨x0, x1, x2, x3, x4, xf⟩ := H3.out.bx.all; obtain ⟨y0, y1, y2, y3, y4, yf⟩ := (BxM.new w3 (.int .u8 (p : Int)) (.int .u32 (ttl : Int)) (.int .u32 (n : Int)) (.string id) (.slice A3 l3 c3)).all; clear hb3 hO3)
            | (go_at_call 13; (with_reducible refine (put_yes p ttl n id A l c b _ HP.out HT.out HN.out HM.out H1.out.rd H1.out.tab).mono ?_); rintro e w2 ⟨A2, l2, c2, rfl, hO2, hb2⟩; have H2 := Lib.hid (H1.out.call hb2); have HO2 := Lib.hid hO2; clear hb2 hO2)
            | (go_at_call 10; (with_reducible refine (HLG.out _).mono ?_); rintro e w1 ⟨rfl, hb1⟩; have H1 := Lib.hid (H0.out.call hb1); obtain ⟨t0, t1, t2, t3, t4, tf⟩ := H1.out.bx.all; clear hb1)
            | fail)
          go_ret
          exact ⟨rfl, H9.out.low⟩
        | some m2 =>
          rw [hg] at HGET
          obtain ⟨hm2, hi2⟩ := get_may hg
          obtain ⟨p2, ttl2, n2, id2, b2⟩ := m2
          have HM2 := Lib.hid hm2
          have HI := Lib.hid hi2
          have HGET2 : Hid (∀ wx, BK w wx p ttl n id A l c b A' l' b' → Calls Tryz.prog 18 #[.slice A' l' c'] wx (GivesM p2 ttl2 n2 id2 b2 wx)) := HGET
          clear hg hm2 hi2
          go_enter Tryz.func5, Tryz.ntmps5
          go_wp2_with (first
            | (go_at_call 11; (with_reducible refine (HWK.out _ H9.out.tab).mono ?_); rintro e w10 ⟨rfl, hb10⟩; have H10 := Lib.hid (H9.out.call hb10); clear hb10)
            | (go_at_call 20; (with_reducible refine (same_msg p2 ttl2 n2 id2 A6 l6 c6 A8 l8 c8 b2 _ HR68.out HR8.out).mono ?_); rintro e w9 ⟨rfl, hb9⟩; have H9 := Lib.hid (H8.out.call hb9); clear hb9)
            | (go_at_call 18; (with_reducible refine (get_back p2 ttl2 n2 id2 b2 A7 l7 c7 _ _ HI.out.ttl HI.out.n HM2.out HI.out.body HO7.out H7.out.tab).mono ?_); rintro e w8 ⟨A8, l8, c8, rfl, hO8, hb8⟩; have hb8a := hb8.alloc hb8.size (.cells #[.int .u8 (p2 : Int), .int .u32 (ttl2 : Int), .int .u32 (n2 : Int), .string id2, .slice A8 l8 c8] 25); have H8 := Lib.hid (H7.out.call hb8a); have HR68 := Lib.hid (HR67.out.call hb8a); have HR8 := Lib.hid (hO8.rd.call ((Below.refl _ _).alloc (Nat.le_refl _) (.cells #[.int .u8 (p2 : Int), .int .u32 (ttl2 : Int), .int .u32 (n2 : Int), .string id2, .slice A8 l8 c8] 25))); obtain ⟨u0, u1, u2, u3, u4, uf⟩ := (HX67.out.call hb8a).all; obtain ⟨v0, v1, v2, v3, v4, vf⟩ := (BxM.new w8 (.int .u8 (p2 : Int)) (.int .u32 (ttl2 : Int)) (.int .u32 (n2 : Int)) (.string id2) (.slice A8 l8 c8)).all; clear hb8 hb8a hO8)
            | (go_at_call 13; (with_reducible refine (put_yes p2 ttl2 n2 id2 A6 l6 c6 b2 _ (Nat.lt_of_le_of_lt HI.out.p (by omega)) HI.out.ttl HI.out.n HM2.out HR6.out H6.out.tab).mono ?_); rintro e w7 ⟨A7, l7, c7, rfl, hO7, hb7⟩; have H7 := Lib.hid (H6.out.call hb7); have HO7 := Lib.hid hO7; have HR67 := Lib.hid (HR6.out.call hb7); have HX67 := Lib.hid (HX6.out.call hb7); clear hb7 hO7)
            | (go_at_call 18; (with_reducible refine (HGET2.out _ H4.out).mono ?_); rintro e w6 ⟨A6, l6, c6, rfl, hO6, hb6⟩; have H6 := Lib.hid ((H4.out.call hb6).alloc (.cells #[.int .u8 (p2 : Int), .int .u32 (ttl2 : Int), .int .u32 (n2 : Int), .string id2, .slice A6 l6 c6] 25)); have HR6 := Lib.hid (hO6.rd.call ((Below.refl _ _).alloc (Nat.le_refl _) (.cells #[.int .u8 (p2 : Int), .int .u32 (ttl2 : Int), .int .u32 (n2 : Int), .string id2, .slice A6 l6 c6] 25))); have HX6 := Lib.hid (BxM.new w6 (.int .u8 (p2 : Int)) (.int .u32 (ttl2 : Int)) (.int .u32 (n2 : Int)) (.string id2) (.slice A6 l6 c6)); obtain ⟨z0, z1, z2, z3, z4, zf⟩ := HX6.out.all; clear hb6 hO6)
            | (go_at_call 20; (with_reducible refine (same_msg p ttl n id A l c A3 l3 c3 b _ H3.out.rd HR3.out).mono ?_); rintro e w4 ⟨rfl, hb4⟩; have H4 := Lib.hid (H3.out.call hb4); clear hb4)
            | (go_at_call 18; (with_reducible refine (get_back p ttl n id b A2 l2 c2 _ _ HT.out HN.out HM.out HBY.out HO2.out H2.out.tab).mono ?_); rintro e w3 ⟨A3, l3, c3, rfl, hO3, hb3⟩; have H3 := Lib.hid ((H2.out.call hb3).alloc (.cells #[.int .u8 (p : Int), .int .u32 (ttl : Int), .int .u32 (n : Int), .string id, .slice A3 l3 c3] 25)); have HR3 := Lib.hid (hO3.rd.call ((Below.refl _ _).alloc (Nat.le_refl _) (.cells #[.int .u8 (p : Int), .int .u32 (ttl : Int), .int .u32 (n : Int), .string id, .slice A3 l3 c3] 25))); obtain ⟨x0, x1, x2, x3, x4, xf⟩ := H3.out.bx.all; obtain ⟨y0, y1, y2, y3, y4, yf⟩ := (BxM.new w3 (.int .u8 (p : Int)) (.int .u32 (ttl : Int)) (.int .u32 (n : Int)) (.string id) (.slice A3 l3 c3)).all; clear hb3 hO3)
            | (go_at_call 13; (with_reducible refine (put_yes p ttl n id A l c b _ HP.out HT.out HN.out HM.out H1.out.rd H1.out.tab).mono ?_); rintro e w2 ⟨A2, l2, c2, rfl, hO2, hb2⟩; have H2 := Lib.hid (H1.out.call hb2); have HO2 := Lib.hid hO2; clear hb2 hO2)
            | (go_at_call 10; (with_reducible refine (HLG.out _).mono ?_); rintro e w1 ⟨rfl, hb1⟩; have H1 := Lib.hid (H0.out.call hb1); obtain ⟨t0, t1, t2, t3, t4, tf⟩ := H1.out.bx.all; clear hb1)
            | fail)
          go_ret
          exact ⟨rfl, H10.out.low⟩
      | false =>
        have HM := Lib.hid hm
        clear hm
        cases hg : getM b' with
        | none =>
          rw [hg] at HGET
          clear hg
          go_enter Tryz.func5, Tryz.ntmps5
          go_wp2_with (first
            | (go_at_call 11; (with_reducible refine (HWK.out _ H7.out.tab).mono ?_); rintro e w9 ⟨rfl, hb9⟩; have H9 := Lib.hid (H7.out.call hb9); clear hb9)
            | (go_at_call 20; (with_reducible refine (same_zero _).mono ?_); rintro e w7 ⟨rfl, hb7⟩; have H7 := Lib.hid (H6.out.call hb7); clear hb7)
            | (go_at_call 18; (with_reducible refine (HGET.out _ H4.out).mono ?_); rintro e w6 ⟨rfl, hb6⟩; have H6 := Lib.hid ((H4.out.call hb6).alloc (.cells #[.int .u8 0, .int .u32 0, .int .u32 0, .string ⟨#[]⟩, .slice none 0 0] 25)); obtain ⟨z0, z1, z2, z3, z4, zf⟩ := (BxM.new w6 (.int .u8 0) (.int .u32 0) (.int .u32 0) (.string ⟨#[]⟩) (.slice none 0 0)).all; clear hb6)
            | (go_at_call 13; (with_reducible refine (put_not p ttl n id A l c b _ HP.out HT.out HN.out HS.out HM.out H1.out.rd H1.out.tab).mono ?_); rintro e w2 ⟨rfl, hb2⟩; have H4 := Lib.hid (H1.out.call hb2); clear hb2)
            | (go_at_call 10; (with_reducible refine (HLG.out _).mono ?_); rintro e w1 ⟨rfl, hb1⟩; have H1 := Lib.hid (H0.out.call hb1); obtain ⟨t0, t1, t2, t3, t4, tf⟩ := H1.out.bx.all; clear hb1)
            | fail)
          go_ret
          exact ⟨rfl, H9.out.low⟩
        | some m2 =>
          rw [hg] at HGET
          obtain ⟨hm2, hi2⟩ := get_may hg
          obtain ⟨p2, ttl2, n2, id2, b2⟩ := m2
          have HM2 := Lib.hid hm2
          have HI := Lib.hid hi2
          have HGET2 : Hid (∀ wx, BK w wx p ttl n id A l c b A' l' b' → Calls Tryz.prog 18 #[.slice A' l' c'] wx (GivesM p2 ttl2 n2 id2 b2 wx)) := HGET
          clear hg hm2 hi2
          go_enter Tryz.func5, Tryz.ntmps5
          go_wp2_with (first
            | (go_at_call 11; (with_reducible refine (HWK.out _ H9.out.tab).mono ?_); rintro e w10 ⟨rfl, hb10⟩; have H10 := Lib.hid (H9.out.call hb10); clear hb10)
            | (go_at_call 20; (with_reducible refine (same_msg p2 ttl2 n2 id2 A6 l6 c6 A8 l8 c8 b2 _ HR68.out HR8.out).mono ?_); rintro e w9 ⟨rfl, hb9⟩; have H9 := Lib.hid (H8.out.call hb9); clear hb9)
            | (go_at_call 18; (with_reducible refine (get_back p2 ttl2 n2 id2 b2 A7 l7 c7 _ _ HI.out.ttl HI.out.n HM2.out HI.out.body HO7.out H7.out.tab).mono ?_); rintro e w8 ⟨A8, l8, c8, rfl, hO8, hb8⟩; have hb8a := hb8.alloc hb8.size (.cells #[.int .u8 (p2 : Int), .int .u32 (ttl2 : Int), .int .u32 (n2 : Int), .string id2, .slice A8 l8 c8] 25); have H8 := Lib.hid (H7.out.call hb8a); have HR68 := Lib.hid (HR67.out.call hb8a); have HR8 := Lib.hid (hO8.rd.call ((Below.refl _ _).alloc (Nat.le_refl _) (.cells #[.int .u8 (p2 : Int), .int .u32 (ttl2 : Int), .int .u32 (n2 : Int), .string id2, .slice A8 l8 c8] 25))); obtain ⟨u0, u1, u2, u3, u4, uf⟩ := (HX67.out.call hb8a).all; obtain ⟨v0, v1, v2, v3, v4, vf⟩ := (BxM.new w8 (.int .u8 (p2 : Int)) (.int .u32 (ttl2 : Int)) (.int .u32 (n2 : Int)) (.string id2) (.slice A8 l8 c8)).all; clear hb8 hb8a hO8)
            | (go_at_call 13; (with_reducible refine (put_yes p2 ttl2 n2 id2 A6 l6 c6 b2 _ (Nat.lt_of_le_of_lt HI.out.p (by omega)) HI.out.ttl HI.out.n HM2.out HR6.out H6.out.tab).mono ?_); rintro e w7 ⟨A7, l7, c7, rfl, hO7, hb7⟩; have H7 := Lib.hid (H6.out.call hb7); have HO7 := Lib.hid hO7; have HR67 := Lib.hid (HR6.out.call hb7); have HX67 := Lib.hid (HX6.out.call hb7); clear hb7 hO7)
            | (go_at_call 18; (with_reducible refine (HGET2.out _ H4.out).mono ?_); rintro e w6 ⟨A6, l6, c6, rfl, hO6, hb6⟩; have H6 := Lib.hid ((H4.out.call hb6).alloc (.cells #[.int .u8 (p2 : Int), .int .u32 (ttl2 : Int), .int .u32 (n2 : Int), .string id2, .slice A6 l6 c6] 25)); have HR6 := Lib.hid (hO6.rd.call ((Below.refl _ _).alloc (Nat.le_refl _) (.cells #[.int .u8 (p2 : Int), .int .u32 (ttl2 : Int), .int .u32 (n2 : Int), .string id2, .slice A6 l6 c6] 25))); have HX6 := Lib.hid (BxM.new w6 (.int .u8 (p2 : Int)) (.int .u32 (ttl2 : Int)) (.int .u32 (n2 : Int)) (.string id2) (.slice A6 l6 c6)); obtain ⟨z0, z1, z2, z3, z4, zf⟩ := HX6.out.all; clear hb6 hO6)
            | (go_at_call 13; (with_reducible refine (put_not p ttl n id A l c b _ HP.out HT.out HN.out HS.out HM.out H1.out.rd H1.out.tab).mono ?_); rintro e w2 ⟨rfl, hb2⟩; have H4 := Lib.hid (H1.out.call hb2); clear hb2)
            | (go_at_call 10; (with_reducible refine (HLG.out _).mono ?_); rintro e w1 ⟨rfl, hb1⟩; have H1 := Lib.hid (H0.out.call hb1); obtain ⟨t0, t1, t2, t3, t4, tf⟩ := H1.out.bx.all; clear hb1)
            | fail)
          go_ret
          exact ⟨rfl, H10.out.low⟩
end Go.Proofs.YtneanfjcncdfdaaGreatDoor.messageBack
end
section
namespace Go.Proofs.YtneanfjcncdfdaaGreatDoor.messageBack
open Go.ChangeShapes Go.WideShapes Go.ChangeAt Go.RowKit Go.Proofs.YtneanfjcncdfdaaGreatDoor.Utf Go.Proofs.YtneanfjcncdfdaaGreatDoor.Val Go.Proofs.YtneanfjcncdfdaaGreatDoor.Fl Go.Proofs.YtneanfjcncdfdaaGreatDoor.Me
set_option maxRecDepth 100000 in
theorem lifted (os : Os) (started : os.Started) (H : Type) (enc : TypeId × Value → H) :
    ReturnsInHanded {} Tryz.checked os 5 .any (fun w args => (Rows.messageBackSpec.pre enc Tryz.prog Tryz.f5 [] false w args ∧ laidMetH Tryz.prog laid w) ∧ sizedMet enc Tryz.prog Tryz.f5 (OpenSpec.ofChange Rows.messageBackSpec) false w args)
      (Rows.messageBackSpec.post enc Tryz.prog Tryz.f5 false true false false) := by
  refine returnsInHanded_of_change_and (C := Tryz.checked) (X := fun w _ => laidMetH Tryz.prog laid w) (fun _ _ _ hh h => h.of_heap hh) own started (by kernel_rfl) Tryz.func5
    (ChangeSpec.witness_shaped (enc := enc) (C := Tryz.checked) (os := os) (X := fun w _ => laidMetH Tryz.prog laid w) false (World.doorLaid Tryz.prog 400 os) #[.agg #[.int .u8 0, .int .u32 0, .int .u32 0, .string ⟨#[]⟩, .slice none 0 0], .slice none 0 0] 8 rfl (World.shaped_of_RefB (by kernel_rfl) (by kernel_rfl)) (by kernel_rfl) (by kernel_rfl) (by kernel_rfl) (door_met os _)) ?_
  intro W base args ds gs before hval0 hW _ _ hL _
  have hval : ∀ (j : Nat) t v, Tryz.f5.params[j]? = some t → args[j]? = some v → Value.okWide Tryz.prog W .any base t v := hval0
  have hW' := hW
  obtain ⟨p, q, hA0, hV, rfl, hfz, hnd⟩ := hW
  have hA : DataW.TrodAll enc Tryz.prog W 0 (fun _ => true) true Tryz.f5.params.toList args.toList ds p := hA0
  rw [Tryz.params5] at hA hval
  obtain ⟨v0, vs0, d0, ds0, p0, q0, hargs, rfl, rfl, h0, r0⟩ := trodAll_cons hA
  obtain ⟨v1, vs1, d1, ds1, p1, q1, rfl, rfl, rfl, h1, r1⟩ := trodAll_cons r0
  obtain ⟨rfl, rfl, rfl⟩ := trodAll_nil r1
  obtain rfl : args = #[v0, v1] := by cases args; simp_all
  obtain ⟨rfl, rfl⟩ := trodVars_none hV
  have hT := of_laid hL
  clear hA0 hval0
  simp only [List.append_nil] at hW'
  have hlt0 : ∀ x ∈ p0, x.block < W.heap.size := fun x hx => hW'.lt x (by simp [hx])
  obtain ⟨p0, e0, n0, s0, A0, l0, c0, b0, rfl, hp0, he0, hn0, hr0, hc0, hm0⟩ := open_msg (hval 0 25 v0 rfl rfl) h0 hlt0
  have hlt1 : ∀ x ∈ p1, x.block < W.heap.size := fun x hx => hW'.lt x (by simp [hx])
  obtain ⟨A1, l1, c1, b1, rfl, hc1, hm1, hr1⟩ := open_nums (K := .u8) (M := 256) Tryz.underlying23 Tryz.underlying5 cells5 (fun _ => u8_of_wf) (hval 1 23 _ rfl rfl) h1 hlt1
  refine (walk p0 e0 n0 s0 A0 l0 c0 b0 A1 l1 c1 b1 W hT hp0 he0 hn0 hr0 hr1 hc1).mono fun e W' ⟨he, hb⟩ => ?_
  subst he
  exact ⟨_, rfl, _, _, _, [], _, [], hW', trodAll_mk1 (shut_bool Tryz.underlying4 _), trodAll_cons_mk (Below.trod laidOut (by kernel_rfl) (of_decide_eq_true (by kernel_rfl)) h0 hb hlt0) (trodAll_cons_mk (Below.trod laidOut (by kernel_rfl) (of_decide_eq_true (by kernel_rfl)) h1 hb hlt1) trodAll_mk0), rfl, hb.frame _, fun h => by cases h⟩
theorem over : Rows.messageBackRow.holds Tryz.pinned (OpenSpec.ofChange Rows.messageBackSpec) :=
  OpenClaim.holds_of_wide 5 Tryz.f5 rfl rfl rfl rfl rfl rfl rfl ⟨rfl, rfl, rfl, rfl, rfl⟩ rfl rfl rfl rfl rfl (by kernel_rfl) Tryz.func5 (by kernel_rfl)
    (of_decide_eq_true (by kernel_rfl)) (by unfold Func.isWrapper; first | (rw [if_pos (by decide +kernel)]; kernel_rfl) | (rw [if_neg (by decide +kernel)]; exact ⟨rfl, rfl⟩))
    (fun os started H enc _ => lifted os started H enc)
/-- The statement: the tied card. -/
theorem proved : Rows.MessageBackCardSaid :=
  Claim7.holds_tied_plain_at .later [] [.data] true (true, "87c33a7d3582da8a5da947ba8d09e4eeceb7658fff2c93924d2f067bac9606cc") true
    over (fun _ h => by cases h) (by kernel_rfl) (fun _ h => by cases h) messageBack_row_tie rfl ⟨rfl, rfl⟩ (by kernel_rfl) rfl
    (fun f fn hf hfn => by
      obtain rfl : f = 5 := Option.some.inj ((show Tryz.prog.funcNamed "bellwether/bellwetherlaw10.MessageBack" = some 5 by kernel_rfl).symm.trans hf) |>.symm
      obtain rfl : fn = Tryz.f5 := (Option.some.inj (Tryz.func5.symm.trans hfn)).symm
      exact ⟨by kernel_rfl, fun j t ht => by
        rw [Tryz.params5] at ht
        have hm : t ∈ [25, 23] := by simpa using Array.mem_of_getElem? ht
        have hall : ([25, 23].all fun u => !Tryz.prog.wantsStandIn u) = true := by kernel_rfl
        exact (show Tryz.prog.wantsStandIn t = false by simpa using List.all_eq_true.1 hall t hm)⟩)
    (by kernel_rfl)
end Go.Proofs.YtneanfjcncdfdaaGreatDoor.messageBack
end
