/-
  The walk of the statement DecodeWide: a list and a map told with a size and a count of four bytes. Conditions: values of bulk at most 2^20; the table of utf.
-/
import Derived.Test.YtikjnbognjicdaaDoorDwi
import Derived.Test.YtikjnbognjicdaaDoorBeg
import Derived.Deep.RegionHeld3
namespace Go.Proofs.YtikjnbognjicdaaDoor.Dec
set_option maxRecDepth 100000
open Go.RowKit Go.Proofs.YtikjnbognjicdaaDoor.Utf Go.Proofs.YtikjnbognjicdaaDoor.Val Go.Proofs.YtikjnbognjicdaaDoor.Enc V

/-- A number's four bytes. -/
theorem four (S : Nat) (hS : S < 4294967296) : ∃ a b c d : Nat, be S 4 = [a, b, c, d] ∧ (S : Int) / 16777216 = (a : Int) ∧ (S : Int) / 65536 % 256 = (b : Int) ∧ (S : Int) / 256 % 256 = (c : Int) ∧ (S : Int) % 256 = (d : Int) ∧ a < 256 ∧ b < 256 ∧ c < 256 ∧ d < 256 := by
  refine ⟨S / 16777216, S / 65536 % 256, S / 256 % 256, S % 256, ?_, by omega, by omega, by omega, by omega, by omega, by omega, by omega, by omega⟩
  have h : S / 16777216 % 256 = S / 16777216 := by omega
  simp [be, h]
set_option maxHeartbeats 1000000 in
theorem head6_any (X S N : Nat) (A : Option Addr) (n c : Nat) (K : List Nat) (w : World) (hX : X < 256) (hS : S < 4294967296) (hN : N < 4294967296) (hr : Rd .u8 256 w w.heap.size A n K) (hn : n ≤ 1099511627776) :
    Calls Tryd.prog 22 #[.int .u8 (X : Int), .int .i64 (S : Int), .int .i64 (N : Int), .slice A n c] w fun e w' => ∃ A' m c', e = .returned (.slice A' m c') ∧ Utf.Own .u8 256 5 w' w.heap.size A' m c' (hd4 X S N K) ∧ Below w.heap.size w w' := by
  obtain ⟨a, b, c1, d, hbe, e1, e2, e3, e4, l1, l2, l3, l4⟩ := four S hS
  obtain ⟨a', b', c', d', hbe', f1, f2, f3, f4, m1, m2, m3, m4⟩ := four N hN
  have ho := own_lit8 w w.heap.size 9 [X, a, b, c1, d, a', b', c', d'] rfl (by simp only [List.mem_cons, List.not_mem_nil, or_false]; rintro x (rfl | rfl | rfl | rfl | rfl | rfl | rfl | rfl | rfl) <;> assumption) (by decide) (Nat.le_refl _)
  have HO := Lib.hid ho
  have HR := Lib.hid (hr.alloc (Nat.le_refl _) (.cells (vs .u8 [X, a, b, c1, d, a', b', c', d']).toArray 5))
  have hK : hd4 X S N K = [X, a, b, c1, d, a', b', c', d'] ++ K := by simp only [hd4, hbe, hbe']; rfl
  rw [hK]
  clear ho hr hbe hbe' hK
  go_enter Tryd.func22, Tryd.ntmps22
  go_wp2_with (at_builtin; refine wpList_app8 (base := w.heap.size) rfl _ _ rfl rfl HO.out rfl HR.out (by omega) (by simp) ?_; intro A2 c2 w2 ho2 hg2; have hb2 : Below w.heap.size w w2 := ((Below.refl _ _).alloc (Nat.le_refl _) _).trans (below_grown HO.out hg2 (by simp)))
  go_ret
  exact ⟨_, _, _, rfl, ho2, hb2⟩

theorem layK_bulk : ∀ l : List V, (∀ v ∈ l, Fine1 v) → (layK (planL l)).length ≤ 100 * bulkL l
  | [], _ => by simp [planL, layK]
  | v :: l, h => by
    have h1 := layK_bulk l fun x hx => h x (by simp [hx])
    have h2 := lay_bulk v (h v (by simp)).1.1
    simp only [planL, layK, List.length_append, bulkL]
    omega
section
variable {l : List V} {c : Nat} (hf : ∀ v ∈ l, Fine1 v) (hs : sw c = 4) (hk : kof c = 22 ∨ kof c = 23) (hK : (layK (planL l)).length < 4294967280) (hl : l.length < 4294967000)
include hf hs hk hK hl
theorem wide_dec : decD (hd4 c ((layK (planL l)).length + 4) l.length (layK (planL l))) = if okB (.mk (kof c) 0 ⟨#[]⟩ l) = true then (.mk (kof c) 0 ⟨#[]⟩ l, (layK (planL l)).length + 9, 0) else (zeroV, 0, 6) := by
  have h := wide_ok hf hs hk hK hl
  by_cases hi : 1 + itemsL l ≤ 1024
  · rw [if_pos hi] at h
    rw [dec_of_ok h]
    by_cases ho : okB (.mk (kof c) 0 ⟨#[]⟩ l) = true
    · rw [if_pos ho, if_pos ho]
      simp only [hd4, List.length_cons, List.length_append, be_length, List.length_nil, Prod.mk.injEq, true_and, and_true]
      omega
    · rw [if_neg ho, if_neg ho]
  · rw [if_neg hi] at h
    have ho : ¬ okB (.mk (kof c) 0 ⟨#[]⟩ l) = true := fun ho => by
      unfold okB at ho
      simp only [Bool.and_eq_true, decide_eq_true_eq] at ho
      have h1 := ho.1.1
      simp only [items] at h1
      omega
    rw [dec_of_error h, if_neg ho]
    rfl
end
/-- What decode.Value answers of a list's or map's bytes. -/
theorem hd_yes {w : World} {A : Option Addr} {n c : Nat} {b : List Nat} {v : V} {m it : Nat} {r : List Nat} (h : Rd .u8 256 w w.heap.size A n b) (hc : n ≤ c) (hn : n ≤ 1099511627776) (ht : Tab w) (hv : valD (toldN b.length) 0 b = .ok (v, it, r)) (hb : bulk v ≤ 1073741824) (hd : decD b = (v, m, 0)) :
    Calls Tryd.prog 18 #[.slice A n c] w (GivesW v (m : Int) 0 w) := by
  have hA := dec_wide h hc hn ht fun v' it r hv' _ => by
    rw [hv] at hv'
    simp only [Except.ok.injEq, Prod.mk.injEq] at hv'
    obtain ⟨rfl, _, _⟩ := hv'
    exact hb
  rw [hd] at hA
  refine hA.mono fun e w' he => ?_
  obtain ⟨A, l, c, rfl, _, _, hk, hb⟩ := he
  exact ⟨A, l, c, rfl, hk.kd, hb⟩
theorem hd_no {w : World} {A : Option Addr} {n c : Nat} {b : List Nat} {x : Nat} {xi : Int} (hx : (x : Int) = xi) (h : Rd .u8 256 w w.heap.size A n b) (hc : n ≤ c) (hn : n ≤ 1099511627776) (ht : Tab w) (hv : ∀ v it r, valD (toldN b.length) 0 b = .ok (v, it, r) → bulk v ≤ 1073741824) (hd : decD b = (zeroV, 0, x)) :
    Calls Tryd.prog 18 #[.slice A n c] w fun e w' => ∃ A c, e = .returned (.tuple #[.agg #[.int .u8 0, .int .u64 0, .string ⟨#[]⟩, .slice A 0 c], .int .i64 0, .int .i64 xi]) ∧ Below w.heap.size w w' := by
  have hA := dec_wide h hc hn ht fun v' it r hv' _ => hv v' it r hv'
  rw [hd] at hA
  subst hx
  exact hA.mono fun e w' he => GivesD.leaf he
theorem hd_err {b : List Nat} {s : Bool} (h : valD (toldN b.length) 0 b = .error s) : ∀ v it r, valD (toldN b.length) 0 b = .ok (v, it, r) → bulk v ≤ 1073741824 := fun v it r hv => by rw [h] at hv; cases hv
/-- What the law's walk keeps: the values, the bytes of their row. -/
structure StW (w0 w1 : World) (ks : List V) (A : Option Addr) (l c : Nat) (B : Option Addr) (m : Nat) (L : List Nat) : Prop where
  kd : Kd w1 ks A l c
  tab : Tab w1
  low : Below w0.heap.size w0 w1
  rd : Rd .u8 256 w1 w1.heap.size B m L
section
variable {w0 w1 w2 : World} {ks : List V} {A : Option Addr} {l c : Nat} {B : Option Addr} {m : Nat} {L : List Nat}
theorem StW.call (h : StW w0 w1 ks A l c B m L) (hb : Below w1.heap.size w1 w2) : StW w0 w2 ks A l c B m L := ⟨h.kd.call hb, h.tab.call hb, below_next h.low hb, h.rd.call hb⟩
theorem StW.alloc (h : StW w0 w1 ks A l c B m L) (o : Obj) : StW w0 (w1.alloc o) ks A l c B m L := h.call ((Below.refl _ _).alloc (Nat.le_refl _) o)
end

/-- What the walk of a round keeps beside: the kinds' row, and the value that is wanted. -/
structure StX (w0 w1 : World) (ks : List V) (A : Option Addr) (l c : Nat) (B : Option Addr) (m : Nat) (L : List Nat) (gk g κ : Nat) (A' : Option Addr) (c' : Nat) : Prop where
  st : StW w0 w1 ks A l c B m L
  kn : Rd .u8 256 w1 w1.heap.size (some ⟨gk, 0, none⟩) 2 [22, 23]
  bx : Box w1 g (.int .u8 (κ : Int)) (.int .u64 0) (.string ⟨#[]⟩) (.slice A' l c')
  kd : Kd w1 ks A' l c'
section
variable {w0 w1 w2 : World} {ks : List V} {A A' : Option Addr} {l c c' : Nat} {B : Option Addr} {m gk g κ : Nat} {L : List Nat}
theorem StX.call (h : StX w0 w1 ks A l c B m L gk g κ A' c') (hb : Below w1.heap.size w1 w2) : StX w0 w2 ks A l c B m L gk g κ A' c' := ⟨h.st.call hb, h.kn.call hb, h.bx.call hb, h.kd.call hb⟩
theorem StX.alloc (h : StX w0 w1 ks A l c B m L gk g κ A' c') (o : Obj) : StX w0 (w1.alloc o) ks A l c B m L gk g κ A' c' := h.call ((Below.refl _ _).alloc (Nat.le_refl _) o)
end
/-- These bytes are none of a value: the error. -/
def Says (X S N : Nat) (L : List Nat) (x : Int) : Prop := ∀ (w : World) (base : Nat) (A : Option Addr) (n c : Nat), Utf.Own .u8 256 5 w base A n c (hd4 X S N L) → Tab w → Calls Tryd.prog 18 #[.slice A n c] w fun e w' => ∃ A c, e = .returned (.tuple #[.agg #[.int .u8 0, .int .u64 0, .string ⟨#[]⟩, .slice A 0 c], .int .i64 0, .int .i64 x]) ∧ Below w.heap.size w w'
theorem hd4_len (X S N : Nat) (L : List Nat) : (hd4 X S N L).length = L.length + 9 := by simp only [hd4, List.length_cons, List.length_append, be_length]; omega
theorem says_of {X S N : Nat} {L : List Nat} {x : Nat} {xi : Int} (hx : (x : Int) = xi) (hL : L.length ≤ 1073741824) (hv : ∀ v it r, valD (toldN (hd4 X S N L).length) 0 (hd4 X S N L) = .ok (v, it, r) → bulk v ≤ 1073741824) (hd : decD (hd4 X S N L) = (zeroV, 0, x)) : Says X S N L xi := fun w base A n c ho ht => by
  have h1 := ho.len
  rw [hd4_len] at h1
  exact hd_no hx ho.rd ho.cap.1 (by omega) ht hv hd
/-- All that is asked of a list's or map's bytes. -/
structure Fiv (ks : List V) (κ X M3 M4 M5 N3 N5 : Nat) (L : List Nat) : Prop where
  yes : okB (.mk κ 0 ⟨#[]⟩ ks) = true → ∀ (w : World) (base : Nat) (A : Option Addr) (n c : Nat), Utf.Own .u8 256 5 w base A n c (hd4 X M4 ks.length L) → Tab w → Calls Tryd.prog 18 #[.slice A n c] w (GivesW (.mk κ 0 ⟨#[]⟩ ks) (n : Int) 0 w)
  no : okB (.mk κ 0 ⟨#[]⟩ ks) = false → Says X M4 ks.length L 6
  short : Says X M5 ks.length L 7
  more : Says X M4 N3 L 6
  cut : 0 < ks.length → Says X M3 ks.length L 6
  less : 0 < ks.length → Says X M4 N5 L 6
theorem fiv {ks : List V} {κ X M3 M4 M5 N3 N5 k : Nat} (hf : ∀ v ∈ ks, Fine1 v) (hb : bulkL ks ≤ 1048576) (hs : sw X = 4) (hκ : kof X = κ) (hk : κ = 22 ∨ κ = 23) (h3 : (Enc.layK (Enc.planL ks)).length + 3 = M3) (h4 : (Enc.layK (Enc.planL ks)).length + 4 = M4) (h5 : (Enc.layK (Enc.planL ks)).length + 5 = M5) (hk256 : k < 256) (hn3 : ks.length + 1 + k = N3) (hn5 : ks.length - 1 = N5) : Fiv ks κ X M3 M4 M5 N3 N5 (Enc.layK (Enc.planL ks)) := by
  have hL := layK_bulk ks hf
  have hlb := length_bulk ks
  subst hκ h3 h4 h5 hn3 hn5
  have hyes := wide_dec hf hs hk (by omega) (by omega)
  have hok := wide_ok hf hs hk (by omega) (by omega)
  have hbound : ∀ v it r, valD (toldN (hd4 X ((Enc.layK (Enc.planL ks)).length + 4) ks.length (Enc.layK (Enc.planL ks))).length) 0 (hd4 X ((Enc.layK (Enc.planL ks)).length + 4) ks.length (Enc.layK (Enc.planL ks))) = .ok (v, it, r) → bulk v ≤ 1073741824 := fun v it r hv => by
    rw [hok] at hv
    by_cases hi : 1 + itemsL ks ≤ 1024
    · rw [if_pos hi] at hv
      simp only [Except.ok.injEq, Prod.mk.injEq] at hv
      obtain ⟨rfl, _, _⟩ := hv
      have h0 : (ByteArray.mk #[]).size = 0 := rfl
      simp only [bulk]
      omega
    · rw [if_neg hi] at hv; cases hv
  refine ⟨fun ho w base A n c hO ht => ?_, fun ho => ?_, ?_, ?_, fun h0 => ?_, fun h0 => ?_⟩
  · rw [if_pos ho] at hyes
    have hl := hO.len
    rw [hd4_len] at hl
    have hA := dec_wide hO.rd hO.cap.1 (by omega) ht fun v it r hv _ => hbound v it r hv
    rw [hyes, hl] at hA
    refine hA.mono fun e w' he => ?_
    obtain ⟨A, l, c, rfl, _, _, hk, hb⟩ := he
    exact ⟨A, l, c, rfl, hk.kd, hb⟩
  · rw [if_neg (by rw [ho]; simp)] at hyes
    exact says_of rfl (by omega) hbound hyes
  · have h := wide_short (l := ks) hs hk (by omega)
    exact says_of rfl (by omega) (hd_err h) (dec_of_error h)
  · have h := wide_more hf hs hk (by omega) (by omega) k hk256
    exact says_of rfl (by omega) (hd_err h) (dec_of_error h)
  · obtain ⟨l2, v, rfl⟩ : ∃ l2 v, ks = l2 ++ [v] := ⟨ks.dropLast, ks.getLast (by intro e; rw [e] at h0; simp at h0), (List.dropLast_concat_getLast _).symm⟩
    have h := wide_cut hf hs hk (by omega) (by omega)
    exact says_of rfl (by omega) (hd_err h) (dec_of_error h)
  · obtain ⟨l2, v, rfl⟩ : ∃ l2 v, ks = l2 ++ [v] := ⟨ks.dropLast, ks.getLast (by intro e; rw [e] at h0; simp at h0), (List.dropLast_concat_getLast _).symm⟩
    have h := wide_less hf hs hk (by omega) (by omega)
    rw [show (l2 ++ [v]).length - 1 = l2.length by rw [List.length_append]; simp]
    exact says_of rfl (by omega) (hd_err h) (dec_of_error h)
/-- The text of kind 19, decoded. -/
theorem dec_txt {w : World} {base : Nat} {A : Option Addr} {n c : Nat} {s : ByteArray} (ho : Utf.Own .u8 256 5 w base A n c ([176, 0, 0, 0, s.size] ++ tb s)) (hs : s.size ≤ 255) (ht : Tab w) : Calls Tryd.prog 18 #[.slice A n c] w fun e w' => ∃ A c, e = .returned (.tuple #[.agg #[.int .u8 19, .int .u64 0, .string s, .slice A 0 c], .int .i64 (n : Int), .int .i64 0]) ∧ Below w.heap.size w w' := by
  have hl : n = s.size + 5 := by have := ho.len; simp only [List.length_append, List.length_cons, List.length_nil, tb_length] at this; omega
  have hA := dec_any ho.rd ho.cap.1 (by omega) ht
  rw [wide_text hs, ← hl] at hA
  exact hA.mono fun e w' he => GivesD.leaf he
theorem heldw {w w' : World} {g1 : Nat} {x0 x1 x2 x3 : Value} (h1 : Box w g1 x0 x1 x2 x3) (hb : Below w.heap.size w w') :
    w'.cell? ⟨g1, 0, none⟩ = some x0 ∧ w'.cell? ⟨g1, 1, none⟩ = some x1 ∧ w'.cell? ⟨g1, 2, none⟩ = some x2 ∧ w'.cell? ⟨g1, 3, none⟩ = some x3 ∧ Below w.heap.size w w' := by
  obtain ⟨a0, a1, a2, a3, _⟩ := (h1.call hb).all
  exact ⟨a0, a1, a2, a3, hb⟩
theorem tex19 (t : ByteArray) (w : World) : Calls Tryd.prog 23 #[.int .u8 19, .string t] w (fun e w' => e = .returned (.agg #[.int .u8 19, .int .u64 0, .string t, .slice none 0 0]) ∧ Below w.heap.size w w') := text_any' 19 t w
theorem same19 (t : ByteArray) (A : Option Addr) (c : Nat) (w : World) : Calls Tryd.prog 19 #[.agg #[.int .u8 19, .int .u64 0, .string t, .slice A 0 c], .agg #[.int .u8 19, .int .u64 0, .string t, .slice none 0 0]] w (Val.GivesB true w) := same_w (v := .mk 19 0 t []) (by simp [V.kids, bulkL]) (Kd.none_ _ _ _) (Kd.none_ _ _ _)
theorem Says.call {X S N : Nat} {L : List Nat} {x : Int} (h : Says X S N L x) (w : World) (base : Nat) (A : Option Addr) (n c : Nat) (ho : Utf.Own .u8 256 5 w base A n c (hd4 X S N L)) (ht : Tab w) : Calls Tryd.prog 18 #[.slice A n c] w fun e w' => ∃ A c, e = .returned (.tuple #[.agg #[.int .u8 0, .int .u64 0, .string ⟨#[]⟩, .slice A 0 c], .int .i64 0, .int .i64 x]) ∧ Below w.heap.size w w' := h w base A n c ho ht
theorem vrk (k : Nat) (ks : List V) (A : Option Addr) (l c : Nat) (w : World) (hN : bulkL ks ≤ 1073741824) (hK : Kd w ks A l c) (ht : Tab w) : Calls Tryd.prog 20 #[.agg #[.int .u8 (k : Int), .int .u64 0, .string ⟨#[]⟩, .slice A l c]] w (Val.GivesB (okB (.mk k 0 ⟨#[]⟩ ks)) w) := vright_any k 0 ⟨#[]⟩ ks A l c w hN (by decide) (by omega) hK ht
theorem samek (k : Nat) (ks : List V) (A : Option Addr) (l c : Nat) (A' : Option Addr) (c' : Nat) (w : World) (hN : bulkL ks ≤ 1073741824) (h : Kd w ks A l c) (h' : Kd w ks A' l c') : Calls Tryd.prog 19 #[.agg #[.int .u8 (k : Int), .int .u64 0, .string ⟨#[]⟩, .slice A l c], .agg #[.int .u8 (k : Int), .int .u64 0, .string ⟨#[]⟩, .slice A' l c']] w (Val.GivesB true w) := same_w (v := .mk k 0 ⟨#[]⟩ ks) hN h h'
end Go.Proofs.YtikjnbognjicdaaDoor.Dec
namespace Go.Proofs.YtikjnbognjicdaaDoor.decodeWide
set_option maxRecDepth 100000
open Go.RowKit Go.Proofs.YtikjnbognjicdaaDoor.Utf Go.Proofs.YtikjnbognjicdaaDoor.Val Go.Proofs.YtikjnbognjicdaaDoor.Dec V

set_option maxHeartbeats 8000000 in
theorem walk (ks : List V) (A : Option Addr) (l c : Nat) (s : ByteArray) (X : Nat) (w : World) (ht : Tab w) (hN : bulkL ks ≤ 1048576) (hK : Kd w ks A l c) (hs : s.size ≤ 1048576) (hX : X < 256) :
    Calls Tryd.prog 7 #[.slice A l c, .string s, .int .u8 (X : Int)] w (Val.GivesB true w) := by
  have hl20 : l ≤ 1048576 := by have := hK.len; have := length_bulk ks; omega
  obtain ⟨p, hp⟩ : ∃ p, decide (8192 < bigL ks) = p := ⟨_, rfl⟩
  have HL := large_any ks A l c w (by omega) hK
  rw [hp] at HL
  have HLH := Lib.hid HL
  have H0 : Hid (StW w w ks A l c none 0 []) := Lib.hid ⟨hK, ht, Below.refl _ _, Rd.zero _ _ _ _ _⟩
  have HN := Lib.hid hN
  have HX := Lib.hid hX
  obtain ⟨d, hd⟩ : ∃ d, decide ((255 : Int) < (s.size : Int)) = d := ⟨_, rfl⟩
  have HD : Hid (d = false → s.size ≤ 255) := Lib.hid fun e => by rw [e] at hd; have := of_decide_eq_false hd; omega
  clear hp hK ht HL hN hs hX
  go_enter Tryd.func7, Tryd.ntmps7
  go_wp2_with fail
  refine HLH.out.mono ?_
  rintro e w1 ⟨rfl, hb1⟩
  have H1 := Lib.hid (H0.out.call hb1)
  clear HLH H0 hb1
  cases p with
  | true =>
    clear hd HD
    go_wp2_with (go_at_call 17; (with_reducible refine (Dec.works_any _ H1.out.tab).mono ?_); rintro e w3 ⟨rfl, hb3⟩)
    go_ret
    exact ⟨rfl, below_next H1.out.low hb3⟩
  | false =>
  cases d with
  | true =>
    clear HD
    go_wp2_with (go_at_call 17; (with_reducible refine (Dec.works_any _ H1.out.tab).mono ?_); rintro e w3 ⟨rfl, hb3⟩)
    go_ret
    exact ⟨rfl, below_next H1.out.low hb3⟩
  | false =>
    have HS := Lib.hid (HD.out rfl)
    clear HD
    go_wp2_with fail
    clear hd
    go_loopw [7, 8] (fun s7 i wr => ∃ (j : Nat) (B : Option Addr) (m cB : Nat), j ≤ l ∧ i = .int .i64 (j : Nat) ∧ s7 = .slice B m cB ∧ Utf.Own .u8 256 5 wr w1.heap.size B m cB (Enc.layK (Enc.planL (ks.take j))) ∧ (∀ v ∈ ks.take j, Fine1 v) ∧ Below w1.heap.size w1 wr) (fun _ i _ => l - (intOf i).toNat)
    case atStart => exact ⟨0, none, 0, 0, Nat.zero_le _, rfl, rfl, by simpa [Enc.planL, Enc.layK] using Utf.Own.nil _ _ _ _ _, by simp, Below.refl _ _⟩
    case round =>
      obtain ⟨j, B, m, cB, hj, rfl, rfl, hO, hF, hb⟩ := hrel
      by_cases hlt : j < l
      · have HW := Lib.hid (H1.out.call hb)
        obtain ⟨b, o, k', n', t', ks', A', l', c', rfl, hb', hx, h0, h1, h2, h3, hk', hn', hK'⟩ := HW.out.kd.at_ hlt
        have hbk := at_bulk hx
        have HBK : Hid (bulk (.mk k' n' t' ks') ≤ 33554432) := Lib.hid (by have := HN.out; omega)
        have HX2 := Lib.hid hx
        have HO := Lib.hid hO
        have HF := Lib.hid hF
        have HK := Lib.hid hK'
        have HB := Lib.hid hb
        clear hx hbk hO hF hK' hb
        cases hok : okB (.mk k' n' t' ks') with
        | false =>
          have HOK := Lib.hid hok
          clear hok
          go_wp2_with (first
            | (go_at_call 12; (with_reducible refine (Enc.encv_no k' n' t' ks' A' l' c' wr HOK.out HBK.out hn' HK.out HW.out.tab).mono ?_); rintro e w2 ⟨rfl, hb2⟩)
            | (go_at_call 17; (with_reducible refine (Dec.works_any _ (HW.out.call hb2).tab).mono ?_); rintro e w3 ⟨rfl, hb3⟩))
          go_ret
          exact ⟨rfl, below_next (HW.out.call hb2).low hb3⟩
        | true =>
          have HOK := Lib.hid hok
          clear hok
          go_wp2_with fail
          refine (Enc.encv_yes k' n' t' ks' A' l' c' wr HOK.out HBK.out hk' hn' HK.out HW.out.tab).mono ?_
          rintro e w2 ⟨A2, m2, c2, rfl, ho2, hb2⟩
          have hlen2 := ho2.len
          have hm2 : m2 ≤ 3355443200 := by have := Enc.lay_bulk _ (Enc.ok_may HOK.out); have := HBK.out; omega
          have HO2 := Lib.hid ho2
          clear ho2
          have hL := layK_bulk (ks.take j) HF.out
          have hTB := bulkL_take_le ks j
          have hm : m ≤ 104857600 := by have := HO.out.len; have := HN.out; omega
          clear hL hTB
          go_wp2_with (at_builtin; refine wpList_app8 (base := w1.heap.size) rfl _ _ rfl rfl (HO.out.below hb2) rfl HO2.out.rd (by omega) (by have := HB.out.size; have := hb2.size; omega) ?_; intro A3 c3 w3 ho3 hg3; have HO3 := Lib.hid ho3; have HB3 : Hid (Below w1.heap.size w1 w3) := Lib.hid ((below_next HB.out hb2).trans (below_grown (HO.out.below hb2) hg3 (by have := HB.out.size; have := hb2.size; omega))); clear ho3 hg3)
          go_roundw
          case rel =>
            have HT : ks.take (j + 1) = ks.take j ++ [.mk k' n' t' ks'] := take_snoc HX2.out
            refine ⟨j + 1, A3, m + m2, c3, hlt, by go_num, rfl, ?_, ?_, HB3.out⟩
            · rw [HT, lay_snoc]
              exact HO3.out
            · rw [HT]
              intro v hv
              rcases List.mem_append.1 hv with hv | hv
              · exact HF.out v hv
              · rw [List.mem_singleton] at hv
                subst hv
                exact ⟨Enc.good_of HOK.out hn' HK.out (by have := HBK.out; omega), HOK.out⟩
          case measure => (simp [intOf]; omega)
      · obtain rfl : j = l := by omega
        have hlen := H1.out.kd.len
        have htk : ks.take j = ks := List.take_of_length_le (by omega)
        rw [htk] at hO hF
        obtain ⟨L, hL⟩ : ∃ L, Enc.layK (Enc.planL ks) = L := ⟨_, rfl⟩
        have hmL : m = L.length := by rw [← hL]; exact hO.len.symm
        have hmb : m ≤ 104857600 := by have h1 := layK_bulk ks hF; rw [hL] at h1; have := HN.out; omega
        have HF := Lib.hid hF
        have HL := Lib.hid hL
        have HLN := Lib.hid hlen
        have HML := Lib.hid hmL
        have hS : StW w wr ks A j c B m L := ⟨H1.out.kd.call hb, H1.out.tab.call hb, below_next H1.out.low hb, by rw [← hL]; exact hO.rd⟩
        have HS0 := Lib.hid hS
        clear hO hb hlen hmL hL hF hS hj hlt htk H1
        rename World => wa
        go_wp2_with fail
        obtain ⟨gk, hgk⟩ : ∃ g, wa.heap.size = g := ⟨_, rfl⟩
        have HS1 := Lib.hid (HS0.out.alloc (.cells #[.int .u8 22, .int .u8 23] 5))
        have hR1 : Rd .u8 256 (wa.alloc (.cells #[.int .u8 22, .int .u8 23] 5)) (wa.alloc (.cells #[.int .u8 22, .int .u8 23] 5)).heap.size (some ⟨wa.heap.size, 0, none⟩) 2 [22, 23] := by rw [World.size_alloc]; exact rd_lit8 wa [22, 23] 2 rfl (by decide)
        rw [hgk] at hR1 ⊢
        have HR1 := Lib.hid hR1
        clear hR1 HS0
        go_loopw [12] (fun i wx => ∃ n : Nat, n ≤ 2 ∧ i = .int .i64 (n : Nat) ∧ StW w wx ks A j c B m L ∧ Rd .u8 256 wx wx.heap.size (some ⟨gk, 0, none⟩) 2 [22, 23]) (fun i _ => 2 - (intOf i).toNat)
        case atStart => exact ⟨0, by omega, rfl, HS1.out, HR1.out⟩
        case round =>
          obtain ⟨n, hn, rfl, hS, hR⟩ := hrel
          clear HS1 HR1 hgk
          by_cases hlt : n < 2
          · obtain ⟨b, o, κ, hbo, _, hκ, hκ256, hcell⟩ := hR.at_ hlt
            obtain ⟨rfl, rfl, _⟩ : gk = b ∧ 0 = o ∧ True := by simpa using hbo
            obtain ⟨Y, hY⟩ : ∃ Y, 208 + n = Y := ⟨_, rfl⟩
            have hYk : sw Y = 4 ∧ kof Y = κ ∧ (κ = 22 ∨ κ = 23) ∧ Y < 256 := by
              have : n = 0 ∨ n = 1 := by omega
              rcases this with rfl | rfl
              · simp at hκ; subst hκ hY; decide
              · simp at hκ; subst hκ hY; decide
            have hYI : (208 : Int) + (n : Int) = (Y : Int) := by omega
            obtain ⟨M3, hM3⟩ : ∃ M3, m + 3 = M3 := ⟨_, rfl⟩
            obtain ⟨M4, hM4⟩ : ∃ M4, m + 4 = M4 := ⟨_, rfl⟩
            obtain ⟨M5, hM5⟩ : ∃ M5, m + 5 = M5 := ⟨_, rfl⟩
            obtain ⟨N3, hN3⟩ : ∃ N3, j + 1 + X = N3 := ⟨_, rfl⟩
            obtain ⟨N5, hN5⟩ : ∃ N5, j - 1 = N5 := ⟨_, rfl⟩
            have HN5 := Lib.hid hN5
            have i3 : (m : Int) + 3 = (M3 : Int) := by omega
            have i4 : (m : Int) + 4 = (M4 : Int) := by omega
            have i5 : (m : Int) + 5 = (M5 : Int) := by omega
            have hX := HX.out
            have iN3 : (j : Int) + 1 + (X : Int) = (N3 : Int) := by omega
            have lims : Hid (M3 < 4294967296 ∧ M4 < 4294967296 ∧ M5 < 4294967296 ∧ N3 < 4294967296 ∧ N5 < 4294967296 ∧ j < 4294967296 ∧ m ≤ 1099511627776 ∧ m + 9 < 4294967296) := Lib.hid (by omega)
            have hfiv : Fiv ks κ Y M3 M4 M5 N3 N5 L := by
              have := HML.out; have := HLN.out; have h1 := HL.out
              subst h1
              exact fiv HF.out HN.out hYk.1 hYk.2.1 hYk.2.2.1 (by omega) (by omega) (by omega) HX.out (by omega) (by omega)
            have HFV := Lib.hid hfiv
            have HYK := Lib.hid hYk
            have HSW := Lib.hid hS
            have HRW := Lib.hid hR
            have HK256 := Lib.hid hκ256
            clear hS hR hfiv hYk hκ hM3 hM4 hM5 hN3 hN5 hY hbo
            rw [Nat.zero_add] at hcell
            obtain ⟨M9, hM9⟩ : ∃ M9, m + 9 = M9 := ⟨_, rfl⟩
            have HM9 := Lib.hid hM9
            have HX256 := Lib.hid hX
            clear hM9
            go_wp2_with fail
            refine (vmany_any κ ks A j c wr (by have := HN.out; omega) HK256.out HSW.out.kd).mono ?_
            rintro e w2 ⟨A2, l2, c2, rfl, hN2, hb2⟩
            obtain rfl : l2 = j := by rw [hN2.len, HLN.out]
            obtain ⟨g2, hg2⟩ : ∃ g, w2.heap.size = g := ⟨_, rfl⟩
            have hx2 : StX w (w2.alloc (.cells #[.int .u8 (κ : Int), .int .u64 0, .string ⟨#[]⟩, .slice A2 l2 c2] 25)) ks A l2 c B m L gk g2 κ A2 c2 := ⟨(HSW.out.call hb2).alloc _, (HRW.out.call hb2).call ((Below.refl _ _).alloc (Nat.le_refl _) _), hg2 ▸ Box.new w2 _ _ _ _, hN2.kd.alloc _⟩
            obtain ⟨w3, hw3⟩ : ∃ x, w2.alloc (.cells #[.int .u8 (κ : Int), .int .u64 0, .string ⟨#[]⟩, .slice A2 l2 c2] 25) = x := ⟨_, rfl⟩
            rw [hw3] at hx2
            have H3 := Lib.hid hx2
            clear hN2 hb2 hx2 HSW HRW hcell
            go_wp2_with fail
            clear hg2 hw3
            with_reducible refine (head6_any Y M4 l2 B m cB L w3 HYK.out.2.2.2 (by have := lims.out; omega) (by have := lims.out; omega) H3.out.st.rd (by omega)).mono ?_
            rintro e w4 ⟨A4, n4, c4, rfl, ho4, hb4⟩
            have H4 := Lib.hid (H3.out.call hb4)
            have HO4 := Lib.hid ho4
            obtain rfl : M9 = n4 := by have := ho4.len; rw [hd4_len] at this; have := HML.out; have := HM9.out; omega
            clear ho4 hb4 H3
            go_wp2_with fail
            cases hv : okB (.mk κ 0 ⟨#[]⟩ ks) with
            | false =>
              have HV := Lib.hid hv
              clear hv
              with_reducible refine (Says.call (HFV.out.no HV.out) w4 _ A4 M9 c4 (by have := HLN.out; subst this; exact HO4.out) H4.out.st.tab).mono ?_
              rintro e w5 ⟨A5, c5, rfl, hb5⟩
              have H6 := Lib.hid ((H4.out.call hb5).alloc (.cells #[.int .u8 0, .int .u64 0, .string ⟨#[]⟩, .slice A5 0 c5] 25))
              obtain ⟨a0, a1, a2, a3, _⟩ := H6.out.bx.all
              obtain ⟨g5, hg5⟩ : ∃ g, w5.heap.size = g := ⟨_, rfl⟩
              obtain ⟨w6, hw6⟩ : ∃ x, w5.alloc (.cells #[.int .u8 0, .int .u64 0, .string ⟨#[]⟩, .slice A5 0 c5] 25) = x := ⟨_, rfl⟩
              rw [hw6] at H6 a0 a1 a2 a3
              clear HO4 hb5 H4
              go_wp2_with fail
              clear hg5 hw6
              with_reducible refine (vrk κ ks A2 l2 c2 w6 (by have := HN.out; omega) H6.out.kd H6.out.st.tab).mono ?_
              rw [HV.out]
              rintro e w7 ⟨rfl, hb7⟩
              have H7 := Lib.hid (H6.out.call hb7)
              clear hb7 H6
              go_wp2_with fail
              clear a0 a1 a2 a3
              with_reducible refine (head6_any Y M5 l2 B m cB L w7 HYK.out.2.2.2 (by have := lims.out; omega) (by have := lims.out; omega) H7.out.st.rd (by omega)).mono ?_
              rintro e w8 ⟨A8, n8, c8, rfl, ho8, hb8⟩
              have H8 := Lib.hid (H7.out.call hb8)
              have HO8 := Lib.hid ho8
              obtain rfl : M9 = n8 := by have := ho8.len; rw [hd4_len] at this; have := HML.out; have := HM9.out; omega
              clear ho8 hb8 H7
              go_wp2_with fail
              with_reducible refine (Says.call (HFV.out.short) w8 _ A8 M9 c8 (by have := HLN.out; subst this; exact HO8.out) H8.out.st.tab).mono ?_
              rintro e w9 ⟨A9, c9, rfl, hb9⟩
              have H10 := Lib.hid ((H8.out.call hb9).alloc (.cells #[.int .u8 0, .int .u64 0, .string ⟨#[]⟩, .slice A9 0 c9] 25))
              obtain ⟨a0, a1, a2, a3, _⟩ := H10.out.bx.all
              obtain ⟨g9, hg9⟩ : ∃ g, w9.heap.size = g := ⟨_, rfl⟩
              obtain ⟨w10, hw10⟩ : ∃ x, w9.alloc (.cells #[.int .u8 0, .int .u64 0, .string ⟨#[]⟩, .slice A9 0 c9] 25) = x := ⟨_, rfl⟩
              rw [hw10] at H10 a0 a1 a2 a3
              clear HO8 hb9 H8
              go_wp2_with fail
              clear hg9 hw10
              clear a0 a1 a2 a3
              with_reducible refine (head6_any Y M4 N3 B m cB L w10 HYK.out.2.2.2 (by have := lims.out; omega) (by have := lims.out; omega) H10.out.st.rd (by omega)).mono ?_
              rintro e w11 ⟨A11, n11, c11, rfl, ho11, hb11⟩
              have H11 := Lib.hid (H10.out.call hb11)
              have HO11 := Lib.hid ho11
              obtain rfl : M9 = n11 := by have := ho11.len; rw [hd4_len] at this; have := HML.out; have := HM9.out; omega
              clear ho11 hb11 H10
              go_wp2_with fail
              by_cases h0 : 0 < l2
              · have hl0 : (l2 : Int) > 0 := by omega
                have iN5 : (l2 : Int) - 1 = (N5 : Int) := by have := HN5.out; omega
                have hp : 0 < ks.length := by have := HLN.out; omega
                clear h0
                with_reducible refine (Says.call (HFV.out.more) w11 _ A11 M9 c11 (by have := HLN.out; subst this; exact HO11.out) H11.out.st.tab).mono ?_
                rintro e w12 ⟨A12, c12, rfl, hb12⟩
                have H13 := Lib.hid ((H11.out.call hb12).alloc (.cells #[.int .u8 0, .int .u64 0, .string ⟨#[]⟩, .slice A12 0 c12] 25))
                obtain ⟨a0, a1, a2, a3, _⟩ := H13.out.bx.all
                obtain ⟨g12, hg12⟩ : ∃ g, w12.heap.size = g := ⟨_, rfl⟩
                obtain ⟨w13, hw13⟩ : ∃ x, w12.alloc (.cells #[.int .u8 0, .int .u64 0, .string ⟨#[]⟩, .slice A12 0 c12] 25) = x := ⟨_, rfl⟩
                rw [hw13] at H13 a0 a1 a2 a3
                clear HO11 hb12 H11
                go_wp2_with fail
                clear hg12 hw13
                clear a0 a1 a2 a3
                with_reducible refine (head6_any Y M3 l2 B m cB L w13 HYK.out.2.2.2 (by have := lims.out; omega) (by have := lims.out; omega) H13.out.st.rd (by omega)).mono ?_
                rintro e w14 ⟨A14, n14, c14, rfl, ho14, hb14⟩
                have H14 := Lib.hid (H13.out.call hb14)
                have HO14 := Lib.hid ho14
                obtain rfl : M9 = n14 := by have := ho14.len; rw [hd4_len] at this; have := HML.out; have := HM9.out; omega
                clear ho14 hb14 H13
                go_wp2_with fail
                with_reducible refine (Says.call (HFV.out.cut hp) w14 _ A14 M9 c14 (by have := HLN.out; subst this; exact HO14.out) H14.out.st.tab).mono ?_
                rintro e w15 ⟨A15, c15, rfl, hb15⟩
                have H16 := Lib.hid ((H14.out.call hb15).alloc (.cells #[.int .u8 0, .int .u64 0, .string ⟨#[]⟩, .slice A15 0 c15] 25))
                obtain ⟨a0, a1, a2, a3, _⟩ := H16.out.bx.all
                obtain ⟨g15, hg15⟩ : ∃ g, w15.heap.size = g := ⟨_, rfl⟩
                obtain ⟨w16, hw16⟩ : ∃ x, w15.alloc (.cells #[.int .u8 0, .int .u64 0, .string ⟨#[]⟩, .slice A15 0 c15] 25) = x := ⟨_, rfl⟩
                rw [hw16] at H16 a0 a1 a2 a3
                clear HO14 hb15 H14
                go_wp2_with fail
                clear hg15 hw16
                clear a0 a1 a2 a3
                with_reducible refine (head6_any Y M4 N5 B m cB L w16 HYK.out.2.2.2 (by have := lims.out; omega) (by have := lims.out; omega) H16.out.st.rd (by omega)).mono ?_
                rintro e w17 ⟨A17, n17, c17, rfl, ho17, hb17⟩
                have H17 := Lib.hid (H16.out.call hb17)
                have HO17 := Lib.hid ho17
                obtain rfl : M9 = n17 := by have := ho17.len; rw [hd4_len] at this; have := HML.out; have := HM9.out; omega
                clear ho17 hb17 H16
                go_wp2_with fail
                with_reducible refine (Says.call (HFV.out.less hp) w17 _ A17 M9 c17 (by have := HLN.out; subst this; exact HO17.out) H17.out.st.tab).mono ?_
                rintro e w18 ⟨A18, c18, rfl, hb18⟩
                have H19 := Lib.hid ((H17.out.call hb18).alloc (.cells #[.int .u8 0, .int .u64 0, .string ⟨#[]⟩, .slice A18 0 c18] 25))
                obtain ⟨a0, a1, a2, a3, _⟩ := H19.out.bx.all
                obtain ⟨g18, hg18⟩ : ∃ g, w18.heap.size = g := ⟨_, rfl⟩
                obtain ⟨w19, hw19⟩ : ∃ x, w18.alloc (.cells #[.int .u8 0, .int .u64 0, .string ⟨#[]⟩, .slice A18 0 c18] 25) = x := ⟨_, rfl⟩
                rw [hw19] at H19 a0 a1 a2 a3
                clear HO17 hb18 H17
                go_wp2_with fail
                clear hg18 hw19
                go_roundw
                case rel => exact ⟨n + 1, hlt, by go_num, H19.out.st, H19.out.kn⟩
                case measure => (simp [intOf]; omega)
              · have hl0 : ¬ (l2 : Int) > 0 := by omega
                clear h0
                with_reducible refine (Says.call (HFV.out.more) w11 _ A11 M9 c11 (by have := HLN.out; subst this; exact HO11.out) H11.out.st.tab).mono ?_
                rintro e w12 ⟨A12, c12, rfl, hb12⟩
                have H13 := Lib.hid ((H11.out.call hb12).alloc (.cells #[.int .u8 0, .int .u64 0, .string ⟨#[]⟩, .slice A12 0 c12] 25))
                obtain ⟨a0, a1, a2, a3, _⟩ := H13.out.bx.all
                obtain ⟨g12, hg12⟩ : ∃ g, w12.heap.size = g := ⟨_, rfl⟩
                obtain ⟨w13, hw13⟩ : ∃ x, w12.alloc (.cells #[.int .u8 0, .int .u64 0, .string ⟨#[]⟩, .slice A12 0 c12] 25) = x := ⟨_, rfl⟩
                rw [hw13] at H13 a0 a1 a2 a3
                clear HO11 hb12 H11
                go_wp2_with fail
                clear hg12 hw13
                go_roundw
                case rel => exact ⟨n + 1, hlt, by go_num, H13.out.st, H13.out.kn⟩
                case measure => (simp [intOf]; omega)
            | true =>
              have HV := Lib.hid hv
              clear hv
              with_reducible refine (HFV.out.yes HV.out w4 _ A4 M9 c4 (by have := HLN.out; subst this; exact HO4.out) H4.out.st.tab).mono ?_
              rintro e w5 ⟨A5, l5, c5, rfl, hk5, hb5⟩
              have hk5 : Kd w5 ks A5 l5 c5 := hk5
              obtain rfl : l5 = l2 := by rw [hk5.len]; exact HLN.out.symm
              have H6 := Lib.hid ((H4.out.call hb5).alloc (.cells #[.int .u8 (κ : Int), .int .u64 0, .string ⟨#[]⟩, .slice A5 l5 c5] 25))
              have HK6 := Lib.hid (hk5.alloc (.cells #[.int .u8 (κ : Int), .int .u64 0, .string ⟨#[]⟩, .slice A5 l5 c5] 25))
              have hx6 := Box.new w5 (.int .u8 (κ : Int)) (.int .u64 0) (.string ⟨#[]⟩) (.slice A5 l5 c5)
              obtain ⟨g5, hg5⟩ : ∃ g, w5.heap.size = g := ⟨_, rfl⟩
              obtain ⟨w6, hw6⟩ : ∃ x, w5.alloc (.cells #[.int .u8 (κ : Int), .int .u64 0, .string ⟨#[]⟩, .slice A5 l5 c5] 25) = x := ⟨_, rfl⟩
              rw [hw6] at H6 HK6 hx6
              rw [hg5] at hx6
              have HX6 := Lib.hid hx6
              obtain ⟨a0, a1, a2, a3, _⟩ := H6.out.bx.all
              clear HO4 hk5 hb5 H4 hx6
              simp only [V.kind, V.num, V.text, Int.natCast_zero]
              go_wp2_with fail
              clear hg5 hw6
              with_reducible refine (vrk κ ks A2 l5 c2 w6 (by have := HN.out; omega) H6.out.kd H6.out.st.tab).mono ?_
              rw [HV.out]
              rintro e w7 ⟨rfl, hb7⟩
              have H7 := Lib.hid (H6.out.call hb7)
              have HK7 := Lib.hid (HK6.out.call hb7)
              clear a0 a1 a2 a3
              obtain ⟨a0, a1, a2, a3, _⟩ := H7.out.bx.all
              obtain ⟨b0, b1, b2, b3, _⟩ := (HX6.out.call hb7).all
              clear hb7 H6 HK6 HX6
              go_wp2_with fail
              with_reducible refine (samek κ ks A5 l5 c5 A2 c2 w7 (by have := HN.out; omega) HK7.out H7.out.kd).mono ?_
              rintro e w8 ⟨rfl, hb8⟩
              have H8 := Lib.hid (H7.out.call hb8)
              clear hb8 H7 HK7 b0 b1 b2 b3
              go_wp2_with fail
              clear a0 a1 a2 a3
              with_reducible refine (head6_any Y M5 l5 B m cB L w8 HYK.out.2.2.2 (by have := lims.out; omega) (by have := lims.out; omega) H8.out.st.rd (by omega)).mono ?_
              rintro e w9 ⟨A9, n9, c9, rfl, ho9, hb9⟩
              have H9 := Lib.hid (H8.out.call hb9)
              have HO9 := Lib.hid ho9
              obtain rfl : M9 = n9 := by have := ho9.len; rw [hd4_len] at this; have := HML.out; have := HM9.out; omega
              clear ho9 hb9 H8
              go_wp2_with fail
              with_reducible refine (Says.call (HFV.out.short) w9 _ A9 M9 c9 (by have := HLN.out; subst this; exact HO9.out) H9.out.st.tab).mono ?_
              rintro e w10 ⟨A10, c10, rfl, hb10⟩
              have H11 := Lib.hid ((H9.out.call hb10).alloc (.cells #[.int .u8 0, .int .u64 0, .string ⟨#[]⟩, .slice A10 0 c10] 25))
              obtain ⟨a0, a1, a2, a3, _⟩ := H11.out.bx.all
              obtain ⟨g10, hg10⟩ : ∃ g, w10.heap.size = g := ⟨_, rfl⟩
              obtain ⟨w11, hw11⟩ : ∃ x, w10.alloc (.cells #[.int .u8 0, .int .u64 0, .string ⟨#[]⟩, .slice A10 0 c10] 25) = x := ⟨_, rfl⟩
              rw [hw11] at H11 a0 a1 a2 a3
              clear HO9 hb10 H9
              go_wp2_with fail
              clear hg10 hw11
              clear a0 a1 a2 a3
              with_reducible refine (head6_any Y M4 N3 B m cB L w11 HYK.out.2.2.2 (by have := lims.out; omega) (by have := lims.out; omega) H11.out.st.rd (by omega)).mono ?_
              rintro e w12 ⟨A12, n12, c12, rfl, ho12, hb12⟩
              have H12 := Lib.hid (H11.out.call hb12)
              have HO12 := Lib.hid ho12
              obtain rfl : M9 = n12 := by have := ho12.len; rw [hd4_len] at this; have := HML.out; have := HM9.out; omega
              clear ho12 hb12 H11
              go_wp2_with fail
              by_cases h0 : 0 < l5
              · have hl0 : (l5 : Int) > 0 := by omega
                have iN5 : (l5 : Int) - 1 = (N5 : Int) := by have := HN5.out; omega
                have hp : 0 < ks.length := by have := HLN.out; omega
                clear h0
                with_reducible refine (Says.call (HFV.out.more) w12 _ A12 M9 c12 (by have := HLN.out; subst this; exact HO12.out) H12.out.st.tab).mono ?_
                rintro e w13 ⟨A13, c13, rfl, hb13⟩
                have H14 := Lib.hid ((H12.out.call hb13).alloc (.cells #[.int .u8 0, .int .u64 0, .string ⟨#[]⟩, .slice A13 0 c13] 25))
                obtain ⟨a0, a1, a2, a3, _⟩ := H14.out.bx.all
                obtain ⟨g13, hg13⟩ : ∃ g, w13.heap.size = g := ⟨_, rfl⟩
                obtain ⟨w14, hw14⟩ : ∃ x, w13.alloc (.cells #[.int .u8 0, .int .u64 0, .string ⟨#[]⟩, .slice A13 0 c13] 25) = x := ⟨_, rfl⟩
                rw [hw14] at H14 a0 a1 a2 a3
                clear HO12 hb13 H12
                go_wp2_with fail
                clear hg13 hw14
                clear a0 a1 a2 a3
                with_reducible refine (head6_any Y M3 l5 B m cB L w14 HYK.out.2.2.2 (by have := lims.out; omega) (by have := lims.out; omega) H14.out.st.rd (by omega)).mono ?_
                rintro e w15 ⟨A15, n15, c15, rfl, ho15, hb15⟩
                have H15 := Lib.hid (H14.out.call hb15)
                have HO15 := Lib.hid ho15
                obtain rfl : M9 = n15 := by have := ho15.len; rw [hd4_len] at this; have := HML.out; have := HM9.out; omega
                clear ho15 hb15 H14
                go_wp2_with fail
                with_reducible refine (Says.call (HFV.out.cut hp) w15 _ A15 M9 c15 (by have := HLN.out; subst this; exact HO15.out) H15.out.st.tab).mono ?_
                rintro e w16 ⟨A16, c16, rfl, hb16⟩
                have H17 := Lib.hid ((H15.out.call hb16).alloc (.cells #[.int .u8 0, .int .u64 0, .string ⟨#[]⟩, .slice A16 0 c16] 25))
                obtain ⟨a0, a1, a2, a3, _⟩ := H17.out.bx.all
                obtain ⟨g16, hg16⟩ : ∃ g, w16.heap.size = g := ⟨_, rfl⟩
                obtain ⟨w17, hw17⟩ : ∃ x, w16.alloc (.cells #[.int .u8 0, .int .u64 0, .string ⟨#[]⟩, .slice A16 0 c16] 25) = x := ⟨_, rfl⟩
                rw [hw17] at H17 a0 a1 a2 a3
                clear HO15 hb16 H15
                go_wp2_with fail
                clear hg16 hw17
                clear a0 a1 a2 a3
                with_reducible refine (head6_any Y M4 N5 B m cB L w17 HYK.out.2.2.2 (by have := lims.out; omega) (by have := lims.out; omega) H17.out.st.rd (by omega)).mono ?_
                rintro e w18 ⟨A18, n18, c18, rfl, ho18, hb18⟩
                have H18 := Lib.hid (H17.out.call hb18)
                have HO18 := Lib.hid ho18
                obtain rfl : M9 = n18 := by have := ho18.len; rw [hd4_len] at this; have := HML.out; have := HM9.out; omega
                clear ho18 hb18 H17
                go_wp2_with fail
                with_reducible refine (Says.call (HFV.out.less hp) w18 _ A18 M9 c18 (by have := HLN.out; subst this; exact HO18.out) H18.out.st.tab).mono ?_
                rintro e w19 ⟨A19, c19, rfl, hb19⟩
                have H20 := Lib.hid ((H18.out.call hb19).alloc (.cells #[.int .u8 0, .int .u64 0, .string ⟨#[]⟩, .slice A19 0 c19] 25))
                obtain ⟨a0, a1, a2, a3, _⟩ := H20.out.bx.all
                obtain ⟨g19, hg19⟩ : ∃ g, w19.heap.size = g := ⟨_, rfl⟩
                obtain ⟨w20, hw20⟩ : ∃ x, w19.alloc (.cells #[.int .u8 0, .int .u64 0, .string ⟨#[]⟩, .slice A19 0 c19] 25) = x := ⟨_, rfl⟩
                rw [hw20] at H20 a0 a1 a2 a3
                clear HO18 hb19 H18
                go_wp2_with fail
                clear hg19 hw20
                go_roundw
                case rel => exact ⟨n + 1, hlt, by go_num, H20.out.st, H20.out.kn⟩
                case measure => (simp [intOf]; omega)
              · have hl0 : ¬ (l5 : Int) > 0 := by omega
                clear h0
                with_reducible refine (Says.call (HFV.out.more) w12 _ A12 M9 c12 (by have := HLN.out; subst this; exact HO12.out) H12.out.st.tab).mono ?_
                rintro e w13 ⟨A13, c13, rfl, hb13⟩
                have H14 := Lib.hid ((H12.out.call hb13).alloc (.cells #[.int .u8 0, .int .u64 0, .string ⟨#[]⟩, .slice A13 0 c13] 25))
                obtain ⟨a0, a1, a2, a3, _⟩ := H14.out.bx.all
                obtain ⟨g13, hg13⟩ : ∃ g, w13.heap.size = g := ⟨_, rfl⟩
                obtain ⟨w14, hw14⟩ : ∃ x, w13.alloc (.cells #[.int .u8 0, .int .u64 0, .string ⟨#[]⟩, .slice A13 0 c13] 25) = x := ⟨_, rfl⟩
                rw [hw14] at H14 a0 a1 a2 a3
                clear HO12 hb13 H12
                go_wp2_with fail
                clear hg13 hw14
                go_roundw
                case rel => exact ⟨n + 1, hlt, by go_num, H14.out.st, H14.out.kn⟩
                case measure => (simp [intOf]; omega)
          · obtain rfl : n = 2 := by omega
            clear hR hlt hn HF HL HLN HML
            simp only [Int.cast_ofNat_Int]
            have HSW := Lib.hid hS
            have hs255 := HS.out
            obtain ⟨Z, hZ⟩ : ∃ Z, s.size = Z := ⟨_, rfl⟩
            have ho := own_lit8 wr wr.heap.size 5 [176, 0, 0, 0, Z] rfl (by simp only [List.mem_cons, List.not_mem_nil, or_false]; rintro x (rfl | rfl | rfl | rfl | rfl) <;> omega) (by decide) (Nat.le_refl _)
            obtain ⟨T, hT⟩ : ∃ T, 5 + s.size = T := ⟨_, rfl⟩
            have HT := Lib.hid hT
            have HO := Lib.hid ho
            have hZI : ((s.size : Nat) : Int) = (Z : Int) := by rw [hZ]
            have hZ255 : Z ≤ 255 := by omega
            have HZ := Lib.hid hZ
            clear ho hS hs255 hZ
            go_wp2_with (at_builtin; refine Enc.wpList_appS (base := wr.heap.size) rfl _ _ rfl rfl HO.out rfl (by have := HS.out; omega) (by simp) ?_; intro A2 c2 w2 ho2 hg2; rw [hT] at ho2 ⊢; have hb2 : Below wr.heap.size wr w2 := ((Below.refl _ _).alloc (Nat.le_refl _) _).trans (below_grown HO.out hg2 (by simp)); have H2 := Lib.hid (HSW.out.call hb2); have HO2 := Lib.hid ho2; clear hb2 ho2 hg2)
            with_reducible refine (dec_txt (s := s) (by have := HO2.out; rw [← HZ.out] at this; exact this) HS.out H2.out.tab).mono ?_
            rintro e w3 ⟨A3, c3, rfl, hb3⟩
            have hx4 := Box.new w3 (.int .u8 19) (.int .u64 0) (.string s) (.slice A3 0 c3)
            have H4 := Lib.hid ((H2.out.call hb3).alloc (.cells #[.int .u8 19, .int .u64 0, .string s, .slice A3 0 c3] 25))
            obtain ⟨g4, hg4⟩ : ∃ g, w3.heap.size = g := ⟨_, rfl⟩
            obtain ⟨w4, hw4⟩ : ∃ x, w3.alloc (.cells #[.int .u8 19, .int .u64 0, .string s, .slice A3 0 c3] 25) = x := ⟨_, rfl⟩
            rw [hw4] at hx4 H4
            rw [hg4] at hx4
            have HX4 := Lib.hid hx4
            have hH0 : Below w4.heap.size w4 w4.drew := (Below.refl _ _).drew
            have hc0 := hH0
            clear hx4 hb3 H2 HO2 HSW HO
            go_wp2_with fail
            clear hg4 hw4
            go_region_held3 (fun wx => wx.cell? ⟨g4, 0, none⟩ = some (.int .u8 19) ∧ wx.cell? ⟨g4, 1, none⟩ = some (.int .u64 0) ∧ wx.cell? ⟨g4, 2, none⟩ = some (.string s) ∧ wx.cell? ⟨g4, 3, none⟩ = some (.slice A3 0 c3) ∧ Below w4.heap.size w4 wx) (with_reducible first | assumption | exact heldw HX4.out hH0 | exact heldw HX4.out hc1 | exact heldw HX4.out hc2 | exact heldw HX4.out hc3 | fail)
              (first
              | (go_at_call 23; (with_reducible refine (tex19 s _).mono ?_); rintro e w5 ⟨rfl, hb5⟩; have hc1 := below_next hc0 hb5)
              | (go_at_call 19; (with_reducible refine (same19 s A3 c3 _).mono ?_); rintro e w6 ⟨rfl, hb6⟩; have hc2 := below_next hc1 hb6)
              | (go_at_call 17; (with_reducible refine (Dec.works_any _ (H4.out.tab.call hc2)).mono ?_); rintro e w7 ⟨rfl, hb7⟩; have hc3 := below_next hc2 hb7)
              | fail)
            all_goals
              go_wp2
              go_ret
              exact ⟨rfl, below_next H4.out.low hc3⟩
end Go.Proofs.YtikjnbognjicdaaDoor.decodeWide
