/-
  Contracts of utf.count, utf.Right and utf.Chars: the characters of bytes in new memory, or that they are no text. Memory that was there stays. Condition: at most 2^40 bytes.
  Contracts of the laws' helpers: same (characters), EqBytes, and of utf.Ascii and the document's Ascii. Conditions: at most 2^40 of them.
-/
import Derived.Test.YtohmnbefokhjpaaDoorFirst
import Derived.Laws.MakeOwn
import Derived.WalkLawsBesides
namespace Go.Proofs.YtohmnbefokhjpaaDoor.Utf
open Go.RowKit

def lenOf : Value → Nat
  | .slice _ n _ => n
  | _ => 0

/-- No characters have this text. -/
def NoT (l : List Nat) : Prop := ∀ cs, ¬ IsT l cs

def GivesCnt (l : List Nat) (w : World) (e : Ending) (w' : World) : Prop :=
  ((∃ cs, IsT l cs ∧ e = .returned (.tuple #[.int .i64 (cs.length : Nat), .bool true])) ∨ (NoT l ∧ e = .returned (.tuple #[.int .i64 0, .bool false]))) ∧ Below w.heap.size w w'

theorem en_append_len {c : Nat} {r r' : List Nat} (h : r = en c ++ r') : fu c + 1 ≤ r.length ∧ r.drop (fu c + 1) = r' := by
  subst h
  rw [List.length_append, en_length]
  refine ⟨by omega, ?_⟩
  rw [← en_length, List.drop_left]

theorem count_any (A : Option Addr) (n c : Nat) (l : List Nat) (w : World) (ht : Tab w) (hr : Rd .u8 256 w w.heap.size A n l) (hnc : n ≤ c) (hn : n ≤ 1099511627776) :
    Calls Tryd.prog 66 #[.slice A n c] w (GivesCnt l w) := by
  go_enter Tryd.func66, Tryd.ntmps66
  go_wp2
  go_loopw [0, 4] (fun b i wr => ∃ A' n' c' d r, n' ≤ c' ∧ n' + d.length ≤ n ∧ b = .slice A' n' c' ∧ i = .int .i64 (d.length : Nat) ∧ AllC d ∧ l = txt d ++ r ∧ Rd .u8 256 wr w.heap.size A' n' r ∧ Below w.heap.size w wr) (fun b _ _ => lenOf b)
  case atStart => exact ⟨A, n, c, [], l, hnc, by simp, rfl, rfl, allC_nil, rfl, hr, Below.refl _ _⟩
  case round =>
    obtain ⟨A', n', c', d, r, hnc', hnd, rfl, rfl, hd, hl, hr', hb⟩ := hrel
    have HL := Lib.hid hl
    have HD := Lib.hid hd
    clear hl hd
    by_cases h0 : n' = 0
    · subst h0
      have hr0 : r = [] := List.eq_nil_of_length_eq_zero hr'.1
      subst hr0
      go_wp2
      go_ret2
      exact ⟨.inl ⟨d, ⟨HD.out, by rw [HL.out, List.append_nil]⟩, rfl⟩, hb⟩
    · have ht' := ht.below hb ht.pos
      have hr2 := hr'.mono hb.size
      go_wp2_with fail
      refine (first_any A' n' c' r wr ht' hr2 (by omega) (by omega)).mono ?_
      rintro e w2 ⟨rfl, hb2⟩
      have hb3 := hb.trans (hb2.mono hb.size)
      have hr3 := hr'.below (hb2.mono hb.size)
      cases hdec : dec r with
      | none =>
        rw [fv_none hdec]
        have HN : Hid (NoT l) := Lib.hid (by rw [HL.out]; exact no_text HD.out (fun h => h0 (by rw [← hr'.1, h]; rfl)) hdec)
        clear hdec
        go_wp2
        go_ret2
        exact ⟨.inr ⟨HN.out, rfl⟩, hb3⟩
      | some p =>
        obtain ⟨ch, m⟩ := p
        rw [fv_some hdec]
        obtain ⟨hC, rfl, r', hrr⟩ := dec_inv hdec
        obtain ⟨hlen, hdrop⟩ := en_append_len hrr
        rw [hr'.1] at hlen
        obtain ⟨A1, c1, hc1, _, hs1, hs2, hrd⟩ := cut_from A' n' c' (fu ch + 1) hlen hnc'
        have hr4 := hrd _ _ _ hr3
        rw [hdrop] at hr4
        have HL2 : Hid (l = txt (d ++ [ch]) ++ r') := Lib.hid (by rw [HL.out, hrr, txt_append, txt_cons, txt_nil, List.append_nil, List.append_assoc])
        have HD2 : Hid (AllC (d ++ [ch])) := Lib.hid (HD.out.append (AllC.one hC))
        have hf3 := fu_le ch
        have hne : (((fu ch + 1 : Nat) : Int) == 0) = false := by simp; omega
        have hm0 : 0 < fu ch + 1 := by omega
        clear hdec hrr hdrop hrd HL HD hC
        generalize fu ch + 1 = m at *
        have hs1' := hs1 w2 (m : Int) rfl
        have hs2' := hs2 w2 (m : Int) rfl
        clear hs1 hs2
        go_wp2
        go_roundw
        case rel => exact ⟨A1, n' - m, c1, d ++ [ch], r', hc1, by simp; omega, rfl, by simp, HD2.out, HL2.out, hr4, hb3⟩
        case measure => simp [lenOf]; omega

theorem right_any (A : Option Addr) (n c : Nat) (l : List Nat) (w : World) (ht : Tab w) (hr : Rd .u8 256 w w.heap.size A n l) (hnc : n ≤ c) (hn : n ≤ 1099511627776) :
    Calls Tryd.prog 63 #[.slice A n c] w fun e w' => (((∃ cs, IsT l cs) ∧ e = .returned (.bool true)) ∨ (NoT l ∧ e = .returned (.bool false))) ∧ Below w.heap.size w w' := by
  go_enter Tryd.func63, Tryd.ntmps63
  go_wp2_with fail
  refine (count_any A n c l w ht hr hnc hn).mono ?_
  rintro e w1 ⟨⟨cs, hT, rfl⟩ | ⟨hN, rfl⟩, hb⟩
  · have HT := Lib.hid hT
    clear hT
    go_wp2
    go_ret
    exact ⟨.inl ⟨⟨cs, HT.out⟩, rfl⟩, hb⟩
  · have HN := Lib.hid hN
    clear hN
    go_wp2
    go_ret
    exact ⟨.inr ⟨HN.out, rfl⟩, hb⟩

def GivesChars (l : List Nat) (w : World) (e : Ending) (w' : World) : Prop :=
  ((∃ cs A n c, IsT l cs ∧ e = .returned (.tuple #[.slice A n c, .bool true]) ∧ Own .u32 4294967296 105 w' w.heap.size A n c cs) ∨ (NoT l ∧ e = .returned (.tuple #[.slice none 0 0, .bool false]))) ∧ Below w.heap.size w w'

theorem isC_u32 {c : Nat} (h : isC c = true) : c < 4294967296 := by have := isC_lt h; omega

end Go.Proofs.YtohmnbefokhjpaaDoor.Utf

namespace Go.Proofs.YtohmnbefokhjpaaDoor.Utf
set_option maxRecDepth 100000
open Go.RowKit

theorem less_self (l : List UInt8) : Op.bytesLess l l = false := by
  induction l with
  | nil => rfl
  | cons a l ih => simp [Op.bytesLess, ih]

theorem less_not : ∀ (l m : List UInt8), Op.bytesLess l m = true → Op.bytesLess m l = false
  | [], [], _ => by simp [Op.bytesLess]
  | [], _ :: _, _ => by simp [Op.bytesLess]
  | _ :: _, [], h => by simp [Op.bytesLess] at h
  | a :: l, b :: m, h => by
    simp only [Op.bytesLess, Bool.or_eq_true, Bool.and_eq_true, decide_eq_true_eq, beq_iff_eq] at h
    rcases h with h | ⟨rfl, h⟩
    · have h1 : ¬ b < a := fun h2 => by have := UInt8.lt_trans h h2; simp at this
      have h2 : ¬ b = a := fun h2 => by subst h2; simp at h
      simp [Op.bytesLess, h1, h2]
    · simp [Op.bytesLess, less_not l m h]

theorem sb_list (l : List Nat) : (sb l).toList = l.map UInt8.ofNat := by
  simp [sb]

theorem leq_both {x y : List UInt8} (h : x ≠ y) : ((Op.bytesLess x y || x == y) && (Op.bytesLess y x || y == x)) = false := by
  have h1 : (x == y) = false := by simpa using h
  have h2 : (y == x) = false := by simpa using fun e => h (Eq.symm e)
  rw [h1, h2]
  cases hl : Op.bytesLess x y with
  | false => rfl
  | true => rw [less_not x y hl]; rfl

def asc (l : List Nat) : Bool := l.all fun x => decide (x < 128)
theorem asc_step {l : List Nat} {k x : Nat} (h : l[k]? = some x) : asc (l.drop k) = (decide (x < 128) && asc (l.drop (k + 1))) := by
  rw [drop_at h]; simp [asc]

theorem ascii_any (B : Nat) (A : Option Addr) (n c : Nat) (l : List Nat) (w : World) (hr : Rd .u8 256 w B A n l) (hn : n ≤ 1099511627776) :
    Calls Tryd.prog 34 #[.slice A n c] w fun e w' => e = .returned (.bool (asc l)) ∧ w = w' := by
  go_enter Tryd.func34, Tryd.ntmps34
  go_wp2
  go_loop [7] (fun i => ∃ k : Nat, k ≤ n ∧ i = .int .i64 k ∧ asc l = asc (l.drop k)) (fun i => n - (intOf i).toNat)
  case atStart => exact ⟨0, Nat.zero_le _, rfl, rfl⟩
  case round =>
    obtain ⟨k, hk, rfl, ha⟩ := hrel
    by_cases hlt : k < n
    · obtain ⟨b, o, x, rfl, hb, hx, hx2, hc⟩ := hr.at_ hlt
      rw [asc_step hx] at ha
      clear hx
      by_cases h8 : x < 128
      · have HA : Hid (asc l = asc (l.drop (k + 1))) := Lib.hid (by rw [ha]; simp [h8])
        clear ha
        have d8 : decide (128 ≤ (x : Int)) = false := by simp; omega
        go_wp2
        exact ⟨⟨k + 1, by omega, by go_num, HA.out⟩, by simp [intOf]; omega⟩
      · have HA : Hid (asc l = false) := Lib.hid (by rw [ha]; simp [h8])
        clear ha
        have d8 : decide (128 ≤ (x : Int)) = true := by simp; omega
        go_wp2
        go_ret
        exact ⟨by rw [HA.out]; rfl, rfl⟩
    · have HA : Hid (asc l = true) := Lib.hid (by rw [ha, List.drop_of_length_le (by rw [hr.len]; omega)]; rfl)
      clear ha
      go_wp2
      go_ret
      exact ⟨by rw [HA.out]; rfl, rfl⟩

end Go.Proofs.YtohmnbefokhjpaaDoor.Utf
