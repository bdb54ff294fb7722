/-
  Contracts of utf.count, utf.Right and utf.Chars: the characters of bytes in new memory, or that they are no text. Memory that was there stays. Condition: at most 2^40 bytes.
-/
import Derived.Test.YthplkkpcpkdbiaaDoorFirst
import Derived.Laws.MakeOwn
namespace Go.Proofs.YthplkkpcpkdbiaaDoor.Utf
open Go.RowKit

def lenOf : Value → Nat
  | .slice _ n _ => n
  | _ => 0

/-- No characters have this text. -/
def NoT (l : List Nat) : Prop := ∀ cs, ¬ IsT l cs

def GivesCnt (l : List Nat) (w : World) (e : Ending) (w' : World) : Prop :=
  ((∃ cs, IsT l cs ∧ e = .returned (.tuple #[.int .i64 (cs.length : Nat), .bool true])) ∨ (NoT l ∧ e = .returned (.tuple #[.int .i64 0, .bool false]))) ∧ Below w.heap.size w w'

theorem en_append_len {c : Nat} {r r' : List Nat} (h : r = en c ++ r') : fu c + 1 ≤ r.length ∧ r.drop (fu c + 1) = r' := by
  subst h
  rw [List.length_append, en_length]
  refine ⟨by omega, ?_⟩
  rw [← en_length, List.drop_left]

theorem count_any (A : Option Addr) (n c : Nat) (l : List Nat) (w : World) (ht : Tab w) (hr : Rd .u8 256 w w.heap.size A n l) (hnc : n ≤ c) (hn : n ≤ 1099511627776) :
    Calls Tryd.prog 25 #[.slice A n c] w (GivesCnt l w) := by
  go_enter Tryd.func25, Tryd.ntmps25
  go_wp2
  go_loopw [0, 4] (fun b i wr => ∃ A' n' c' d r, n' ≤ c' ∧ n' + d.length ≤ n ∧ b = .slice A' n' c' ∧ i = .int .i64 (d.length : Nat) ∧ AllC d ∧ l = txt d ++ r ∧ Rd .u8 256 wr w.heap.size A' n' r ∧ Below w.heap.size w wr) (fun b _ _ => lenOf b)
  case atStart => exact ⟨A, n, c, [], l, hnc, by simp, rfl, rfl, allC_nil, rfl, hr, Below.refl _ _⟩
  case round =>
    obtain ⟨A', n', c', d, r, hnc', hnd, rfl, rfl, hd, hl, hr', hb⟩ := hrel
    have HL := Lib.hid hl
    have HD := Lib.hid hd
    clear hl hd
    by_cases h0 : n' = 0
    · subst h0
      have hr0 : r = [] := List.eq_nil_of_length_eq_zero hr'.1
      subst hr0
      go_wp2
      go_ret2
      exact ⟨.inl ⟨d, ⟨HD.out, by rw [HL.out, List.append_nil]⟩, rfl⟩, hb⟩
    · have ht' := ht.below hb ht.pos
      have hr2 := hr'.mono hb.size
      go_wp2_with fail
      refine (first_any A' n' c' r wr ht' hr2 (by omega) (by omega)).mono ?_
      rintro e w2 ⟨rfl, hb2⟩
      have hb3 := hb.trans (hb2.mono hb.size)
      have hr3 := hr'.below (hb2.mono hb.size)
      cases hdec : dec r with
      | none =>
        rw [fv_none hdec]
        have HN : Hid (NoT l) := Lib.hid (by rw [HL.out]; exact no_text HD.out (fun h => h0 (by rw [← hr'.1, h]; rfl)) hdec)
        clear hdec
        go_wp2
        go_ret2
        exact ⟨.inr ⟨HN.out, rfl⟩, hb3⟩
      | some p =>
        obtain ⟨ch, m⟩ := p
        rw [fv_some hdec]
        obtain ⟨hC, rfl, r', hrr⟩ := dec_inv hdec
        obtain ⟨hlen, hdrop⟩ := en_append_len hrr
        rw [hr'.1] at hlen
        obtain ⟨A1, c1, hc1, _, hs1, hs2, hrd⟩ := cut_from A' n' c' (fu ch + 1) hlen hnc'
        have hr4 := hrd _ _ _ hr3
        rw [hdrop] at hr4
        have HL2 : Hid (l = txt (d ++ [ch]) ++ r') := Lib.hid (by rw [HL.out, hrr, txt_append, txt_cons, txt_nil, List.append_nil, List.append_assoc])
        have HD2 : Hid (AllC (d ++ [ch])) := Lib.hid (HD.out.append (AllC.one hC))
        have hf3 := fu_le ch
        have hne : (((fu ch + 1 : Nat) : Int) == 0) = false := by simp; omega
        have hm0 : 0 < fu ch + 1 := by omega
        clear hdec hrr hdrop hrd HL HD hC
        generalize fu ch + 1 = m at *
        have hs1' := hs1 w2 (m : Int) rfl
        have hs2' := hs2 w2 (m : Int) rfl
        clear hs1 hs2
        go_wp2
        go_roundw
        case rel => exact ⟨A1, n' - m, c1, d ++ [ch], r', hc1, by simp; omega, rfl, by simp, HD2.out, HL2.out, hr4, hb3⟩
        case measure => simp [lenOf]; omega

theorem right_any (A : Option Addr) (n c : Nat) (l : List Nat) (w : World) (ht : Tab w) (hr : Rd .u8 256 w w.heap.size A n l) (hnc : n ≤ c) (hn : n ≤ 1099511627776) :
    Calls Tryd.prog 15 #[.slice A n c] w fun e w' => (((∃ cs, IsT l cs) ∧ e = .returned (.bool true)) ∨ (NoT l ∧ e = .returned (.bool false))) ∧ Below w.heap.size w w' := by
  go_enter Tryd.func15, Tryd.ntmps15
  go_wp2_with fail
  refine (count_any A n c l w ht hr hnc hn).mono ?_
  rintro e w1 ⟨⟨cs, hT, rfl⟩ | ⟨hN, rfl⟩, hb⟩
  · have HT := Lib.hid hT
    clear hT
    go_wp2
    go_ret
    exact ⟨.inl ⟨⟨cs, HT.out⟩, rfl⟩, hb⟩
  · have HN := Lib.hid hN
    clear hN
    go_wp2
    go_ret
    exact ⟨.inr ⟨HN.out, rfl⟩, hb⟩

def GivesChars (l : List Nat) (w : World) (e : Ending) (w' : World) : Prop :=
  ((∃ cs A n c, IsT l cs ∧ e = .returned (.tuple #[.slice A n c, .bool true]) ∧ Own .u32 4294967296 36 w' w.heap.size A n c cs) ∨ (NoT l ∧ e = .returned (.tuple #[.slice none 0 0, .bool false]))) ∧ Below w.heap.size w w'

theorem isC_u32 {c : Nat} (h : isC c = true) : c < 4294967296 := by have := isC_lt h; omega

theorem chars_any (A : Option Addr) (n c : Nat) (l : List Nat) (w : World) (ht : Tab w) (hr : Rd .u8 256 w w.heap.size A n l) (hnc : n ≤ c) (hn : n ≤ 1099511627776) :
    Calls Tryd.prog 12 #[.slice A n c] w (GivesChars l w) := by
  obtain ⟨i0, hi, hz0, hz1, hz2⟩ := info_parts info36
  go_enter Tryd.func12, Tryd.ntmps12
  go_wp2_with fail
  refine (count_any A n c l w ht hr hnc hn).mono ?_
  rintro e w1 ⟨⟨cs, hT, rfl⟩ | ⟨hN, rfl⟩, hb1⟩
  · have hcl : cs.length ≤ n := by
      have := (txt_len cs).1
      rw [← hT.2, hr.len] at this
      exact this
    have HT := Lib.hid hT
    clear hT
    have hs1 := hb1.size
    go_wp2_with (at_make; refine wpList_make_own w1 rfl _ _ 25 rfl w.heap.size 36 i0 (.int .u32 0) 1 Tryd.underlying25 hi hz0 hz1 .i64 .i64 (cs.length : Int) cs.length rfl rfl rfl (by rw [hz2]; omega) (by unfold maxLen; omega) hs1 ?_; intro w2 hown2 hgrow2; have hb2 : Below w.heap.size w1 w2 := (Below.refl _ _).grown hgrow2 hs1 (fun _ h => by cases h))
    have hown2' : Own .u32 4294967296 36 w2 w.heap.size (some ⟨w1.heap.size, 0, none⟩) 0 cs.length [] := ⟨fun _ h => (by cases h), hown2⟩
    have hb2' := hb1.trans hb2
    have hr2 := hr.below hb2'
    clear hown2 hgrow2
    go_loopw [0, 6] (fun b q wr => ∃ A' n' c' d r A2 n2 c2, n' ≤ c' ∧ n' + n2 ≤ n ∧ b = .slice A' n' c' ∧ q = .slice A2 n2 c2 ∧ AllC d ∧ l = txt d ++ r ∧ Rd .u8 256 wr w.heap.size A' n' r ∧ Own .u32 4294967296 36 wr w.heap.size A2 n2 c2 d ∧ Below w.heap.size w wr) (fun b _ _ => lenOf b)
    case atStart => exact ⟨A, n, c, [], l, _, 0, _, hnc, by omega, rfl, rfl, allC_nil, rfl, hr2, hown2', hb2'⟩
    case round =>
      clear hr2 hown2' hb2' hb2 hs1 hb1
      obtain ⟨A', n', c', d, r, A2, n2, c2, hnc', hnd, rfl, rfl, hd, hl, hr', ho, hb⟩ := hrel
      have HL := Lib.hid hl
      have HD := Lib.hid hd
      clear hl hd
      by_cases h0 : n' = 0
      · subst h0
        have hr0 : r = [] := List.eq_nil_of_length_eq_zero hr'.1
        subst hr0
        go_wp2
        go_ret2
        exact ⟨.inl ⟨d, A2, n2, c2, ⟨HD.out, by rw [HL.out, List.append_nil]⟩, rfl, ho⟩, hb⟩
      · have ht' := ht.below hb ht.pos
        have hr2 := hr'.mono hb.size
        go_wp2_with fail
        refine (first_any A' n' c' r wr ht' hr2 (by omega) (by omega)).mono ?_
        rintro e w2 ⟨rfl, hb2⟩
        have hb3 := hb.trans (hb2.mono hb.size)
        have hr3 := hr'.below (hb2.mono hb.size)
        have ho3 := ho.below hb2
        cases hdec : dec r with
        | none =>
          exact absurd HT.out (by rw [HL.out]; exact no_text HD.out (fun h => h0 (by rw [← hr'.1, h]; rfl)) hdec cs)
        | some p =>
          obtain ⟨ch, m⟩ := p
          rw [fv_some hdec]
          obtain ⟨hC, rfl, r', hrr⟩ := dec_inv hdec
          obtain ⟨hlen, hdrop⟩ := en_append_len hrr
          rw [hr'.1] at hlen
          obtain ⟨A1, c1, hc1, _, hs1, hs2, hrd⟩ := cut_from A' n' c' (fu ch + 1) hlen hnc'
          have hr4 := hrd _ _ _ hr3
          rw [hdrop] at hr4
          have HL2 : Hid (l = txt (d ++ [ch]) ++ r') := Lib.hid (by rw [HL.out, hrr, txt_append, txt_cons, txt_nil, List.append_nil, List.append_assoc])
          have HD2 : Hid (AllC (d ++ [ch])) := Lib.hid (HD.out.append (AllC.one hC))
          have hf3 := fu_le ch
          have hch : ∀ x ∈ [ch], x < 4294967296 := fun x hx => by simp at hx; rw [hx]; exact isC_u32 hC
          have hm0 : 0 < fu ch + 1 := by omega
          clear hdec hrr hdrop hrd HL HD hC
          generalize fu ch + 1 = m at *
          have hsz2 := hb3.size
          go_wp2_with (at_builtin; refine wpList_app32 (l := [ch]) (B := w2.heap.size + 1) rfl _ _ rfl rfl (ho3.alloc _) rfl (rd_lit32 w2 [ch] 1 rfl hch) (by omega) (by simp; omega) ?_; intro A3 c3 w3 hown3 hgrow3; have hb4 : Below w.heap.size w w3 := (hb3.alloc hsz2 _).trans (below_grown (ho3.alloc _) hgrow3 (by simp; omega)); have hs1' := hs1 w3 (m : Int) rfl; have hs2' := hs2 w3 (m : Int) rfl)
          go_roundw
          case rel =>
            refine ⟨A1, n' - m, c1, d ++ [ch], r', A3, n2 + 1, c3, hc1, by omega, rfl, rfl, HD2.out, HL2.out, ?_, hown3, hb4⟩
            exact hr4.below ((((Below.refl w.heap.size w2).alloc hsz2 _).trans (below_grown (ho3.alloc _) hgrow3 (by simp; omega))))
          case measure => simp [lenOf]; omega
  · have HN := Lib.hid hN
    clear hN
    go_wp2
    go_ret2
    exact ⟨.inr ⟨HN.out, rfl⟩, hb1⟩
end Go.Proofs.YthplkkpcpkdbiaaDoor.Utf
