/-
  What is told of bytes, as a row, plain: it hangs on the bytes alone. No Go in it.
-/
import Derived.Test.YtdjncacknmejoaaItq
namespace Go.Proofs.Ytdjncacknmejoaa.It
set_option maxRecDepth 100000
open Go.Proofs.Ytdjncacknmejoaa.Utf Go.Proofs.Ytdjncacknmejoaa.Enc Go.Proofs.Ytdjncacknmejoaa.Fr

/-- With more behind it, what is told stays so. -/
theorem kind_more {s : St} (m : List Nat) (h : kind s ≠ 0) : kind { s with held := s.held ++ m } = kind s := by
  unfold kind at h ⊢
  by_cases h1 : s.bad = true
  · rw [if_pos h1, if_pos h1]
  rw [if_neg h1] at h
  rw [if_neg h1, if_neg h1]
  by_cases h2 : s.went = true
  · rw [if_pos h2] at h
    rw [if_pos h2, if_pos h2]
    by_cases h3 : erF s.held s.most = 0
    · rw [if_pos h3, if_pos (erF_more m h3).1]
    rw [if_neg h3] at h
    rw [if_neg h3]
    rcases erF_cases s.held s.most with h4 | h4 | h4
    · exact absurd h4 h3
    · have h5 := erF_form m h4
      show (if erF (s.held ++ m) s.most = 0 then 2 else if erF (s.held ++ m) s.most = 7 then 0 else 3) = _
      rw [h5, h4]
      rfl
    · rw [if_pos h4] at h
      exact absurd rfl h
  · rw [if_neg h2] at h
    rw [if_neg h2, if_neg h2]
    show (if (s.held ++ m).take 8 = hdr.take (s.held ++ m).length then (if (s.held ++ m).length < 8 then 0 else 1) else 3) = _
    by_cases h3 : s.held.take 8 = hdr.take s.held.length
    · rw [if_pos h3] at h
      rw [if_pos h3]
      by_cases h4 : s.held.length < 8
      · rw [if_pos h4] at h; exact absurd rfl h
      · have hl : (s.held ++ m).length = s.held.length + m.length := List.length_append
        rw [if_neg h4, if_pos, if_neg (by omega)]
        rw [List.take_append_of_le_length (by omega), h3, List.take_of_length_le (by show 8 ≤ _; omega), List.take_of_length_le (by show 8 ≤ _; omega)]
    · rw [if_neg h3, if_neg]
      intro e
      apply h3
      have hl : (s.held ++ m).length = s.held.length + m.length := List.length_append
      by_cases h4 : 8 ≤ s.held.length
      · have e8 : hdr.take (s.held ++ m).length = hdr := List.take_of_length_le (by show 8 ≤ _; omega)
        rw [List.take_append_of_le_length h4, e8] at e
        rw [e, List.take_of_length_le (by show 8 ≤ _; omega)]
      · have e2 := congrArg (List.take s.held.length) e
        rw [List.take_take, List.take_take, Nat.min_eq_left (by omega), Nat.min_eq_left (by omega), List.take_left] at e2
        rw [List.take_of_length_le (by omega)]
        exact e2
/-- An event: its kind, the channel and the body. -/
abbrev Ev := Nat × Nat × List Nat
/-- What is told of bytes. -/
def evs (m : Nat) (went : Bool) (b : List Nat) : List Ev :=
  if _h1 : kind ⟨m, b, false, went⟩ = 1 then (1, 0, []) :: evs m true (b.drop 8)
  else if _h2 : kind ⟨m, b, false, went⟩ = 2 then (2, chF b, bodyF b) :: evs m went (b.drop (nF b))
  else if kind ⟨m, b, false, went⟩ = 3 then [(3, 0, [])] else []
termination_by b.length
decreasing_by
  · have h := (kind_header _h1).2.2.1
    have h : 8 ≤ b.length := h
    rw [List.length_drop]
    omega
  · have h := erF_ok (kind_frame _h2).2.2
    have e1 : 8 ≤ nF b := h.1
    have e2 : nF b ≤ b.length := h.2.2.1
    rw [List.length_drop]
    omega
theorem evs_none {m : Nat} {went : Bool} {b : List Nat} (h : kind ⟨m, b, false, went⟩ = 0) : evs m went b = [] := by
  rw [evs, dif_neg (by omega), dif_neg (by omega), if_neg (by omega)]
theorem evs_bad {m : Nat} {went : Bool} {b : List Nat} (h : kind ⟨m, b, false, went⟩ = 3) : evs m went b = [(3, 0, [])] := by
  rw [evs, dif_neg (by omega), dif_neg (by omega), if_pos h]
theorem evs_header {m : Nat} {went : Bool} {b : List Nat} (h : kind ⟨m, b, false, went⟩ = 1) : evs m went b = (1, 0, []) :: evs m true (b.drop 8) := by
  rw [evs, dif_pos h]
theorem evs_frame {m : Nat} {went : Bool} {b : List Nat} (h : kind ⟨m, b, false, went⟩ = 2) : evs m went b = (2, chF b, bodyF b) :: evs m went (b.drop (nF b)) := by
  rw [evs, dif_neg (by omega), dif_pos h]
/-- What an intake in this state tells now. -/
def evN (s : St) : Ev := (kind s, chN s, bdN s)
/-- How what was told, and what is held, stand to the bytes that were taken. -/
def Rel (b : List Nat) (E : List Ev) (s : St) (at_ : Nat) : Prop := s.bad = false ∧ ∀ more, evs s.most false (b.take at_ ++ more) = E ++ evs s.most s.went (s.held ++ more)
theorem Rel.start (b : List Nat) (m : Nat) : Rel b [] ⟨m, [], false, false⟩ 0 := ⟨rfl, fun more => by simp⟩
theorem Rel.put {b : List Nat} {E : List Ev} {s : St} {at_ : Nat} (h : Rel b E s at_) (n : Nat) : Rel b E (put s ((b.drop at_).take n)) (at_ + min n (room s)) := by
  refine ⟨h.1, fun more => ?_⟩
  show evs s.most false _ = E ++ evs s.most s.went ((s.held ++ ((b.drop at_).take n).take (room s)) ++ more)
  have e : b.take (at_ + min n (room s)) ++ more = b.take at_ ++ (((b.drop at_).take n).take (room s) ++ more) := by
    rw [List.take_add, List.take_take, Nat.min_comm, List.append_assoc]
  rw [e, h.2, List.append_assoc]
theorem st_eta {s : St} (h : s.bad = false) (l : List Nat) : ({ s with held := l } : St) = ⟨s.most, l, false, s.went⟩ := by
  cases s; simp at h ⊢; exact h
theorem Rel.next {b : List Nat} {E : List Ev} {s : St} {at_ : Nat} (h : Rel b E s at_) (hk : kind s = 1 ∨ kind s = 2) : Rel b (E ++ [evN s]) (next s) at_ := by
  rcases hk with hk | hk
  · have hh := kind_header hk
    have e : It.next s = { s with held := s.held.drop 8, went := true } := by unfold It.next; rw [hk]; simp
    rw [e]
    refine ⟨h.1, fun more => ?_⟩
    show evs s.most false _ = (E ++ [evN s]) ++ evs s.most true (s.held.drop 8 ++ more)
    have hkm := kind_more more (s := s) (by omega)
    rw [st_eta h.1, hk] at hkm
    rw [h.2, evs_header hkm, List.drop_append_of_le_length hh.2.2.1]
    simp [evN, chN, bdN, hk]
  · have hf := kind_frame hk
    have e : It.next s = { s with held := s.held.drop (nF s.held) } := by unfold It.next; rw [hk]; simp
    rw [e]
    refine ⟨h.1, fun more => ?_⟩
    show evs s.most false _ = (E ++ [evN s]) ++ evs s.most s.went (s.held.drop (nF s.held) ++ more)
    have hkm := kind_more more (s := s) (by omega)
    rw [st_eta h.1, hk] at hkm
    obtain ⟨m1, m2, m3, m4⟩ := erF_more more hf.2.2
    rw [h.2, evs_frame hkm, m2, m3, m4, List.drop_append_of_le_length (erF_ok hf.2.2).2.2.1]
    simp [evN, chN, bdN, hk]
/-- Where it is bad all is told. -/
theorem Rel.bad {b : List Nat} {E : List Ev} {s : St} {at_ : Nat} (h : Rel b E s at_) (hk : kind s = 3) : evs s.most false b = E ++ [evN s] := by
  have hkm := kind_more (b.drop at_) (s := s) (by omega)
  rw [st_eta h.1, hk] at hkm
  have := h.2 (b.drop at_)
  rw [List.take_append_drop, evs_bad hkm] at this
  rw [this]
  simp [evN, chN, bdN, hk]
/-- Where all bytes were taken, and nothing comes, all is told. -/
theorem Rel.all {b : List Nat} {E : List Ev} {s : St} {at_ : Nat} (h : Rel b E s at_) (hk : kind s = 0) (ha : b.length ≤ at_) : evs s.most false b = E := by
  have := h.2 []
  rw [List.append_nil, List.append_nil, List.take_of_length_le ha] at this
  rw [this, evs_none (by have := st_eta h.1 s.held; rw [← this]; exact hk), List.append_nil]
end Go.Proofs.Ytdjncacknmejoaa.It
