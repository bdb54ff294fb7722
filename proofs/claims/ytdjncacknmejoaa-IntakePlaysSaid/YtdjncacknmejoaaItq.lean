/-
  An intake, plain: what it holds, what comes next, what is taken, and what stays so. No Go in it.
-/
import Derived.Test.YtdjncacknmejoaaFrx
namespace Go.Proofs.Ytdjncacknmejoaa.It
set_option maxRecDepth 100000
open Go.Proofs.Ytdjncacknmejoaa.Utf Go.Proofs.Ytdjncacknmejoaa.Enc Go.Proofs.Ytdjncacknmejoaa.Fr

/-- The header. -/
def hdr : List Nat := [65, 77, 81, 80, 0, 1, 0, 0]
/-- An intake: the greatest frame, what it holds, whether it is bad, whether the header was told. -/
structure St where
  most : Nat
  held : List Nat
  bad : Bool
  went : Bool
def room (s : St) : Nat := if s.bad then 0 else s.most + 8 - s.held.length
def put (s : St) (b : List Nat) : St := { s with held := s.held ++ b.take (room s) }
/-- What comes next: 0 nothing, 1 the header, 2 a frame, 3 what is bad. -/
def kind (s : St) : Nat :=
  if s.bad then 3 else
  if s.went then (if erF s.held s.most = 0 then 2 else if erF s.held s.most = 7 then 0 else 3) else
  if s.held.take 8 = hdr.take s.held.length then (if s.held.length < 8 then 0 else 1) else 3
def next (s : St) : St :=
  if kind s = 3 then { s with held := [], bad := true } else
  if kind s = 2 then { s with held := s.held.drop (nF s.held) } else
  if kind s = 1 then { s with held := s.held.drop 8, went := true } else s
def chN (s : St) : Nat := if kind s = 2 then chF s.held else 0
def bdN (s : St) : List Nat := if kind s = 2 then bodyF s.held else []
structure Ok (s : St) : Prop where
  lo : 512 ≤ s.most
  hi : s.most ≤ 4096
  len : s.held.length ≤ s.most + 8
  byte : ∀ x ∈ s.held, x < 256
  bad : s.bad = true → s.held = []
theorem chF_lt {b : List Nat} (h : ∀ x ∈ b, x < 256) : chF b < 65536 := by
  unfold chF
  have h1 := nb_lt ((b.drop 6).take 2) fun x hx => h x (List.mem_of_mem_drop (List.mem_of_mem_take hx))
  have h2 : ((b.drop 6).take 2).length ≤ 2 := List.length_take_le _ _
  have h3 : 256 ^ ((b.drop 6).take 2).length ≤ 256 ^ 2 := Nat.pow_le_pow_right (by omega) h2
  omega
theorem chN_lt {s : St} (h : Ok s) : chN s < 65536 := by
  unfold chN
  split
  · exact chF_lt h.byte
  · omega
theorem kind_cases (s : St) : kind s = 0 ∨ kind s = 1 ∨ kind s = 2 ∨ kind s = 3 := by
  unfold kind
  (repeat' split) <;> simp
theorem Ok.put {s : St} (h : Ok s) {b : List Nat} (hb : ∀ x ∈ b, x < 256) : Ok (put s b) := by
  refine ⟨h.lo, h.hi, ?_, fun x hx => ?_, fun hbad => ?_⟩
  · show (s.held ++ b.take (room s)).length ≤ s.most + 8
    have := h.len
    rw [List.length_append, List.length_take]
    unfold room
    split <;> omega
  · rcases List.mem_append.1 hx with hx | hx
    · exact h.byte x hx
    · exact hb x (List.mem_of_mem_take hx)
  · have hb' : s.bad = true := hbad
    show s.held ++ b.take (room s) = []
    rw [h.bad hb']
    unfold room
    rw [if_pos hb']
    rfl
theorem Ok.next {s : St} (h : Ok s) : Ok (next s) := by
  have hl := h.len
  have hd : ∀ k, Ok { s with held := s.held.drop k } := fun k => ⟨h.lo, h.hi, by show (s.held.drop k).length ≤ s.most + 8; rw [List.length_drop]; omega, fun x hx => h.byte x (List.mem_of_mem_drop hx), fun hb => by show s.held.drop k = []; rw [h.bad hb]; simp⟩
  unfold It.next
  split
  · exact ⟨h.lo, h.hi, by simp, fun x hx => (by cases hx), fun _ => rfl⟩
  split
  · exact hd _
  split
  · exact ⟨(hd 8).lo, (hd 8).hi, (hd 8).len, (hd 8).byte, (hd 8).bad⟩
  · exact h
theorem new_ok {m : Nat} (h1 : 512 ≤ m) (h2 : m ≤ 4096) : Ok ⟨m, [], false, false⟩ := ⟨h1, h2, by simp, fun x hx => (by cases hx), fun h => (by cases h)⟩
theorem kind_bad {s : St} (h : s.bad = true) : kind s = 3 := by unfold kind; rw [if_pos h]
theorem next_bad {s : St} (h : kind s = 3) : next s = { s with held := [], bad := true } := by unfold next; rw [if_pos h]
theorem next_none {s : St} (h : kind s = 0) : next s = s := by unfold next; rw [h]; simp
/-- A frame that is told is no longer than what is held. -/
theorem kind_frame {s : St} (h : kind s = 2) : s.bad = false ∧ s.went = true ∧ erF s.held s.most = 0 := by
  unfold kind at h
  by_cases h1 : s.bad = true
  · rw [if_pos h1] at h; omega
  rw [if_neg h1] at h
  by_cases h2 : s.went = true
  · rw [if_pos h2] at h
    by_cases h3 : erF s.held s.most = 0
    · exact ⟨by simpa using h1, h2, h3⟩
    · rw [if_neg h3] at h
      split at h <;> omega
  · rw [if_neg h2] at h
    (repeat' split at h) <;> omega
theorem kind_header {s : St} (h : kind s = 1) : s.bad = false ∧ s.went = false ∧ 8 ≤ s.held.length ∧ s.held.take 8 = hdr := by
  unfold kind at h
  by_cases h1 : s.bad = true
  · rw [if_pos h1] at h; omega
  rw [if_neg h1] at h
  by_cases h2 : s.went = true
  · rw [if_pos h2] at h
    (repeat' split at h) <;> omega
  · rw [if_neg h2] at h
    by_cases h3 : s.held.take 8 = hdr.take s.held.length
    · rw [if_pos h3] at h
      by_cases h4 : s.held.length < 8
      · rw [if_pos h4] at h; omega
      · refine ⟨by simpa using h1, by simpa using h2, by omega, ?_⟩
        rw [h3, List.take_of_length_le (by show 8 ≤ _; omega)]
    · rw [if_neg h3] at h; omega
/-- Where nothing comes there is room. -/
theorem kind_none {s : St} (h : kind s = 0) : s.bad = false ∧ s.held.length < max 8 s.most ∧ (s.went = true → erF s.held s.most = 7) ∧ (s.went = false → s.held.length < 8 ∧ s.held = hdr.take s.held.length) := by
  unfold kind at h
  by_cases h1 : s.bad = true
  · rw [if_pos h1] at h; omega
  rw [if_neg h1] at h
  refine ⟨by simpa using h1, ?_⟩
  by_cases h2 : s.went = true
  · rw [if_pos h2] at h
    by_cases h3 : erF s.held s.most = 0
    · rw [if_pos h3] at h; omega
    rw [if_neg h3] at h
    by_cases h4 : erF s.held s.most = 7
    · refine ⟨?_, fun _ => h4, fun h => by rw [h2] at h; cases h⟩
      unfold erF at h4
      by_cases l4 : s.held.length < 4
      · omega
      rw [if_neg l4] at h4
      by_cases s8 : nb (s.held.take 4) < 8 ∨ s.most < nb (s.held.take 4)
      · rw [if_pos s8] at h4; omega
      rw [if_neg s8] at h4
      by_cases l5 : s.held.length < 5
      · omega
      rw [if_neg l5] at h4
      by_cases p8 : s.held.getD 4 0 < 2 ∨ nb (s.held.take 4) < 4 * s.held.getD 4 0
      · rw [if_pos p8] at h4; omega
      rw [if_neg p8] at h4
      by_cases l6 : s.held.length < 6
      · omega
      rw [if_neg l6] at h4
      by_cases t0 : s.held.getD 5 0 ≠ 0
      · rw [if_pos t0] at h4; omega
      rw [if_neg t0] at h4
      by_cases ls : s.held.length < nb (s.held.take 4)
      · omega
      · rw [if_neg ls] at h4; omega
    · rw [if_neg h4] at h; omega
  · rw [if_neg h2] at h
    by_cases h3 : s.held.take 8 = hdr.take s.held.length
    · rw [if_pos h3] at h
      by_cases h4 : s.held.length < 8
      · refine ⟨by omega, fun h => absurd h h2, fun _ => ⟨h4, ?_⟩⟩
        rw [← h3, List.take_of_length_le (by omega)]
      · rw [if_neg h4] at h; omega
    · rw [if_neg h3] at h; omega
theorem room_none {s : St} (hs : Ok s) (h : kind s = 0) : 0 < room s := by
  obtain ⟨h1, h2, _⟩ := kind_none h
  have := hs.lo
  unfold room
  rw [if_neg (by rw [h1]; simp)]
  omega
end Go.Proofs.Ytdjncacknmejoaa.It
